/- Part of a proof. -/
import Derived.Test.YtaijfhadecennaaGreatEma
import Derived.Test.YtaijfhadecennaaGreatIq
import Derived.Test.YtaijfhadecennaaGreatRi
import Derived.Test.YtaijfhadecennaaGreatBm
import Derived.Test.YtaijfhadecennaaGreatVd
import Derived.Deep.LoopGhost
open Go.Proofs.Tryz
set_option maxHeartbeats 4000000
namespace Go.Proofs.YtaijfhadecennaaGreat.Oct
open Go.RowKit
theorem VX {D:Dv} (h:Well D):∀k,Well (rdK D k):=by
 intro k
 induction k with
 |zero=>exact h
 |succ k ih=>exact ih.read
structure W0 (w:World) (p d:Nat) (F FD:Nat->Prop) (D0:Dv) (L:List Int) (gr cr:Nat) (vM:Value) (aC:Option Addr) (cC:Nat) (R:List Bool) (cs:List Int):Prop where
 lt:∀k,F k->k<w.heap.size
 dev:Dev w d FD (rdK D0 (cnt R))
 well:Well D0
 now:D0.now=L
 rn:R.length=D0.n
 ops:D0.ops<=1000000000000
 cells:w.heap[p]?=some (.cells #[.pointer (some ⟨d,0,none⟩),.slice (some ⟨gr,0,none⟩) R.length cr,.slice none 0 0,.slice aC cs.length cC,vM] 228 (0,0))
 rch:OwnL 0 w (.slice (some ⟨gr,0,none⟩) R.length cr) R
 ch:OwnI 0 w (.slice aC cs.length cC) cs
 fD:∀k,FD k->F k
 fp:F p
 fg:F gr
 fC:∀k,obl aC k->F k
 pD:¬FD p
 gD:¬FD gr
 CD:∀k,obl aC k->¬FD k
 pg:¬p=gr
 pC:¬obl aC p
 gC:¬obl aC gr
def W0A (w:World) (p d:Nat) (F FD:Nat->Prop) (D0:Dv) (L:List Int) (vM:Value) (R:List Bool) (cs:List Int):Prop:=∃gr cr aC cC,W0 w p d F FD D0 L gr cr vM aC cC R cs
section
variable {w w':World} {p d gr cr cC:Nat} {F FD:Nat->Prop} {D0:Dv} {L:List Int} {vM:Value} {aC:Option Addr} {R:List Bool} {cs:List Int}
theorem OwnI.keepO {w w':World} {B:Nat} {a:Option Addr} {n c:Nat} {zs:List Int} (h:OwnI B w (.slice a n c) zs) (k:∀g,obl a g->w'.heap[g]?=w.heap[g]?):OwnI B w' (.slice a n c) zs:=
 yQ h (fun g hg=>k g (zC hg))
theorem W0.at (h:W0 w p d F FD D0 L gr cr vM aC cC R cs):w.cell? ⟨p,0,none⟩=some (.pointer (some ⟨d,0,none⟩))/\w.cell? ⟨p,1,none⟩=some (.slice (some ⟨gr,0,none⟩) R.length cr)/\w.cell? ⟨p,2,none⟩=some (.slice none 0 0)/\w.cell? ⟨p,3,none⟩=some (.slice aC cs.length cC)/\∀i,w.frozen? ⟨p,i,none⟩=false:=by
 refine ⟨?_,?_,?_,?_,fun i=>?_⟩
 iterate 4 (rw [cell_of_row w p _ _ _ (0,0) h.cells];rfl)
 unfold World.frozen?;rw [h.cells];simp
theorem W0.keep (h:W0 w p d F FD D0 L gr cr vM aC cC R cs) (hs:w.heap.size<=w'.heap.size) (k:∀g,F g->w'.heap[g]?=w.heap[g]?):W0 w' p d F FD D0 L gr cr vM aC cC R cs:=
 {h with
  lt:=fun k hk=>qA (h.lt k hk) hs
  dev:=h.dev.keep hs (fun g hg=>k g (h.fD g hg))
  cells:=(k p h.fp).trans h.cells
  rch:=h.rch.kept (k gr h.fg)
  ch:=h.ch.keepO (fun g hg=>k g (h.fC g hg))}
theorem W0.below (h:W0 w p d F FD D0 L gr cr vM aC cC R cs) (hb:Below w.heap.size w w'):W0 w' p d F FD D0 L gr cr vM aC cC R cs:=
 h.keep hb.size (fun g hg=>hb.block g (h.lt g hg))
theorem W0A.keep (h:W0A w p d F FD D0 L vM R cs) (hs:w.heap.size<=w'.heap.size) (k:∀g,F g->w'.heap[g]?=w.heap[g]?):W0A w' p d F FD D0 L vM R cs:=by
 obtain ⟨gr,cr,aC,cC,h⟩:=h;exact ⟨gr,cr,aC,cC,h.keep hs k⟩
theorem W0A.below (h:W0A w p d F FD D0 L vM R cs) (hb:Below w.heap.size w w'):W0A w' p d F FD D0 L vM R cs:=by
 obtain ⟨gr,cr,aC,cC,h⟩:=h;exact ⟨gr,cr,aC,cC,h.below hb⟩
theorem W0A.lt (h:W0A w p d F FD D0 L vM R cs):∀k,F k->k<w.heap.size:=by
 obtain ⟨gr,cr,aC,cC,h⟩:=h;exact h.lt
theorem W0A.fp (h:W0A w p d F FD D0 L vM R cs):F p:=by
 obtain ⟨gr,cr,aC,cC,h⟩:=h;exact h.fp
theorem W0A.rn (h:W0A w p d F FD D0 L vM R cs):R.length=D0.n/\R.length<=4096/\8<=R.length/\L.length=256*R.length/\Bys L:=by
 obtain ⟨gr,cr,aC,cC,h⟩:=h;have h1:=h.dev.1.n4;have h2:=h.dev.1.n8;have h3:=h.dev.1.now;have h4:=h.dev.1.bnow;have h5:=QL D0 (cnt R);rw [h5.2.1] at h1 h2 h3;rw [h5.1,h.now] at h3 h4;have:=h.rn;exact ⟨h.rn,by omega,by omega,by omega,h4⟩
theorem W0.reached (h:W0 w p d F FD D0 L gr cr vM aC cC R cs) {n:Nat} (hn:n<R.length) (hr:R.getD n false=false) {w1 w2:World} (h1:w1=w.setCell ⟨gr,n,none⟩ (.bool true)) (hd:Dev w2 d FD (readD (rdK D0 (cnt R)))) (hc:Ch w1.heap.size FD w1 w2):
  W0 w2 p d F FD D0 L gr cr vM aC cC (R.set n true) cs/\Ch w.heap.size F w w2:=by
 have hset:Ch w.heap.size F w w1:=by rw [h1];exact Ch.set h.fg n _
 have hs1:w1.heap.size=w.heap.size:=by rw [h1,yP]
 rw [hs1] at hc;have hch:Ch w.heap.size F w w2:=hset.trans (hc.mono (jB _) (fun k _ e=>h.fD k e));have kp:∀g,¬g=gr->¬FD g->g<w.heap.size->w2.heap[g]?=w.heap[g]?:=fun g h2 h3 h4=>(hc.block g h4 h3).trans (by rw [h1];exact Below.heap_setCell w ⟨gr,n,none⟩ _ g h2)
 have hcs:=uV hn hr;have hl:(R.set n true).length=R.length:=jY;obtain ⟨-,-,-,hst⟩:=uK h.rch n hn;refine ⟨{h with lt:=fun k hk=>qA (h.lt k hk) hch.size,dev:=by rw [hcs];exact hd,rn:=by rw [hl];exact h.rn,cells:=?_,rch:=?_,ch:=?_},hch⟩
 ·rw [kp p h.pg h.pD (h.lt p h.fp),hl];exact h.cells
 ·rw [hl];have h2:OwnL 0 w1 (.slice (some ⟨gr,0,none⟩) R.length cr) (R.set n true):=by rw [h1];exact hst true
  exact h2.kept (hc.block gr (h.lt gr h.fg) h.gD)
 ·exact h.ch.keepO (fun g hg=>kp g (fun e=>h.gC (e▸hg)) (h.CD g hg) (h.lt g (h.fC g hg)))
set_option maxRecDepth 20000 in
theorem reach0 (h:W0A w p d F FD D0 L vM R cs) (n:Int) (hy:rcB R n=true):
  Calls prog 232 #[.pointer (some ⟨p,0,none⟩),.int .i64 n] w fun e w'=>∃g c,e=.returned (.slice (some ⟨g,0,none⟩) 256 c)/\Own w.heap.size w' (.slice (some ⟨g,0,none⟩) 256 c) (pageOf L n.toNat)/\W0A w' p d F FD D0 L vM (R.set n.toNat true) cs/\Ch w.heap.size F w w':=by
 have hrn:=h.rn;obtain ⟨gr,cr,aC,cC,h⟩:=h;obtain ⟨c0,c1,c2,c3,fz⟩:=h.at;obtain ⟨-,k1,k2,-,-⟩:=h.rch.cap;unfold maxLen at k2;have HX:Hid (W0 w p d F FD D0 L gr cr vM aC cC R cs):=h;obtain ⟨hn0,hn1,hyr⟩:=QZ hy;obtain ⟨nn,rfl⟩:=jW hn0;rw [jS] at hyr;obtain ⟨N,hN⟩:∃N,R.length=N:=⟨_,rfl⟩;have HN:Hid (R.length=N):=hN;rw [hN] at c1 k1 hn1;have h4096:N<=4096:=by omega
 have hlt:nn<N:=by omega
 obtain ⟨-,b1,b2,-⟩:=uK h.rch nn (by omega);rw [hyr] at b1;have hset:Ch w.heap.size (fun k=>k=gr) w (w.setCell ⟨gr,nn,none⟩ (.bool true)):=(Ch.refl _ (fun k=>k=gr) w).setCell (p:=⟨gr,nn,none⟩) (.inr rfl) _;have hdv:Dev (w.setCell ⟨gr,nn,none⟩ (.bool true)) d FD (rdK D0 (cnt R)):=h.dev.ch hset (fun k hk e=>h.gD (e▸hk));have hop:=(QL D0 (cnt R)).2.2.1;have hcl:=XE R;have hops:=h.ops;have hrd:=VV hdv (by omega) nn (by rw [(QL D0 (cnt R)).2.1,<-h.rn];omega);have e0:(w.setCell ⟨gr,nn,none⟩ (.bool true)).cell? ⟨p,0,none⟩=some (.pointer (some ⟨d,0,none⟩)):=(hset.cell (p:=⟨p,0,none⟩) (h.lt p h.fp) h.pg).trans c0;have HYY:Hid (R.getD nn false=false):=hyr;have ht:tellsD (rdK D0 (cnt R))=true:=(VX h.well _).tells;have hdm1:=QB w;unfold ReadEnd at hrd;rw [ht] at hrd;clear h fz hn0 hn1 hrn hN hset hdv hop hcl hops hy hyr ht;obtain ⟨w1,hw1⟩:∃w1,w.setCell ⟨gr,nn,none⟩ (.bool true)=w1:=⟨_,rfl⟩;rw [hw1] at hrd e0;go_enter func232,ntmps232
 go_wp2_with (go_at_call 190;refine hdm1.mono ?_;rintro e w' ⟨rfl,rfl⟩)
 refine hrd.mono ?_;clear hrd;rintro e w2 ⟨he,hd2,hc2⟩;rw [if_pos trivial] at he;obtain ⟨g,c,rfl,ho⟩:=he;obtain ⟨f1,f2⟩:=HX.out.reached (by rw [HN.out];exact hlt) HYY.out hw1.symm hd2 hc2;have hs1:w1.heap.size=w.heap.size:=by rw [<-hw1,yP]
 rw [hs1] at ho
 have HE:Hid (∃g' c',Ending.returned (.slice (some ⟨g,0,none⟩) 256 c)=.returned (.slice (some ⟨g',0,none⟩) 256 c')/\Own w.heap.size w2 (.slice (some ⟨g',0,none⟩) 256 c') (pageOf L nn)/\W0A w2 p d F FD D0 L vM (R.set nn true) cs/\Ch w.heap.size F w w2):=by
  refine ⟨g,c,rfl,?_,⟨_,_,_,_,f1⟩,f2⟩;have e1:=(QL D0 (cnt R)).1;rw [e1,HX.out.now] at ho;exact ho
 have hdm2:=QB w2;clear ho f1 f2 hd2 hc2 hw1 hs1;go_wp2_with (go_at_call 190;refine hdm2.mono ?_;rintro e w' ⟨rfl,rfl⟩)
 go_ret
 exact HE.out
end
end Go.Proofs.YtaijfhadecennaaGreat.Oct
namespace Go.Proofs.YtaijfhadecennaaGreat.Oct.Chs
open Go.RowKit
theorem within_v (n a b:Int) (B:Bool) (h:decide (a<=n/\n<=b)=B) (w:World):
  Calls prog 180 #[.int .i64 n,.int .i64 a,.int .i64 b] w fun e w'=>e=.returned (.bool B)/\w=w':=by
 subst h;by_cases h1:a<=n
 ·by_cases h2:n<=b
  ·rw [jE (show a<=n/\n<=b from ⟨h1,h2⟩)];go_enter func180,ntmps180
   go_wp2;go_ret
   exact ⟨rfl,rfl⟩
  ·rw [jH (show ¬(a<=n/\n<=b) from fun h=>h2 h.2)];go_enter func180,ntmps180
   go_wp2;go_ret
   exact ⟨rfl,rfl⟩
 ·rw [jH (show ¬(a<=n/\n<=b) from fun h=>h1 h.1)];go_enter func180,ntmps180
  go_wp2;go_ret
  exact ⟨rfl,rfl⟩
theorem noughts_v (b off cap n:Nat) (zs:List Int) (w:World) (h:Row w (some ⟨b,off,none⟩) cap zs) (hn:zs.length=n) (V:Bool) (hV:nouB zs=V):
  Calls prog 176 #[.slice (some ⟨b,off,none⟩) n cap] w fun e w'=>e=.returned (.bool V)/\w=w':=by
 subst hn;have hm:=jP h.2.1 h.2.2.1;unfold maxLen at hm;have HCE:Hid (∀i,i<zs.length->w.cell? ⟨b,off+i,none⟩=some (.int .u8 (zs.getD i 0))):=h.cells;have HBY:Hid (Bys zs):=h.1;have HV:Hid (nouB zs=V):=hV;clear hV h;go_enter func176,ntmps176
 go_wp2_with fail
 go_loop [7] (fun i=>∃k:Nat,k<=zs.length/\i=.int .i64 k/\Hid (∀j,j<k->zs.getD j 0=0)) (fun i=>zs.length-(intOf i).toNat)
 case atStart=>exact ⟨0,jT _,rfl,fun j hj=>by omega⟩
 case round=>
  obtain ⟨k,hk,rfl,HK⟩:=hrel;by_cases hlt:k<zs.length
  ·have hc:=HCE.out k hlt;obtain ⟨x,hx⟩:∃x,zs.getD k 0=x:=⟨_,rfl⟩;rw [hx] at hc;by_cases h0:x=0
   ·subst h0;have HX:Hid (zs.getD k 0=0):=hx;clear hx;go_wp2;go_round
    case rel=>exact ⟨k+1,by omega,by go_num,fun j hj=>by
     by_cases e:j=k
     ·rw [e];exact HX.out
     ·exact HK.out j (by omega)⟩
    case measure=>simp [intOf];omega
   ·have e:V=false:=by rw [<-HV.out];exact US hlt (by rw [hx];exact h0)
    have h0b:(x !=0)=true:=by simpa using h0
    subst e;clear hx h0;go_wp2;go_ret
    exact ⟨rfl,rfl⟩
  ·have e:V=true:=by rw [<-HV.out];exact nouB_iff.2 fun j hj=>HK.out j (by omega)
   subst e;go_wp2;go_ret
   exact ⟨rfl,rfl⟩
theorem Need_v (n:Int) (w:World) (h0: -9223372036854775808<=n) (h1:n<=9223372036854775807):Calls prog 90 #[.int .i64 n] w fun e w'=>e=.returned (.int .i64 (nedI n))/\w=w':=by
 by_cases h:n<1
 ·have HE:Hid (nedI n=0):=if_pos h;go_enter func90,ntmps90
  go_wp2;go_ret
  exact ⟨by rw [HE.out];rfl,rfl⟩
 ·have HE:Hid (nedI n=(n-1)/244+1):=if_neg h;obtain ⟨m,rfl⟩:∃m:Nat,n=m+1:=⟨(n-1).toNat,by omega⟩;have hm:m<=9223372036854775806:=by omega
  have e1:((m:Int)+1-1)=m:=by omega
  have e2:IntKind.i64.wrap ((m:Int)/244+1)=(m:Int)/244+1:=by
   simp only [IntKind.wrap,IntKind.signed,IntKind.bits];simp;omega
  rw [e1] at HE;clear h h0 h1;go_enter func90,ntmps90
  go_wp2;go_ret
  exact ⟨by rw [HE.out];rfl,rfl⟩
theorem behind_v (pa:Option Addr) (pcap:Nat) (pg:List Int) (i:Nat) (w:World) (hp:RowI w pa pcap pg) (hi:i<pg.length) (X:Int) (hX:nxt pg i=X):
  Calls prog 182 #[.slice pa pg.length pcap,.int .i64 i] w fun e w'=>e=.returned (.int .i64 X)/\w=w':=by
 have hpl:pg.length<=maxLen:=jP hp.1 hp.2.1;unfold maxLen at hpl;by_cases h:i+1<pg.length
 ·obtain ⟨pb,po,rfl,c1⟩:=hp.at' (i+1) h;have e:pg.getD (i+1) 0=X:=by rw [<-hX];exact (if_pos h).symm
  rw [e] at c1;have hne:((i:Int)==(pg.length:Int)-1)=false:=by simp;omega
  clear e hp hX;go_enter func182,ntmps182
  go_wp2;go_ret
  exact ⟨rfl,rfl⟩
 ·have e:X=0:=by rw [<-hX];exact if_neg h
  subst e;have he:(i:Int)=(pg.length:Int)-1:=by omega
  have hne:((i:Int)==(pg.length:Int)-1)=true:=by simp;omega
  clear hp hX;go_enter func182,ntmps182
  go_wp2;go_ret
  exact ⟨rfl,rfl⟩
def hfB (P:Pg) (X:Int):Bool:=decide (P.kind=5)&&(decide (P.level=0)&&(if X=0 then decide (1<=P.count/\P.count<=244) else decide (2<=X/\X<=4095)&&decide (P.count=244)))
theorem kV (P:Pg) (g:Option Addr) (n c:Nat) (X:Int) (w:World) (V:Bool) (hV:hfB P X=V):
  Calls prog 175 #[.agg #[.int .i64 P.kind,.int .i64 P.level,.int .i64 P.count,.slice g n c],.int .i64 X] w fun e w'=>e=.returned (.bool V)/\Below w.heap.size w w':=by
 obtain ⟨kind,level,count,body⟩:=P;unfold hfB at hV;dsimp only at hV ⊢;by_cases h1:kind=5;rotate_left
 ·rw [jH h1] at hV;have e:V=false:=hV.symm;subst e;have b1:(kind !=5)=true:=by simpa using h1
  clear h1 hV;go_enter func175,ntmps175
  go_wp2;go_ret
  exact ⟨rfl,(Below.refl _ _).alloc (jB _) _⟩
 subst h1;by_cases h2:level=0;rotate_left
 ·rw [jH h2] at hV;have e:V=false:=hV.symm;subst e;have b1:(level !=0)=true:=by simpa using h2
  clear h2 hV;go_enter func175,ntmps175
  go_wp2;go_ret
  exact ⟨rfl,(Below.refl _ _).alloc (jB _) _⟩
 subst h2;by_cases h3:X=0
 ·subst h3;rw [if_pos rfl] at hV;have c1:=fun w=>within_v count 1 244 V hV w
  clear hV;go_enter func175,ntmps175
  go_wp2_with (go_at_call 180;refine (c1 _).mono ?_;rintro e w1 ⟨rfl,rfl⟩)
  go_ret
  exact ⟨rfl,(Below.refl _ _).alloc (jB _) _⟩
 ·rw [if_neg h3] at hV;have b3:(X==0)=false:=by simpa using h3
  have c1:=fun w=>within_v X 2 4095 _ rfl w
  cases h4:decide (2<=X/\X<=4095)
  ·rw [h4] at hV c1;have e:V=false:=hV.symm;subst e;clear hV h4 h3;go_enter func175,ntmps175
   go_wp2_with (go_at_call 180;refine (c1 _).mono ?_;rintro e w1 ⟨rfl,rfl⟩)
   go_ret
   exact ⟨rfl,(Below.refl _ _).alloc (jB _) _⟩
  ·rw [h4] at hV c1;have e:(count==244)=V:=by rw [<-hV];rfl
   clear hV h4 h3;go_enter func175,ntmps175
   go_wp2_with (go_at_call 180;refine (c1 _).mono ?_;rintro e w1 ⟨rfl,rfl⟩)
   go_ret
   exact ⟨by first|rfl|rw [e],(Below.refl _ _).alloc (jB _) _⟩
end Go.Proofs.YtaijfhadecennaaGreat.Oct.Chs
namespace Go.Proofs.YtaijfhadecennaaGreat.Oct.Chs
open Go.RowKit
theorem noughts_e (a:Option Addr) (cap:Nat) (w:World):
  Calls prog 176 #[.slice a 0 cap] w fun e w'=>e=.returned (.bool true)/\w=w':=by
 go_enter func176,ntmps176
 go_wp2_with fail
 go_loop [7] (fun i=>i=.int .i64 0) (fun i=>0)
 case atStart=>rfl
 case round=>
  subst hrel;go_wp2;go_ret
  exact ⟨rfl,rfl⟩
theorem noughts_w (a:Option Addr) (cap n:Nat) (zs:List Int) (w:World) (h:Row w a cap zs) (hn:zs.length=n) (V:Bool) (hV:nouB zs=V):
  Calls prog 176 #[.slice a n cap] w fun e w'=>e=.returned (.bool V)/\w=w':=by
 by_cases h0:zs.length=0
 ·have hz:zs=[]:=qE h0;subst hz;have hv:V=true:=hV.symm;subst hv;have hn0:n=0:=hn.symm;subst hn0;exact noughts_e a cap w
 ·obtain ⟨b,off,rfl⟩:=h.some' (by omega);exact noughts_v b off cap n zs w h hn V hV
theorem part_err (a:Option Addr) (cap n:Nat) (w:World) (P:Pg) (E:Int) (C:Calls prog 173 #[.slice a n cap] w fun e w'=>∃g c,e=.returned (.tuple #[pgV P g c,.int .i64 E])/\Own w.heap.size w' (.slice g P.body.length c) P.body/\Below w.heap.size w w') (hE:(E !=0)=true):
  Calls prog 128 #[.slice a n cap] w fun e w'=>e=.returned (.tuple #[.slice none 0 0,.int .i64 0,.int .i64 E])/\Below w.heap.size w w':=by
 dsimp only [pgV] at C;have HC:Hid _:=C;clear C;go_enter func128,ntmps128
 go_wp2_with fail
 refine (Calls.mono HC.out) ?_;rintro e w1 ⟨g,c,rfl,ho,hb⟩;have HB:Hid (Below w.heap.size w w1):=hb;clear hb ho HC;go_wp2;go_ret3
 exact ⟨rfl,HB.out.alloc HB.out.size _⟩
theorem part_head (a:Option Addr) (cap n:Nat) (w:World) (P:Pg) (C:Calls prog 173 #[.slice a n cap] w fun e w'=>∃g c,e=.returned (.tuple #[pgV P g c,.int .i64 0])/\Own w.heap.size w' (.slice g P.body.length c) P.body/\Below w.heap.size w w') (hlen:P.body.length=248) (hbys:Bys P.body) (X:Int) (hX:nx P=X) (h1:hfB P X=false):
  Calls prog 128 #[.slice a n cap] w fun e w'=>e=.returned (.tuple #[.slice none 0 0,.int .i64 0,.int .i64 4])/\Below w.heap.size w w':=by
 dsimp only [pgV] at C;rw [hlen] at C;have HC:Hid _:=C;clear C;go_enter func128,ntmps128
 go_wp2_with fail
 refine (Calls.mono HC.out) ?_;rintro e w1 ⟨g,c,rfl,ho,hb⟩;have HB:Hid (Below w.heap.size w w1):=hb;have hg:=UV g c P.body 0 4 (w1.alloc (.cells #[.int .i64 P.kind,.int .i64 P.level,.int .i64 P.count,.slice g 248 c] 171)) ((ho.row' hbys).2.below ((Below.refl _ _).alloc (jB _) _));rw [hlen,show getI P.body 0 4=X from hX,show getB P.body 0 4=true from kW (p:=0) (n:=4) hbys (by omega) (by omega) (by omega)] at hg;have HH:Hid (∀w,Calls prog 175 #[.agg #[.int .i64 P.kind,.int .i64 P.level,.int .i64 P.count,.slice g 248 c],.int .i64 X] w fun e w'=>e=.returned (.bool false)/\Below w.heap.size w w'):=fun w=>kV P g 248 c X w false h1
 clear hb ho HC hX h1;go_wp2_with fail
 refine hg.mono ?_;clear hg;rintro e w2 ⟨rfl,hb2⟩;have hsz:(w1.alloc (.cells #[.int .i64 P.kind,.int .i64 P.level,.int .i64 P.count,.slice g 248 c] 171)).heap.size=w1.heap.size+1:=by simp
 have c0:w2.cell? ⟨w1.heap.size,0,none⟩=some (.int .i64 P.kind):=(hb2.cell (p:=⟨w1.heap.size,0,none⟩) (by show w1.heap.size<_;omega)).trans (World.cell?_alloc_at _ _ _ _ rfl);have c1:w2.cell? ⟨w1.heap.size,1,none⟩=some (.int .i64 P.level):=(hb2.cell (p:=⟨w1.heap.size,1,none⟩) (by show w1.heap.size<_;omega)).trans (World.cell?_alloc_at _ _ _ _ rfl);have c2:w2.cell? ⟨w1.heap.size,2,none⟩=some (.int .i64 P.count):=(hb2.cell (p:=⟨w1.heap.size,2,none⟩) (by show w1.heap.size<_;omega)).trans (World.cell?_alloc_at _ _ _ _ rfl);have c3:w2.cell? ⟨w1.heap.size,3,none⟩=some (.slice g 248 c):=(hb2.cell (p:=⟨w1.heap.size,3,none⟩) (by show w1.heap.size<_;omega)).trans (World.cell?_alloc_at _ _ _ _ rfl);have HB2:Hid (Below w.heap.size w w2):=(HB.out.alloc HB.out.size _).trans (hb2.mono (HB.out.alloc HB.out.size _).size);clear hb2 hsz;go_wp2_with fail
 refine (HH.out _).mono ?_;rintro e w3 ⟨rfl,hb3⟩;have HB3:Hid (Below w.heap.size w w3):=HB2.out.trans (hb3.mono HB2.out.size);clear hb3;go_wp2;go_ret3
 exact ⟨rfl,HB3.out⟩
def NewAt (V:Bool) (g:Option Addr) (B:Nat):Prop:=V=true->∃b o,g=some ⟨b,o,none⟩/\B<=b
theorem part_got (a:Option Addr) (cap n:Nat) (w:World) (P:Pg) (C:Calls prog 173 #[.slice a n cap] w fun e w'=>∃g c,e=.returned (.tuple #[pgV P g c,.int .i64 0])/\Own w.heap.size w' (.slice g P.body.length c) P.body/\Below w.heap.size w w') (hlen:P.body.length=248) (hbys:Bys P.body) (X:Int) (hX:nx P=X) (h1:hfB P X=true) (k:Nat) (hk:P.count=k) (hk1:1<=k) (hk2:k<=244) (V:Bool) (hV:nouB (P.body.drop (4+k))=V):
  Calls prog 128 #[.slice a n cap] w fun e w'=>∃g c,e=.returned (.tuple #[.slice g (if V then k else 0) c,.int .i64 (if V then X else 0),.int .i64 (if V then 0 else 4)])/\(g=none->c=0)/\Row w' g c (if V then (P.body.drop 4).take k else [])/\Below w.heap.size w w'/\NewAt V g w.heap.size:=by
 have HH:Hid (∀g c w,Calls prog 175 #[.agg #[.int .i64 P.kind,.int .i64 P.level,.int .i64 k,.slice g 248 c],.int .i64 X] w fun e w'=>e=.returned (.bool true)/\Below w.heap.size w w'):=fun g c w=>by rw [<-hk];exact kV P g 248 c X w true h1
 dsimp only [pgV] at C;rw [hlen,hk] at C;have HC:Hid _:=C;clear C hk h1;go_enter func128,ntmps128
 go_wp2_with fail
 refine (Calls.mono HC.out) ?_;rintro e w1 ⟨g,c,rfl,ho,hb⟩;have HB:Hid (Below w.heap.size w w1):=hb;have HR:Hid (Row w1 g c P.body):=(ho.row' hbys).2;have hg:=UV g c P.body 0 4 (w1.alloc (.cells #[.int .i64 P.kind,.int .i64 P.level,.int .i64 k,.slice g 248 c] 171)) (HR.out.below ((Below.refl _ _).alloc (jB _) _));rw [hlen,show getI P.body 0 4=X from hX,show getB P.body 0 4=true from kW (p:=0) (n:=4) hbys (by omega) (by omega) (by omega)] at hg;obtain ⟨b,off,hgg⟩:=HR.out.some' (by omega);subst hgg;have HLO:Hid (w.heap.size<=b):=(World.ownsRow.lt ho b rfl).1;clear hb ho HC hX;have hcap:=HR.out.2.1;have hmx:=HR.out.2.2.1;unfold maxLen at hmx;rw [hlen] at hcap;go_wp2_with fail
 refine hg.mono ?_;clear hg;rintro e w2 ⟨rfl,hb2⟩;have hsz:(w1.alloc (.cells #[.int .i64 P.kind,.int .i64 P.level,.int .i64 k,.slice (some ⟨b,off,none⟩) 248 c] 171)).heap.size=w1.heap.size+1:=by simp
 have c0:w2.cell? ⟨w1.heap.size,0,none⟩=some (.int .i64 P.kind):=(hb2.cell (p:=⟨w1.heap.size,0,none⟩) (by show w1.heap.size<_;omega)).trans (World.cell?_alloc_at _ _ _ _ rfl);have c1:w2.cell? ⟨w1.heap.size,1,none⟩=some (.int .i64 P.level):=(hb2.cell (p:=⟨w1.heap.size,1,none⟩) (by show w1.heap.size<_;omega)).trans (World.cell?_alloc_at _ _ _ _ rfl);have c2:w2.cell? ⟨w1.heap.size,2,none⟩=some (.int .i64 k):=(hb2.cell (p:=⟨w1.heap.size,2,none⟩) (by show w1.heap.size<_;omega)).trans (World.cell?_alloc_at _ _ _ _ rfl);have c3:w2.cell? ⟨w1.heap.size,3,none⟩=some (.slice (some ⟨b,off,none⟩) 248 c):=(hb2.cell (p:=⟨w1.heap.size,3,none⟩) (by show w1.heap.size<_;omega)).trans (World.cell?_alloc_at _ _ _ _ rfl);have HB2:Hid (Below w.heap.size w w2):=(HB.out.alloc HB.out.size _).trans (hb2.mono (HB.out.alloc HB.out.size _).size);have HB12:Hid (Below w1.heap.size w1 w2):=((Below.refl _ w1).alloc (jB _) _).trans (hb2.mono (by omega));have HS2:Hid (w1.heap.size<w2.heap.size):=qA (by omega) hb2.size;clear hb2 hsz;go_wp2_with fail
 refine (HH.out _ _ _).mono ?_;rintro e w3 ⟨rfl,hb3⟩;have HB3:Hid (Below w.heap.size w w3):=HB2.out.trans (hb3.mono HB2.out.size);have HR3:Hid (Row w3 (some ⟨b,off,none⟩) c P.body):=(HR.out.below HB12.out).below hb3
 replace c2:=(hb3.cell (p:=⟨w1.heap.size,2,none⟩) HS2.out).trans c2
 replace c3:=(hb3.cell (p:=⟨w1.heap.size,3,none⟩) HS2.out).trans c3
 clear hb3 c0 c1;by_cases hck:c=4+k
 ·have hk8:k=244:=by omega
  subst hk8;subst hck;have hv:V=true:=by rw [<-hV,qW (by omega)];rfl
  subst hv;have CN:=noughts_e (some ⟨b,off,none⟩) 0 w3;go_wp2_with fail
  refine CN.mono ?_;clear CN;rintro e w4 ⟨rfl,rfl⟩;go_wp2;go_ret3
  exact ⟨some ⟨b,off+4,none⟩,244,rfl,(fun h=>by cases h),(HR3.out.drop' 4 (by omega)).take' 244 244 (by rw [qC];omega) (by omega) (by omega),HB3.out,fun _=>⟨b,off+4,rfl,HLO.out⟩⟩
 ·have hrd:=HR3.out.drop' (4+k) (by omega);have CN:=noughts_w _ _ (248-(4+k)) _ _ hrd (by rw [qC,hlen]) V hV;clear hrd;have hk4:((4+k:Nat):Int)=4+(k:Int):=by omega
  cases V
  ·go_wp2_with fail
   refine CN.mono ?_;clear CN;rintro e w4 ⟨rfl,rfl⟩;go_wp2;go_ret3
   exact ⟨none,0,rfl,fun _=>rfl,row0 _,HB3.out,fun e=>by cases e⟩
  ·go_wp2_with fail
   refine CN.mono ?_;clear CN;rintro e w4 ⟨rfl,rfl⟩;go_wp2;go_ret3
   exact ⟨some ⟨b,off+4,none⟩,k,rfl,(fun h=>by cases h),(HR3.out.drop' 4 (by omega)).take' k k (by rw [qC];omega) (by omega) (by omega),HB3.out,fun _=>⟨b,off+4,rfl,HLO.out⟩⟩
theorem nx_up {P:Pg} (h:Bys P.body):0<=nx P:=by
 unfold nx getI;split
 ·unfold capI;split
  ·exact (XT h 0 4 (by omega)).1
  ·omega
 ·omega
theorem GF {P:Pg} (h0:0<=nx P):hfB P (nx P)=true↔P.kind=5/\P.level=0/\(1<=P.count/\P.count<=244)/\(nx P≠1/\nx P<4096/\(nx P≠0->P.count=244)):=by
 unfold hfB;by_cases h:nx P=0
 ·rw [if_pos h];simp only [jO,jR,h];constructor
  ·exact fun ⟨a,b,c⟩=>⟨a,b,c,by omega,by omega,fun x=>absurd rfl x⟩
  ·exact fun ⟨a,b,c,_⟩=>⟨a,b,c⟩
 ·rw [if_neg h];simp only [jO,jR];constructor
  ·exact fun ⟨a,b,c,d⟩=>⟨a,b,by omega,by omega,by omega,fun _=>d⟩
  ·exact fun ⟨a,b,c,d,e,f⟩=>⟨a,b,by omega,f h⟩
theorem Part_v (a:Option Addr) (cap:Nat) (zs:List Int) (w:World) (h:Row w a cap zs):Calls prog 128 #[.slice a zs.length cap] w (PtR w zs):=by
 have C:=open_v a cap zs.length zs w h rfl _ rfl _ rfl;by_cases ho:opE zs=0;rotate_left
 ·obtain ⟨e1,e2,e3⟩:=gP ho;refine (part_err a cap zs.length w _ _ C (by simpa using ho)).mono ?_;rintro e w' ⟨rfl,hb⟩;unfold PtR;rw [e1,e2,e3];exact ⟨none,0,rfl,fun _=>rfl,row0 _,hb⟩
 rw [ho] at C;obtain ⟨_,_,hbys,hlen⟩:=JW h.1 ho;have h0:=nx_up hbys;by_cases hh:(opP zs).kind=5/\(opP zs).level=0/\(1<=(opP zs).count/\(opP zs).count<=244)/\(nx (opP zs)≠1/\nx (opP zs)<4096/\(nx (opP zs)≠0->(opP zs).count=244));rotate_left
 ·obtain ⟨e1,e2,e3⟩:=vN ho (XS hh);refine (part_head a cap zs.length w _ C hlen hbys _ rfl (by rw [<-Bool.not_eq_true,GF h0];exact hh)).mono ?_;rintro e w' ⟨rfl,hb⟩;unfold PtR;rw [e1,e2,e3];exact ⟨none,0,rfl,fun _=>rfl,row0 _,hb⟩
 obtain ⟨k,hk⟩:=jW (show 0<=(opP zs).count by omega);obtain ⟨V,hV⟩:∃V,nouB ((opP zs).body.drop (4+k))=V:=⟨_,rfl⟩;have hg:=part_got a cap zs.length w _ C hlen hbys _ rfl ((GF h0).2 hh) k hk (by omega) (by omega) V hV;have hp:ptB (opP zs)=V:=by rw [UR hh.1 hh.2.1 hh.2.2.1.1 hh.2.2.1.2 hh.2.2.2.1 hh.2.2.2.2.1 hh.2.2.2.2.2,hk,jS];exact hV
 refine hg.mono ?_;rintro e w' ⟨g,c,rfl,h1,h2,hb,-⟩;unfold PtR;cases V
 ·obtain ⟨e1,e2,e3⟩:=vN ho hp;rw [e1,e2,e3];exact ⟨g,c,rfl,h1,h2,hb⟩
 ·have e1:ptE zs=0:=by unfold ptE;rw [if_pos ho,hp];rfl
  have e2:ptL zs=((opP zs).body.drop 4).take k:=by unfold ptL;rw [e1,hk];rfl
  have e3:ptN zs=nx (opP zs):=by unfold ptN;rw [e1];rfl
  rw [e1,e2,e3];have hl:(((opP zs).body.drop 4).take k).length=k:=by rw [qG,qC,hlen];omega
  rw [hl];exact ⟨g,c,rfl,h1,h2,hb⟩
theorem Part_new (a:Option Addr) (cap:Nat) (zs:List Int) (w:World) (h:Row w a cap zs) (hE:ptE zs=0):Calls prog 128 #[.slice a zs.length cap] w fun e w'=>∃b o c,e=.returned (.tuple #[.slice (some ⟨b,o,none⟩) (ptL zs).length c,.int .i64 (ptN zs),.int .i64 0])/\w.heap.size<=b/\Row w' (some ⟨b,o,none⟩) c (ptL zs)/\Below w.heap.size w w':=by
 have C:=open_v a cap zs.length zs w h rfl _ rfl _ rfl
 have ho:opE zs=0:=by
  by_cases ho:opE zs=0
  ·exact ho
  ·exact absurd (hE.symm.trans (gP ho).1).symm ho
 rw [ho] at C;obtain ⟨_,_,hbys,hlen⟩:=JW h.1 ho;have h0:=nx_up hbys
 have hpt:ptB (opP zs)=true:=by
  cases hb:ptB (opP zs) with
  |true=>rfl
  |false=>have:=(vN ho hb).1;rw [hE] at this;cases this
 have hh:(opP zs).kind=5/\(opP zs).level=0/\(1<=(opP zs).count/\(opP zs).count<=244)/\(nx (opP zs)≠1/\nx (opP zs)<4096/\(nx (opP zs)≠0->(opP zs).count=244)):=by
  by_cases hh:(opP zs).kind=5/\(opP zs).level=0/\(1<=(opP zs).count/\(opP zs).count<=244)/\(nx (opP zs)≠1/\nx (opP zs)<4096/\(nx (opP zs)≠0->(opP zs).count=244))
  ·exact hh
  ·rw [XS hh] at hpt;cases hpt
 obtain ⟨k,hk⟩:=jW (show 0<=(opP zs).count by omega)
 have hV:nouB ((opP zs).body.drop (4+k))=true:=by
  rw [UR hh.1 hh.2.1 hh.2.2.1.1 hh.2.2.1.2 hh.2.2.2.1 hh.2.2.2.2.1 hh.2.2.2.2.2,hk,jS] at hpt;exact hpt
 have hg:=part_got a cap zs.length w _ C hlen hbys _ rfl ((GF h0).2 hh) k hk (by omega) (by omega) true hV;refine hg.mono ?_;rintro e w' ⟨g,c,rfl,h1,h2,hb,h3⟩;obtain ⟨b,o,rfl,hlo⟩:=h3 rfl;have e2:ptL zs=((opP zs).body.drop 4).take k:=by unfold ptL;rw [if_pos hE,hk];rfl
 have e3:ptN zs=nx (opP zs):=by unfold ptN;rw [if_pos hE]
 have hl:(((opP zs).body.drop 4).take k).length=k:=by rw [qG,qC,hlen];omega
 rw [e2,e3,hl];exact ⟨b,o,c,rfl,hlo,h2,hb⟩
end Go.Proofs.YtaijfhadecennaaGreat.Oct.Chs
namespace Go.Proofs.YtaijfhadecennaaGreat.Oct
open Go.RowKit
theorem RWA.setBad {w:World} {p ic:Nat} {F:Nat->Prop} {ia:Option Addr} {L:List Int} {q:Nat->Value} {W:Wk} (h:RWA w p F ia ic L q W) (x:Bool):RWA (w.setCell ⟨p,16,none⟩ (.bool x)) p F ia ic L q {W with bad:=x}:=by
 obtain ⟨_,_,_,_,_,_,h⟩:=h;exact ⟨_,_,_,_,_,_,h.setBad x⟩
theorem RowC.keepO {w w':World} {a:Option Addr} {c:Nat} {l:List C4} (h:RowC w a c l) (k:∀g,obl a g->w'.heap[g]?=w.heap[g]?):RowC w' a c l:=by
 obtain ⟨h1,h2,h3,h4⟩:=h;refine ⟨h1,h2,h3,?_⟩;rcases h4 with h4|⟨b,off,ha,hc⟩
 ·exact .inl h4
 ·exact .inr ⟨b,off,ha,fun i hi=>(hc i hi).same (k b ⟨_,ha,rfl⟩)⟩
theorem chGo_end {L:List Int} {kd:Int} {f:Nat} {n:Int} {W:Wk} {out:List Int} (h:n=0\/W.bad=true):chGo L kd f n W out=(W,out):=by
 cases f with
 |zero=>rfl
 |succ f=>unfold chGo;rw [if_pos h]
theorem chGo_no {L:List Int} {kd:Int} {f:Nat} {n:Int} {W:Wk} {out:List Int} (h0:¬n=0) (hb:W.bad=false) (hk:kdB W n kd=false):chGo L kd (f+1) n W out=({W with bad:=true},out):=by
 unfold chGo;rw [if_neg (by rw [hb];simpa using h0),wpg_no hk,if_pos rfl]
theorem chGo_yes {L:List Int} {kd:Int} {f:Nat} {n:Int} {W:Wk} {out:List Int} (h0:¬n=0) (hb:W.bad=false) (hk:kdB W n kd=true) (hl:out.length+(ptL (pageOf L n.toNat)).length<=1048576):
  chGo L kd (f+1) n W out=chGo L kd f (ptN (pageOf L n.toNat)) {W with kd:=W.kd.set n.toNat kd,bad:=!(ptE (pageOf L n.toNat)==0)} (out++ptL (pageOf L n.toNat)):=by
 have e:chGo L kd (f+1) n W out=if n=0\/W.bad=true then (W,out) else if (wpg W n kd).bad=true then (wpg W n kd,out) else
   chGo L kd f (ptN (pageOf L n.toNat)) {wpg W n kd with bad:=!(ptE (pageOf L n.toNat)==0)||decide (1048576<out.length+(ptL (pageOf L n.toNat)).length)} (out++ptL (pageOf L n.toNat)):=rfl
 rw [e,if_neg (by rw [hb];simpa using h0),if_neg (by rw [wpg_bad hb,hk];simp),jH (by omega),Bool.or_false,FT hk]
structure ChI (w wr:World) (p:Nat) (F:Nat->Prop) (ia:Option Addr) (ic:Nat) (L:List Int) (q:Nat->Value) (kd:Int) (N f:Nat) (n:Int) (v:Value) (W':Wk) (out:List Int) (fin:Wk × List Int):Prop where
 rw:RWA wr p F ia ic L q W'
 kl:W'.kd.length=N
 fin:chGo L kd f n W' out=fin
 own:Own w.heap.size wr v out
 by':Bys out
 ch:Ch w.heap.size F w wr
 n: -9223372036854775808<=n/\n<=9223372036854775807
 fu:N<f+cnt (kR W'.kd)
 ln:out.length<=244*cnt (kR W'.kd)
theorem RWA.kl {w:World} {p ic:Nat} {F:Nat->Prop} {ia:Option Addr} {L:List Int} {q:Nat->Value} {W:Wk} (h:RWA w p F ia ic L q W):W.kd.length<=4096:=by
 obtain ⟨_,_,_,_,_,_,h⟩:=h;exact h.kl
theorem nx_bd {z:List Int} (hz:Bys z):0<=ptN z/\ptN z<=4096:=by
 unfold ptN;split
 ·next e=>
  unfold ptE at e;split at e
  ·split at e
   ·next hb=>
    unfold ptB at hb;simp only [jO,jR] at hb;have h1:=hb.2.2.2.1.2.1;have h0:0<=nx (opP z):=by unfold nx;exact (getI_bd (XA hz) 0 4).1
    omega
   ·cases e
  ·contradiction
 ·omega
theorem kdB_cnt {W:Wk} {n kd:Int} (hk:(kd==120)=false) (hk0:kd≠0) (h:kdB W n kd=true):cnt (kR (W.kd.set n.toNat kd))=cnt (kR W.kd)+1:=by
 have h2:=(GE h).1;have hr:=kdB_kR (W:=W) hk h2;rw [h] at hr;obtain ⟨r1,r2,r3⟩:=QZ hr.symm;rw [kR_set hk0];exact uV (by omega) r3
theorem gO {z:List Int} (hz:Bys z):Bys (ptL z):=by
 unfold ptL;split
 ·intro y hy;exact XA hz y (jV (jU hy))
 ·intro y hy;cases hy
theorem RWA.low {w w2 w5:World} {p ic:Nat} {F:Nat->Prop} {ia:Option Addr} {L:List Int} {q:Nat->Value} {W:Wk} (h:RWA w2 p F ia ic L q W) (hF:∀k,F k->k<w.heap.size) (hi:∀k,obl ia k->k<w.heap.size) (hb:Below w.heap.size w2 w5):RWA w5 p F ia ic L q W:=by
 obtain ⟨_,_,_,_,_,_,h⟩:=h;exact ⟨_,_,_,_,_,_,h.keep hb.size (fun g hg=>hb.block g (hF g hg)) (fun g hg=>hb.block g (hi g hg))⟩
theorem ChI.next {w wr w5:World} {p ic N f1:Nat} {F:Nat->Prop} {ia:Option Addr} {L:List Int} {q:Nat->Value} {kd n' Y:Int} {v v5:Value} {W':Wk} {out T:List Int} {fin:Wk × List Int} {b:Bool} (h:ChI w wr p F ia ic L q kd N (f1+1) n' v W' out fin)
  (hF:∀k,F k->k<w.heap.size) (hi:∀k,obl ia k->k<w.heap.size) {w2:World} (h2:RWA w2 p F ia ic L q {W' with kd:=W'.kd.set n'.toNat kd,bad:=b}) (hc:Ch w.heap.size F w w2) (ho:Own w.heap.size w5 v5 (out++T)) (hb:Below w.heap.size w2 w5) (hT:Bys T) (hl:T.length<=244) (hY:0<=Y/\Y<=4096) (hcn:cnt (kR (W'.kd.set n'.toNat kd))=cnt (kR W'.kd)+1) (hfin:chGo L kd f1 Y {W' with kd:=W'.kd.set n'.toNat kd,bad:=b} (out++T)=fin):
  ChI w w5 p F ia ic L q kd N f1 Y v5 {W' with kd:=W'.kd.set n'.toNat kd,bad:=b} (out++T) fin:=by
 have h1:=h.fu;have h2':=h.ln;refine {rw:=h2.low hF hi hb,kl:=by simp only [jY];exact h.kl,fin:=hfin,own:=ho,by':=h.by'.app hT,ch:=hc.trans (Ch.of F hb),n:=by omega,fu:=?_,ln:=?_}
 ·simp only [hcn];omega
 ·simp only [hcn,jN];omega
section
variable {w w':World} {p ic:Nat} {F:Nat->Prop} {ia:Option Addr} {L:List Int} {q:Nat->Value} {W:Wk}
set_option maxRecDepth 20000 in
theorem FK (h:RWA w p F ia ic L q W) (hk0:0<W.kd.length) (kd:Int) (hkd:0<=kd/\kd<=255) (hkx:(kd==120)=false) (hkn:kd≠0) (n:Int) (hn: -9223372036854775808<=n/\n<=9223372036854775807) (f:Nat) (hf:W.kd.length<f) (fin:Wk × List Int) (hfin:chGo L kd f n W []=fin):
  Calls prog 167 #[.pointer (some ⟨p,0,none⟩),.int .i64 n,.int .u8 kd] w fun e w'=>∃g c,e=.returned (.slice g fin.2.length c)/\Own w.heap.size w' (.slice g fin.2.length c) fin.2/\Bys fin.2/\RWA w' p F ia ic L q fin.1/\Ch w.heap.size F w w':=by
 have HI0:Hid (ChI w w p F ia ic L q kd W.kd.length f n (.slice none 0 0) W [] fin):=⟨h,rfl,hfin,⟨rfl,.inl ⟨rfl,rfl⟩⟩,fun z hz=>(by cases hz),Ch.refl _ _ _,hn,by omega,by simp⟩;have HK:Hid (0<W.kd.length/\(kd==120)=false/\kd≠0/\(0<=kd/\kd<=255)/\W.kd.length<=4096/\∀k,F k->k<w.heap.size):=⟨hk0,hkx,hkn,hkd,h.kl,h.lt⟩;have HIL:Hid (∀k,obl ia k->k<w.heap.size):=h.ilt hk0;clear h hk0 hkx hkn hf hfin hn;go_enter func167,ntmps167
 go_wp2_with fail
 go_loopg [1,7] f (fun k i v wr=>∃(n':Int) (W':Wk) (out:List Int),i=.int .i64 n'/\Hid (ChI w wr p F ia ic L q kd W.kd.length k n' v W' out fin))
 case atStart=>exact ⟨n,W,[],rfl,HI0.out⟩
 case round=>
  clear HI0;obtain ⟨n',W',out,rfl,HI⟩:=hrel;have c16:=HI.out.rw.c16.1;obtain ⟨ov,oc,hv,hrow⟩:=HI.out.own.row HI.out.by';have hN:W'.kd.length<=4096:=HI.out.rw.kl;have hol:out.length<=999424:=by have:=HI.out.ln;have:=XE (kR W'.kd);rw [JO] at this;omega
  subst hv;by_cases hend:n'=0\/W'.bad=true
  ·have HF:Hid (fin=(W',out)):=HI.out.fin.symm.trans (chGo_end hend);obtain ⟨wb,hwb⟩:∃wb,W'.bad=wb:=⟨_,rfl⟩;rw [hwb] at c16 hend;clear hwb
   have HD:Hid (∃g c,Ending.returned (.slice ov out.length oc)=.returned (.slice g fin.2.length c)/\Own w.heap.size wr (.slice g fin.2.length c) fin.2/\Bys fin.2/\RWA wr p F ia ic L q fin.1/\Ch w.heap.size F w wr):=by
    show ∃g c,_;rw [HF.out];exact ⟨ov,oc,rfl,HI.out.own,HI.out.by',HI.out.rw,HI.out.ch⟩
   clear HI HF hrow;by_cases hn0:n'=0
   ·subst hn0;clear hend;go_wp2;go_ret
    exact HD.out
   ·have:wb=true:=by rcases hend with e|e;exact absurd e hn0;exact e
    subst this;have hn1:(n'==0)=false:=by simpa using hn0
    have hn2:(n' !=0)=true:=by simpa using hn0
    clear hend hn0;go_wp2;go_ret
    exact HD.out
  ·have hb':W'.bad=false:=by cases e:W'.bad with|true=>exact absurd (.inr e) hend|false=>rfl
   have hn0:¬n'=0:=fun e=>hend (.inl e)
   clear hend;rw [hb'] at c16;have hn1:(n'==0)=false:=by simpa using hn0
   have hn2:(n' !=0)=true:=by simpa using hn0
   obtain ⟨f1,hf1⟩:∃f1,gk=f1+1:=⟨gk-1,by have:=HI.out.fu;have:=XE (kR W'.kd);rw [JO,HI.out.kl] at this;omega⟩;subst hf1;obtain ⟨gk',ck,aP,aT,cP,cT,hR⟩:=HI.out.rw;have HN0:Hid (¬n'=0/\W'.bad=false):=⟨hn0,hb'⟩;cases hk:kdB W' n' kd with
   |false=>
    have hp:=page_no hR n' kd HI.out.n hk;have HF:Hid (fin=({W' with bad:=true},out)):=HI.out.fin.symm.trans (chGo_no hn0 hb' hk);clear hR hn0 hb' hk hrow;go_wp2_with fail
    refine hp.mono ?_;clear hp;rintro e w1 ⟨rfl,h1,hc1⟩;have d16:=h1.at.2.2.2.2;simp only at d16
    have HD:Hid (∃g c,Ending.returned (.slice ov out.length oc)=.returned (.slice g fin.2.length c)/\Own w.heap.size w1 (.slice g fin.2.length c) fin.2/\Bys fin.2/\RWA w1 p F ia ic L q fin.1/\Ch w.heap.size F w w1):=by
     show ∃g c,_;rw [HF.out];refine ⟨ov,oc,rfl,yQ HI.out.own (fun g hg=>hc1.block g (World.ownsRow.lt HI.out.own g hg).2 (fun e=>?_)),HI.out.by',⟨_,_,_,_,_,_,h1⟩,HI.out.ch.trans (hc1.mono HI.out.ch.size (fun _ _ e=>e))⟩;have:=HI.out.own.lt' g hg;have:=HK.out.2.2.2.2.2 g e;omega
    clear h1 hc1 HI HF c16;go_wp2;go_ret
    exact HD.out
   |true=>
    have hp:=page_yes hR n' kd HK.out.2.2.2.1 hk;have hpl:=gM (z:=pageOf L n'.toNat);have HFY:Hid (chGo L kd f1 (ptN (pageOf L n'.toNat)) {W' with kd:=W'.kd.set n'.toNat kd,bad:=!(ptE (pageOf L n'.toNat)==0)} (out++ptL (pageOf L n'.toNat))=fin):=(chGo_yes hn0 hb' hk (by omega)).symm.trans HI.out.fin;have HCN:Hid (cnt (kR (W'.kd.set n'.toNat kd))=cnt (kR W'.kd)+1):=kdB_cnt HK.out.2.1 HK.out.2.2.1 hk;have hzb:Bys (pageOf L n'.toNat):=JI hR.img.1 _;have HZB:Hid (Bys (ptL (pageOf L n'.toNat))/\0<=ptN (pageOf L n'.toNat)/\ptN (pageOf L n'.toNat)<=4096):=⟨gO hzb,nx_bd hzb⟩;clear hR hn0 hb' hk hrow hzb;obtain ⟨z,hz⟩:∃z,pageOf L n'.toNat=z:=⟨_,rfl⟩;rw [hz] at hp hpl HFY HZB;obtain ⟨T,hT⟩:∃T,ptL z=T:=⟨_,rfl⟩;obtain ⟨E,hE⟩:∃E,ptE z=E:=⟨_,rfl⟩;obtain ⟨Y,hY⟩:∃Y,ptN z=Y:=⟨_,rfl⟩;obtain ⟨tl,htl⟩:∃tl,T.length=tl:=⟨_,rfl⟩;rw [hT,htl] at hpl;rw [hT,hE,hY] at HFY;rw [hT,hY] at HZB;have HT:Hid (ptL z=T/\ptE z=E/\ptN z=Y/\T.length=tl):=⟨hT,hE,hY,htl⟩;clear hT hE hY htl hz;go_wp2_with fail
    refine hp.mono ?_;clear hp;rintro e w1 ⟨⟨a',c',rfl,hr1,hl1,-⟩,h1,hc1⟩;have d16:=h1.at.2.2.2.2;have z16:=h1.frz 16;simp only [HN0.out.2] at d16;have hlp:p<w1.heap.size:=h1.lt p h1.fp;have hpt:=rPart_v (some a') c' 256 z w1 hr1 hl1 E HT.out.2.1 T HT.out.1 tl HT.out.2.2.2 Y HT.out.2.2.1
    have H1:Hid (RWA w1 p F ia ic L q {W' with kd:=W'.kd.set n'.toNat kd}/\Ch w.heap.size F w w1/\Own w.heap.size w1 (.slice ov out.length oc) out):=by
     refine ⟨⟨_,_,_,_,_,_,h1⟩,HI.out.ch.trans (hc1.mono HI.out.ch.size (fun _ _ e=>e)),yQ HI.out.own (fun g hg=>hc1.block g (World.ownsRow.lt HI.out.own g hg).2 (fun e=>?_))⟩;have:=HI.out.own.lt' g hg;have:=HK.out.2.2.2.2.2 g e;omega
    clear h1 hc1 hr1 hl1 c16;go_wp2_with fail
    refine hpt.mono ?_;clear hpt;rintro e w2 ⟨g,c,rfl,hnil,hrow2,hb2⟩;have e16:=(hb2.cell (p:=⟨p,16,none⟩) hlp).trans d16;have x16:=(hb2.frozen (p:=⟨p,16,none⟩) hlp).trans z16
    have H2:Hid (RWA w2 p F ia ic L q {W' with kd:=W'.kd.set n'.toNat kd}/\Ch w.heap.size F w w2/\Own w.heap.size w2 (.slice ov out.length oc) out/\Row w2 g c T/\(g=none->c=0)):=
     ⟨H1.out.1.below (by show 0<(W'.kd.set _ _).length;rw [jY,HI.out.kl];exact HK.out.1) hb2,H1.out.2.1.trans (Ch.of F (hb2.mono H1.out.2.1.size)),vR H1.out.2.2 hb2,hrow2,hnil⟩
    clear hb2 hrow2 hnil d16 z16 H1 hlp;by_cases hE0:E=0
    ·subst hE0;have hoc:=(H2.out.2.2.1.row' HI.out.by').2.2.1;have hle:(out.length:Int)+(tl:Int)<=1048576:=by omega
     go_wp2_with (at_builtin;refine ZP rfl _ _ rfl w.heap.size (.slice ov out.length oc) out rfl H2.out.2.2.1 g T c (by rw [HT.out.2.2.2];rfl) H2.out.2.2.2.1 H2.out.2.2.2.2 (by rw [HT.out.2.2.2];omega) H2.out.2.1.size ?_;intro v5 w5 ho5 hb5;have H5:Hid (Own w.heap.size w5 v5 (out++T)/\Below w.heap.size w2 w5):=⟨ho5,hb5⟩;clear ho5 hb5)
     go_roundg f1
     case rel=>exact ⟨Y,_,_,rfl,HI.out.next (b:=false) HK.out.2.2.2.2.2 HIL.out (by have:=H2.out.1;rw [HN0.out.2] at this;exact this) H2.out.2.1 H5.out.1 H5.out.2 HZB.out.1 (by rw [HT.out.2.2.2];exact hpl) HZB.out.2 HCN.out HFY.out⟩
     case measure=>omega
    ·have hE1:(E==0)=false:=by simpa using hE0
     have hE2:(E !=0)=true:=by simpa using hE0
     have hT0:T=[]/\Y=0:=by
      rw [<-HT.out.1,<-HT.out.2.2.1];unfold ptL ptN;rw [HT.out.2.1,if_neg hE0,if_neg hE0];exact ⟨rfl,rfl⟩
     obtain ⟨rfl,rfl⟩:=hT0;have htl:tl=0:=HT.out.2.2.2.symm;subst htl;have hch:Ch w2.heap.size F w2 (w2.setCell ⟨p,16,none⟩ (.bool true)):=Ch.set H2.out.1.fp _ _
     have H3:Hid (RWA (w2.setCell ⟨p,16,none⟩ (.bool true)) p F ia ic L q {W' with kd:=W'.kd.set n'.toNat kd,bad:=true}/\Ch w.heap.size F w (w2.setCell ⟨p,16,none⟩ (.bool true))/\Own w.heap.size (w2.setCell ⟨p,16,none⟩ (.bool true)) (.slice ov out.length oc) out/\Row (w2.setCell ⟨p,16,none⟩ (.bool true)) g c []/\(g=none->c=0)):=by
      refine ⟨H2.out.1.setBad true,H2.out.2.1.trans (hch.mono H2.out.2.1.size (fun _ _ e=>e)),yQ H2.out.2.2.1 (fun g hg=>hch.block g (World.ownsRow.lt H2.out.2.2.1 g hg).2 (fun e=>?_)),⟨H2.out.2.2.2.1.1,H2.out.2.2.2.1.2.1,H2.out.2.2.2.1.2.2.1,.inl rfl⟩,H2.out.2.2.2.2⟩;have:=H2.out.2.2.1.lt' g hg;have:=HK.out.2.2.2.2.2 g e;omega
     have HFY2:Hid (chGo L kd f1 0 {W' with kd:=W'.kd.set n'.toNat kd,bad:=true} (out++[])=fin):=by have:=HFY.out;rw [hE1] at this;exact this
     clear hch H2 hE0 hE1 HFY;go_wp2_with (at_builtin;refine ZP rfl _ _ rfl w.heap.size (.slice ov out.length oc) out rfl H3.out.2.2.1 g [] c rfl H3.out.2.2.2.1 H3.out.2.2.2.2 (by simp;omega) H3.out.2.1.size ?_;intro v5 w5 ho5 hb5;have H5:Hid (Own w.heap.size w5 v5 (out++[])/\Below w.heap.size (w2.setCell ⟨p,16,none⟩ (.bool true)) w5):=⟨ho5,hb5⟩;clear ho5 hb5)
     go_roundg f1
     case rel=>exact ⟨0,_,_,rfl,HI.out.next (b:=true) HK.out.2.2.2.2.2 HIL.out H3.out.1 H3.out.2.1 H5.out.1 H5.out.2 HZB.out.1 (by simp) HZB.out.2 HCN.out HFY2.out⟩
     case measure=>omega
end
end Go.Proofs.YtaijfhadecennaaGreat.Oct
