/- Part of a proof. -/
import Derived.Test.YtaijfhadecennabGreatAua
import Derived.Test.YtaijfhadecennabGreatRn
import Derived.Test.YtaijfhadecennabGreatBj
import Derived.Test.YtaijfhadecennabGreatVc
import Derived.Deep.LoopGhost
import Derived.Deep.AppendLies
open Go.Proofs.Tryz
set_option maxHeartbeats 4000000
namespace Go.Proofs.YtaijfhadecennabGreat.Oct.Chs
open Go.RowKit
theorem within_v (n a b:Int) (B:Bool) (h:decide (a<=n/\n<=b)=B) (w:World):
  Calls prog 165 #[.int .i64 n,.int .i64 a,.int .i64 b] w fun e w'=>e=.returned (.bool B)/\w=w':=by
 subst h;by_cases h1:a<=n
 ·by_cases h2:n<=b
  ·rw [jF (show a<=n/\n<=b from ⟨h1,h2⟩)];go_enter func165,ntmps165
   go_wp2;go_ret
   exact ⟨rfl,rfl⟩
  ·rw [jM (show ¬(a<=n/\n<=b) from fun h=>h2 h.2)];go_enter func165,ntmps165
   go_wp2;go_ret
   exact ⟨rfl,rfl⟩
 ·rw [jM (show ¬(a<=n/\n<=b) from fun h=>h1 h.1)];go_enter func165,ntmps165
  go_wp2;go_ret
  exact ⟨rfl,rfl⟩
theorem noughts_v (b off cap n:Nat) (zs:List Int) (w:World) (h:Row w (some ⟨b,off,none⟩) cap zs) (hn:zs.length=n) (V:Bool) (hV:nouB zs=V):
  Calls prog 121 #[.slice (some ⟨b,off,none⟩) n cap] w fun e w'=>e=.returned (.bool V)/\w=w':=by
 subst hn;have hm:=jR h.2.1 h.2.2.1;unfold maxLen at hm;have HCE:Hid (∀i,i<zs.length->w.cell? ⟨b,off+i,none⟩=some (.int .u8 (zs.getD i 0))):=h.cells;have HBY:Hid (Bys zs):=h.1;have HV:Hid (nouB zs=V):=hV;clear hV h;go_enter func121,ntmps121
 go_wp2_with fail
 go_loop [7] (fun i=>∃k:Nat,k<=zs.length/\i=.int .i64 k/\Hid (∀j,j<k->zs.getD j 0=0)) (fun i=>zs.length-(intOf i).toNat)
 case atStart=>exact ⟨0,jW _,rfl,fun j hj=>by omega⟩
 case round=>
  obtain ⟨k,hk,rfl,HK⟩:=hrel;by_cases hlt:k<zs.length
  ·have hc:=HCE.out k hlt;obtain ⟨x,hx⟩:∃x,zs.getD k 0=x:=⟨_,rfl⟩;rw [hx] at hc;by_cases h0:x=0
   ·subst h0;have HX:Hid (zs.getD k 0=0):=hx;clear hx;go_wp2;go_round
    case rel=>exact ⟨k+1,by omega,by go_num,fun j hj=>by
     by_cases e:j=k
     ·rw [e];exact HX.out
     ·exact HK.out j (by omega)⟩
    case measure=>simp [intOf];omega
   ·have e:V=false:=by rw [<-HV.out];exact fS hlt (by rw [hx];exact h0)
    have h0b:(x !=0)=true:=by simpa using h0
    subst e;clear hx h0;go_wp2;go_ret
    exact ⟨rfl,rfl⟩
  ·have e:V=true:=by rw [<-HV.out];exact nouB_iff.2 fun j hj=>HK.out j (by omega)
   subst e;go_wp2;go_ret
   exact ⟨rfl,rfl⟩
theorem Need_v (n:Int) (w:World) (h0: -9223372036854775808<=n) (h1:n<=9223372036854775807):Calls prog 124 #[.int .i64 n] w fun e w'=>e=.returned (.int .i64 (nedI n))/\w=w':=by
 by_cases h:n<1
 ·have HE:Hid (nedI n=0):=if_pos h;go_enter func124,ntmps124
  go_wp2;go_ret
  exact ⟨by rw [HE.out];rfl,rfl⟩
 ·have HE:Hid (nedI n=(n-1)/244+1):=if_neg h;obtain ⟨m,rfl⟩:∃m:Nat,n=m+1:=⟨(n-1).toNat,by omega⟩;have hm:m<=9223372036854775806:=by omega
  have e1:((m:Int)+1-1)=m:=by omega
  have e2:IntKind.i64.wrap ((m:Int)/244+1)=(m:Int)/244+1:=by
   simp only [IntKind.wrap,IntKind.signed,IntKind.bits];simp;omega
  rw [e1] at HE;clear h h0 h1;go_enter func124,ntmps124
  go_wp2;go_ret
  exact ⟨by rw [HE.out];rfl,rfl⟩
theorem behind_v (pa:Option Addr) (pcap:Nat) (pg:List Int) (i:Nat) (w:World) (hp:RowI w pa pcap pg) (hi:i<pg.length) (X:Int) (hX:nxt pg i=X):
  Calls prog 203 #[.slice pa pg.length pcap,.int .i64 i] w fun e w'=>e=.returned (.int .i64 X)/\w=w':=by
 have hpl:pg.length<=maxLen:=jR hp.1 hp.2.1;unfold maxLen at hpl;by_cases h:i+1<pg.length
 ·obtain ⟨pb,po,rfl,c1⟩:=hp.at' (i+1) h;have e:pg.getD (i+1) 0=X:=by rw [<-hX];exact (if_pos h).symm
  rw [e] at c1;have hne:((i:Int)==(pg.length:Int)-1)=false:=by simp;omega
  clear e hp hX;go_enter func203,ntmps203
  go_wp2;go_ret
  exact ⟨rfl,rfl⟩
 ·have e:X=0:=by rw [<-hX];exact if_neg h
  subst e;have he:(i:Int)=(pg.length:Int)-1:=by omega
  have hne:((i:Int)==(pg.length:Int)-1)=true:=by simp;omega
  clear hp hX;go_enter func203,ntmps203
  go_wp2;go_ret
  exact ⟨rfl,rfl⟩
def hfB (P:Pg) (X:Int):Bool:=decide (P.kind=5)&&(decide (P.level=0)&&(if X=0 then decide (1<=P.count/\P.count<=244) else decide (2<=X/\X<=4095)&&decide (P.count=244)))
theorem VK (P:Pg) (g:Option Addr) (n c:Nat) (X:Int) (w:World) (V:Bool) (hV:hfB P X=V):
  Calls prog 120 #[.agg #[.int .i64 P.kind,.int .i64 P.level,.int .i64 P.count,.slice g n c],.int .i64 X] w fun e w'=>e=.returned (.bool V)/\Below w.heap.size w w':=by
 obtain ⟨kind,level,count,body⟩:=P;unfold hfB at hV;dsimp only at hV ⊢;by_cases h1:kind=5;rotate_left
 ·rw [jM h1] at hV;have e:V=false:=hV.symm;subst e;have b1:(kind !=5)=true:=by simpa using h1
  clear h1 hV;go_enter func120,ntmps120
  go_wp2;go_ret
  exact ⟨rfl,(Below.refl _ _).alloc (jB _) _⟩
 subst h1;by_cases h2:level=0;rotate_left
 ·rw [jM h2] at hV;have e:V=false:=hV.symm;subst e;have b1:(level !=0)=true:=by simpa using h2
  clear h2 hV;go_enter func120,ntmps120
  go_wp2;go_ret
  exact ⟨rfl,(Below.refl _ _).alloc (jB _) _⟩
 subst h2;by_cases h3:X=0
 ·subst h3;rw [if_pos rfl] at hV;have c1:=fun w=>within_v count 1 244 V hV w
  clear hV;go_enter func120,ntmps120
  go_wp2_with (go_at_call 165;refine (c1 _).mono ?_;rintro e w1 ⟨rfl,rfl⟩)
  go_ret
  exact ⟨rfl,(Below.refl _ _).alloc (jB _) _⟩
 ·rw [if_neg h3] at hV;have b3:(X==0)=false:=by simpa using h3
  have c1:=fun w=>within_v X 2 4095 _ rfl w
  cases h4:decide (2<=X/\X<=4095)
  ·rw [h4] at hV c1;have e:V=false:=hV.symm;subst e;clear hV h4 h3;go_enter func120,ntmps120
   go_wp2_with (go_at_call 165;refine (c1 _).mono ?_;rintro e w1 ⟨rfl,rfl⟩)
   go_ret
   exact ⟨rfl,(Below.refl _ _).alloc (jB _) _⟩
  ·rw [h4] at hV c1;have e:(count==244)=V:=by rw [<-hV];rfl
   clear hV h4 h3;go_enter func120,ntmps120
   go_wp2_with (go_at_call 165;refine (c1 _).mono ?_;rintro e w1 ⟨rfl,rfl⟩)
   go_ret
   exact ⟨by first|rfl|rw [e],(Below.refl _ _).alloc (jB _) _⟩
end Go.Proofs.YtaijfhadecennabGreat.Oct.Chs
namespace Go.Proofs.YtaijfhadecennabGreat.Oct.Chs
open Go.RowKit
theorem noughts_e (a:Option Addr) (cap:Nat) (w:World):
  Calls prog 121 #[.slice a 0 cap] w fun e w'=>e=.returned (.bool true)/\w=w':=by
 go_enter func121,ntmps121
 go_wp2_with fail
 go_loop [7] (fun i=>i=.int .i64 0) (fun i=>0)
 case atStart=>rfl
 case round=>
  subst hrel;go_wp2;go_ret
  exact ⟨rfl,rfl⟩
theorem noughts_w (a:Option Addr) (cap n:Nat) (zs:List Int) (w:World) (h:Row w a cap zs) (hn:zs.length=n) (V:Bool) (hV:nouB zs=V):
  Calls prog 121 #[.slice a n cap] w fun e w'=>e=.returned (.bool V)/\w=w':=by
 by_cases h0:zs.length=0
 ·have hz:zs=[]:=qF h0;subst hz;have hv:V=true:=hV.symm;subst hv;have hn0:n=0:=hn.symm;subst hn0;exact noughts_e a cap w
 ·obtain ⟨b,off,rfl⟩:=h.some' (by omega);exact noughts_v b off cap n zs w h hn V hV
theorem part_err (a:Option Addr) (cap n:Nat) (w:World) (P:Pg) (E:Int) (C:Calls prog 118 #[.slice a n cap] w fun e w'=>∃g c,e=.returned (.tuple #[pgV P g c,.int .i64 E])/\Own w.heap.size w' (.slice g P.body.length c) P.body/\Below w.heap.size w w') (hE:(E !=0)=true):
  Calls prog 73 #[.slice a n cap] w fun e w'=>e=.returned (.tuple #[.slice none 0 0,.int .i64 0,.int .i64 E])/\Below w.heap.size w w':=by
 dsimp only [pgV] at C;have HC:Hid _:=C;clear C;go_enter func73,ntmps73
 go_wp2_with fail
 refine (Calls.mono HC.out) ?_;rintro e w1 ⟨g,c,rfl,ho,hb⟩;have HB:Hid (Below w.heap.size w w1):=hb;clear hb ho HC;go_wp2;go_ret3
 exact ⟨rfl,HB.out.alloc HB.out.size _⟩
theorem part_head (a:Option Addr) (cap n:Nat) (w:World) (P:Pg) (C:Calls prog 118 #[.slice a n cap] w fun e w'=>∃g c,e=.returned (.tuple #[pgV P g c,.int .i64 0])/\Own w.heap.size w' (.slice g P.body.length c) P.body/\Below w.heap.size w w') (hlen:P.body.length=248) (hbys:Bys P.body) (X:Int) (hX:nx P=X) (h1:hfB P X=false):
  Calls prog 73 #[.slice a n cap] w fun e w'=>e=.returned (.tuple #[.slice none 0 0,.int .i64 0,.int .i64 4])/\Below w.heap.size w w':=by
 dsimp only [pgV] at C;rw [hlen] at C;have HC:Hid _:=C;clear C;go_enter func73,ntmps73
 go_wp2_with fail
 refine (Calls.mono HC.out) ?_;rintro e w1 ⟨g,c,rfl,ho,hb⟩;have HB:Hid (Below w.heap.size w w1):=hb;have hg:=vN g c P.body 0 4 (w1.alloc (.cells #[.int .i64 P.kind,.int .i64 P.level,.int .i64 P.count,.slice g 248 c] 115)) ((ho.row' hbys).2.below ((Below.refl _ _).alloc (jB _) _));rw [hlen,show getI P.body 0 4=X from hX,show getB P.body 0 4=true from VL (p:=0) (n:=4) hbys (by omega) (by omega) (by omega)] at hg;have HH:Hid (∀w,Calls prog 120 #[.agg #[.int .i64 P.kind,.int .i64 P.level,.int .i64 P.count,.slice g 248 c],.int .i64 X] w fun e w'=>e=.returned (.bool false)/\Below w.heap.size w w'):=fun w=>VK P g 248 c X w false h1
 clear hb ho HC hX h1;go_wp2_with fail
 refine hg.mono ?_;clear hg;rintro e w2 ⟨rfl,hb2⟩;have hsz:(w1.alloc (.cells #[.int .i64 P.kind,.int .i64 P.level,.int .i64 P.count,.slice g 248 c] 115)).heap.size=w1.heap.size+1:=by simp
 have c0:w2.cell? ⟨w1.heap.size,0,none⟩=some (.int .i64 P.kind):=(hb2.cell (p:=⟨w1.heap.size,0,none⟩) (by show w1.heap.size<_;omega)).trans (World.cell?_alloc_at _ _ _ _ rfl);have c1:w2.cell? ⟨w1.heap.size,1,none⟩=some (.int .i64 P.level):=(hb2.cell (p:=⟨w1.heap.size,1,none⟩) (by show w1.heap.size<_;omega)).trans (World.cell?_alloc_at _ _ _ _ rfl);have c2:w2.cell? ⟨w1.heap.size,2,none⟩=some (.int .i64 P.count):=(hb2.cell (p:=⟨w1.heap.size,2,none⟩) (by show w1.heap.size<_;omega)).trans (World.cell?_alloc_at _ _ _ _ rfl);have c3:w2.cell? ⟨w1.heap.size,3,none⟩=some (.slice g 248 c):=(hb2.cell (p:=⟨w1.heap.size,3,none⟩) (by show w1.heap.size<_;omega)).trans (World.cell?_alloc_at _ _ _ _ rfl);have HB2:Hid (Below w.heap.size w w2):=(HB.out.alloc HB.out.size _).trans (hb2.mono (HB.out.alloc HB.out.size _).size);clear hb2 hsz;go_wp2_with fail
 refine (HH.out _).mono ?_;rintro e w3 ⟨rfl,hb3⟩;have HB3:Hid (Below w.heap.size w w3):=HB2.out.trans (hb3.mono HB2.out.size);clear hb3;go_wp2;go_ret3
 exact ⟨rfl,HB3.out⟩
def NewAt (V:Bool) (g:Option Addr) (B:Nat):Prop:=V=true->∃b o,g=some ⟨b,o,none⟩/\B<=b
theorem gQ (a:Option Addr) (cap n:Nat) (w:World) (P:Pg) (C:Calls prog 118 #[.slice a n cap] w fun e w'=>∃g c,e=.returned (.tuple #[pgV P g c,.int .i64 0])/\Own w.heap.size w' (.slice g P.body.length c) P.body/\Below w.heap.size w w') (hlen:P.body.length=248) (hbys:Bys P.body) (X:Int) (hX:nx P=X) (h1:hfB P X=true) (k:Nat) (hk:P.count=k) (hk1:1<=k) (hk2:k<=244) (V:Bool) (hV:nouB (P.body.drop (4+k))=V):
  Calls prog 73 #[.slice a n cap] w fun e w'=>∃g c,e=.returned (.tuple #[.slice g (if V then k else 0) c,.int .i64 (if V then X else 0),.int .i64 (if V then 0 else 4)])/\(g=none->c=0)/\Row w' g c (if V then (P.body.drop 4).take k else [])/\Below w.heap.size w w'/\NewAt V g w.heap.size:=by
 have HH:Hid (∀g c w,Calls prog 120 #[.agg #[.int .i64 P.kind,.int .i64 P.level,.int .i64 k,.slice g 248 c],.int .i64 X] w fun e w'=>e=.returned (.bool true)/\Below w.heap.size w w'):=fun g c w=>by rw [<-hk];exact VK P g 248 c X w true h1
 dsimp only [pgV] at C;rw [hlen,hk] at C;have HC:Hid _:=C;clear C hk h1;go_enter func73,ntmps73
 go_wp2_with fail
 refine (Calls.mono HC.out) ?_;rintro e w1 ⟨g,c,rfl,ho,hb⟩;have HB:Hid (Below w.heap.size w w1):=hb;have HR:Hid (Row w1 g c P.body):=(ho.row' hbys).2;have hg:=vN g c P.body 0 4 (w1.alloc (.cells #[.int .i64 P.kind,.int .i64 P.level,.int .i64 k,.slice g 248 c] 115)) (HR.out.below ((Below.refl _ _).alloc (jB _) _));rw [hlen,show getI P.body 0 4=X from hX,show getB P.body 0 4=true from VL (p:=0) (n:=4) hbys (by omega) (by omega) (by omega)] at hg;obtain ⟨b,off,hgg⟩:=HR.out.some' (by omega);subst hgg;have HLO:Hid (w.heap.size<=b):=(World.ownsRow.lt ho b rfl).1;clear hb ho HC hX;have hcap:=HR.out.2.1;have hmx:=HR.out.2.2.1;unfold maxLen at hmx;rw [hlen] at hcap;go_wp2_with fail
 refine hg.mono ?_;clear hg;rintro e w2 ⟨rfl,hb2⟩;have hsz:(w1.alloc (.cells #[.int .i64 P.kind,.int .i64 P.level,.int .i64 k,.slice (some ⟨b,off,none⟩) 248 c] 115)).heap.size=w1.heap.size+1:=by simp
 have c0:w2.cell? ⟨w1.heap.size,0,none⟩=some (.int .i64 P.kind):=(hb2.cell (p:=⟨w1.heap.size,0,none⟩) (by show w1.heap.size<_;omega)).trans (World.cell?_alloc_at _ _ _ _ rfl);have c1:w2.cell? ⟨w1.heap.size,1,none⟩=some (.int .i64 P.level):=(hb2.cell (p:=⟨w1.heap.size,1,none⟩) (by show w1.heap.size<_;omega)).trans (World.cell?_alloc_at _ _ _ _ rfl);have c2:w2.cell? ⟨w1.heap.size,2,none⟩=some (.int .i64 k):=(hb2.cell (p:=⟨w1.heap.size,2,none⟩) (by show w1.heap.size<_;omega)).trans (World.cell?_alloc_at _ _ _ _ rfl);have c3:w2.cell? ⟨w1.heap.size,3,none⟩=some (.slice (some ⟨b,off,none⟩) 248 c):=(hb2.cell (p:=⟨w1.heap.size,3,none⟩) (by show w1.heap.size<_;omega)).trans (World.cell?_alloc_at _ _ _ _ rfl);have HB2:Hid (Below w.heap.size w w2):=(HB.out.alloc HB.out.size _).trans (hb2.mono (HB.out.alloc HB.out.size _).size);have HB12:Hid (Below w1.heap.size w1 w2):=((Below.refl _ w1).alloc (jB _) _).trans (hb2.mono (by omega));have HS2:Hid (w1.heap.size<w2.heap.size):=jV (by omega) hb2.size;clear hb2 hsz;go_wp2_with fail
 refine (HH.out _ _ _).mono ?_;rintro e w3 ⟨rfl,hb3⟩;have HB3:Hid (Below w.heap.size w w3):=HB2.out.trans (hb3.mono HB2.out.size);have HR3:Hid (Row w3 (some ⟨b,off,none⟩) c P.body):=(HR.out.below HB12.out).below hb3
 replace c2:=(hb3.cell (p:=⟨w1.heap.size,2,none⟩) HS2.out).trans c2
 replace c3:=(hb3.cell (p:=⟨w1.heap.size,3,none⟩) HS2.out).trans c3
 clear hb3 c0 c1;by_cases hck:c=4+k
 ·have hk8:k=244:=by omega
  subst hk8;subst hck;have hv:V=true:=by rw [<-hV,qS (by omega)];rfl
  subst hv;have CN:=noughts_e (some ⟨b,off,none⟩) 0 w3;go_wp2_with fail
  refine CN.mono ?_;clear CN;rintro e w4 ⟨rfl,rfl⟩;go_wp2;go_ret3
  exact ⟨some ⟨b,off+4,none⟩,244,rfl,(fun h=>by cases h),(HR3.out.drop' 4 (by omega)).take' 244 244 (by rw [qE];omega) (by omega) (by omega),HB3.out,fun _=>⟨b,off+4,rfl,HLO.out⟩⟩
 ·have hrd:=HR3.out.drop' (4+k) (by omega);have CN:=noughts_w _ _ (248-(4+k)) _ _ hrd (by rw [qE,hlen]) V hV;clear hrd;have hk4:((4+k:Nat):Int)=4+(k:Int):=by omega
  cases V
  ·go_wp2_with fail
   refine CN.mono ?_;clear CN;rintro e w4 ⟨rfl,rfl⟩;go_wp2;go_ret3
   exact ⟨none,0,rfl,fun _=>rfl,row0 _,HB3.out,fun e=>by cases e⟩
  ·go_wp2_with fail
   refine CN.mono ?_;clear CN;rintro e w4 ⟨rfl,rfl⟩;go_wp2;go_ret3
   exact ⟨some ⟨b,off+4,none⟩,k,rfl,(fun h=>by cases h),(HR3.out.drop' 4 (by omega)).take' k k (by rw [qE];omega) (by omega) (by omega),HB3.out,fun _=>⟨b,off+4,rfl,HLO.out⟩⟩
theorem nx_up {P:Pg} (h:Bys P.body):0<=nx P:=by
 unfold nx getI;split
 ·unfold capI;split
  ·exact (YE h 0 4 (by omega)).1
  ·omega
 ·omega
theorem FA {P:Pg} (h0:0<=nx P):hfB P (nx P)=true↔P.kind=5/\P.level=0/\(1<=P.count/\P.count<=244)/\(nx P≠1/\nx P<4096/\(nx P≠0->P.count=244)):=by
 unfold hfB;by_cases h:nx P=0
 ·rw [if_pos h];simp only [jN,jQ,h];constructor
  ·exact fun ⟨a,b,c⟩=>⟨a,b,c,by omega,by omega,fun x=>absurd rfl x⟩
  ·exact fun ⟨a,b,c,_⟩=>⟨a,b,c⟩
 ·rw [if_neg h];simp only [jN,jQ];constructor
  ·exact fun ⟨a,b,c,d⟩=>⟨a,b,by omega,by omega,by omega,fun _=>d⟩
  ·exact fun ⟨a,b,c,d,e,f⟩=>⟨a,b,by omega,f h⟩
theorem Part_v (a:Option Addr) (cap:Nat) (zs:List Int) (w:World) (h:Row w a cap zs):Calls prog 73 #[.slice a zs.length cap] w (PtR w zs):=by
 have C:=open_v a cap zs.length zs w h rfl _ rfl _ rfl;by_cases ho:opE zs=0;rotate_left
 ·obtain ⟨e1,e2,e3⟩:=ptE_op ho;refine (part_err a cap zs.length w _ _ C (by simpa using ho)).mono ?_;rintro e w' ⟨rfl,hb⟩;unfold PtR;rw [e1,e2,e3];exact ⟨none,0,rfl,fun _=>rfl,row0 _,hb⟩
 rw [ho] at C;obtain ⟨_,_,hbys,hlen⟩:=QN h.1 ho;have h0:=nx_up hbys;by_cases hh:(opP zs).kind=5/\(opP zs).level=0/\(1<=(opP zs).count/\(opP zs).count<=244)/\(nx (opP zs)≠1/\nx (opP zs)<4096/\(nx (opP zs)≠0->(opP zs).count=244));rotate_left
 ·obtain ⟨e1,e2,e3⟩:=fL ho (ptB_no hh);refine (part_head a cap zs.length w _ C hlen hbys _ rfl (by rw [<-Bool.not_eq_true,FA h0];exact hh)).mono ?_;rintro e w' ⟨rfl,hb⟩;unfold PtR;rw [e1,e2,e3];exact ⟨none,0,rfl,fun _=>rfl,row0 _,hb⟩
 obtain ⟨k,hk⟩:=qB (show 0<=(opP zs).count by omega);obtain ⟨V,hV⟩:∃V,nouB ((opP zs).body.drop (4+k))=V:=⟨_,rfl⟩;have hg:=gQ a cap zs.length w _ C hlen hbys _ rfl ((FA h0).2 hh) k hk (by omega) (by omega) V hV;have hp:ptB (opP zs)=V:=by rw [fM hh.1 hh.2.1 hh.2.2.1.1 hh.2.2.1.2 hh.2.2.2.1 hh.2.2.2.2.1 hh.2.2.2.2.2,hk,jS];exact hV
 refine hg.mono ?_;rintro e w' ⟨g,c,rfl,h1,h2,hb,-⟩;unfold PtR;cases V
 ·obtain ⟨e1,e2,e3⟩:=fL ho hp;rw [e1,e2,e3];exact ⟨g,c,rfl,h1,h2,hb⟩
 ·have e1:ptE zs=0:=by unfold ptE;rw [if_pos ho,hp];rfl
  have e2:ptL zs=((opP zs).body.drop 4).take k:=by unfold ptL;rw [e1,hk];rfl
  have e3:ptN zs=nx (opP zs):=by unfold ptN;rw [e1];rfl
  rw [e1,e2,e3];have hl:(((opP zs).body.drop 4).take k).length=k:=by rw [qJ,qE,hlen];omega
  rw [hl];exact ⟨g,c,rfl,h1,h2,hb⟩
theorem Part_new (a:Option Addr) (cap:Nat) (zs:List Int) (w:World) (h:Row w a cap zs) (hE:ptE zs=0):Calls prog 73 #[.slice a zs.length cap] w fun e w'=>∃b o c,e=.returned (.tuple #[.slice (some ⟨b,o,none⟩) (ptL zs).length c,.int .i64 (ptN zs),.int .i64 0])/\w.heap.size<=b/\Row w' (some ⟨b,o,none⟩) c (ptL zs)/\Below w.heap.size w w':=by
 have C:=open_v a cap zs.length zs w h rfl _ rfl _ rfl
 have ho:opE zs=0:=by
  by_cases ho:opE zs=0
  ·exact ho
  ·exact absurd (hE.symm.trans (ptE_op ho).1).symm ho
 rw [ho] at C;obtain ⟨_,_,hbys,hlen⟩:=QN h.1 ho;have h0:=nx_up hbys
 have hpt:ptB (opP zs)=true:=by
  cases hb:ptB (opP zs) with
  |true=>rfl
  |false=>have:=(fL ho hb).1;rw [hE] at this;cases this
 have hh:(opP zs).kind=5/\(opP zs).level=0/\(1<=(opP zs).count/\(opP zs).count<=244)/\(nx (opP zs)≠1/\nx (opP zs)<4096/\(nx (opP zs)≠0->(opP zs).count=244)):=by
  by_cases hh:(opP zs).kind=5/\(opP zs).level=0/\(1<=(opP zs).count/\(opP zs).count<=244)/\(nx (opP zs)≠1/\nx (opP zs)<4096/\(nx (opP zs)≠0->(opP zs).count=244))
  ·exact hh
  ·rw [ptB_no hh] at hpt;cases hpt
 obtain ⟨k,hk⟩:=qB (show 0<=(opP zs).count by omega)
 have hV:nouB ((opP zs).body.drop (4+k))=true:=by
  rw [fM hh.1 hh.2.1 hh.2.2.1.1 hh.2.2.1.2 hh.2.2.2.1 hh.2.2.2.2.1 hh.2.2.2.2.2,hk,jS] at hpt;exact hpt
 have hg:=gQ a cap zs.length w _ C hlen hbys _ rfl ((FA h0).2 hh) k hk (by omega) (by omega) true hV;refine hg.mono ?_;rintro e w' ⟨g,c,rfl,h1,h2,hb,h3⟩;obtain ⟨b,o,rfl,hlo⟩:=h3 rfl;have e2:ptL zs=((opP zs).body.drop 4).take k:=by unfold ptL;rw [if_pos hE,hk];rfl
 have e3:ptN zs=nx (opP zs):=by unfold ptN;rw [if_pos hE]
 have hl:(((opP zs).body.drop 4).take k).length=k:=by rw [qJ,qE,hlen];omega
 rw [e2,e3,hl];exact ⟨b,o,c,rfl,hlo,h2,hb⟩
end Go.Proofs.YtaijfhadecennabGreat.Oct.Chs
namespace Go.Proofs.YtaijfhadecennabGreat.Oct
open Go.RowKit
theorem RowC.keepO {w w':World} {a:Option Addr} {c:Nat} {l:List C4} (h:RowC w a c l) (k:∀g,obl a g->w'.heap[g]?=w.heap[g]?):RowC w' a c l:=by
 obtain ⟨h1,h2,h3,h4⟩:=h;refine ⟨h1,h2,h3,?_⟩;rcases h4 with h4|⟨b,off,ha,hc⟩
 ·exact .inl h4
 ·exact .inr ⟨b,off,ha,fun i hi=>(hc i hi).same (k b ⟨_,ha,rfl⟩)⟩
theorem nx_bd {z:List Int} (hz:Bys z):0<=ptN z/\ptN z<=4096:=by
 unfold ptN;split
 ·next e=>
  unfold ptE at e;split at e
  ·split at e
   ·next hb=>
    unfold ptB at hb;simp only [jN,jQ] at hb;have h1:=hb.2.2.2.1.2.1;have h0:0<=nx (opP z):=by unfold nx;exact (getI_bd (YD hz) 0 4).1
    omega
   ·cases e
  ·contradiction
 ·omega
theorem ptL_bys {z:List Int} (hz:Bys z):Bys (ptL z):=by
 unfold ptL;split
 ·intro y hy;exact YD hz y (jY (jT hy))
 ·intro y hy;cases hy
end Go.Proofs.YtaijfhadecennabGreat.Oct
namespace Go.Proofs.YtaijfhadecennabGreat.Oct
open Go.RowKit
def chQ (L:List Int):Nat->Int->List Int
 |0,_=>[]
 |f+1,n=>if n=0 then [] else n::chQ L f (ptN (pageOf L n.toNat))
theorem appL {ops:Array Oper} {rest:List Oper} {o:Oper} {a:Act} {Q:Exit->Act->World->Prop} (wr:World) (hgd:o.guard=none) (s x:Operand)
  (ho:o.op=.call {callee:=.builtin .append,args:= #[s,x],argTypes:= #[38,38]})
  (v:Value) (xs:List Int) (z:Int) (hs:a.eval s=v) (hown:OwnI 0 wr v xs) (hx:a.eval x=.slice (some ⟨wr.heap.size,0,none⟩) 1 1) (hsz:xs.length<=1000000)
  (h:∀g cap w',OwnI 0 w' (.slice (some ⟨g,0,none⟩) (xs.length+1) cap) (xs++[z])->(wr.alloc (.cells #[.int .i64 z] 3)).grownBy w' v.ownBlock->(v.ownBlock=some g\/g=wr.heap.size+1)->g<w'.heap.size->wpList prog ops Q rest (a.put o.dst (.slice (some ⟨g,0,none⟩) (xs.length+1) cap)) w'):wpList prog ops Q (o::rest) a (wr.alloc (.cells #[.int .i64 z] 3)):=by
 obtain ⟨i0,hi,hz0,hz1,hz2⟩:=info_parts info3;refine wpList_append_lies _ hgd s x 38 ho 0 3 i0 (.int .i64 0) 1 8 underlying38 hi hz0 hz1 hz2 rfl (by decide) v xs.length (xs.map (Value.int .i64)) hs (World.ownsRow.alloc hown _) ⟨wr.heap.size,0,none⟩ 1 1 [.int .i64 z] hx rfl (World.news_of_block (heap_alloc_new wr _)) (by simp [Value.oneCell']) (by decide) (by unfold maxLen;omega) (by omega) (jW _) (wr.heap.size+1) (by simp) ?_;intro g cap w' h1 h2 h3 h4;refine h g cap w' ?_ h2 h3 h4;unfold OwnI;rw [jO,qM];exact h1
theorem vD {w:World} {ops:Array Oper} {rest:List Oper} {o:Oper} {a:Act} {Q:Exit->Act->World->Prop} (hgd:o.guard=none) (s x:Operand)
  (ho:o.op=.call {callee:=.builtin .append,args:= #[s,x],argTypes:= #[22,22]})
  (base:Nat) (v:Value) (xs:List Int) (hs:a.eval s=v) (hown:Own base w v xs) (ad:Addr) (zs:List Int) (n c:Nat) (hx:a.eval x=.slice (some ad) n c) (hn:zs.length=n) (hn0:0<n)
  (hrow:Row w (some ad) c zs) (hsz:xs.length+n<=100000000) (hbase:base<=w.heap.size)
  (h:∀g cap w',Own base w' (.slice (some ⟨g,0,none⟩) (xs.length+n) cap) (xs++zs)->w.grownBy w' v.ownBlock->(v.ownBlock=some g\/g=w.heap.size)->wpList prog ops Q rest (a.put o.dst (.slice (some ⟨g,0,none⟩) (xs.length+n) cap)) w'):wpList prog ops Q (o::rest) a w:=by
 subst hn;obtain ⟨i0,hi,hz0,hz1,hz2⟩:=info_parts info5;refine wpList_append_lies w hgd s x 22 ho base 5 i0 (.int .u8 0) 1 1 underlying22 hi hz0 hz1 hz2 rfl (by decide) v _ _ hs hown ad _ c (zs.map (Value.int .u8)) hx (by simp) (QP hrow) (zW zs) hn0 (by unfold maxLen;omega) (by omega) hbase _ rfl ?_;intro g cap w' h1 h2 h3 _;refine h g cap w' ?_ h2 h3;unfold Own;rw [jO,qM];exact h1
theorem ptL_pos {z:List Int} (hz:Bys z) (h:ptE z=0):0<(ptL z).length:=by
 have ho:opE z=0:=by
  by_cases ho:opE z=0
  ·exact ho
  ·exact absurd (h.symm.trans (ptE_op ho).1).symm ho
 obtain ⟨_,_,_,hlen⟩:=QN hz ho
 have hb:ptB (opP z)=true:=by
  cases hb:ptB (opP z) with
  |true=>rfl
  |false=>have:=(fL ho hb).1;rw [h] at this;cases this
 unfold ptB at hb;simp only [jN,jQ] at hb;unfold ptL;rw [if_pos h,qJ,qE,hlen];omega
section
variable {w w':World} {p d gr cr cC:Nat} {F FD:Nat->Prop} {D0:Dv} {L:List Int} {vM:Value} {aC:Option Addr} {R:List Bool} {cs:List Int}
theorem W0.addC (h:W0 w p d F FD D0 L gr cr vM aC cC R cs) {z:Int} {o:Obj} {w2:World} {g2 cap2:Nat} (ho:OwnI 0 w2 (.slice (some ⟨g2,0,none⟩) (cs.length+1) cap2) (cs++[z]))
  (hgr:(w.alloc o).grownBy w2 (Value.slice aC cs.length cC).ownBlock) (hat:(Value.slice aC cs.length cC).ownBlock=some g2\/g2=w.heap.size+1) (hlt:g2<w2.heap.size):
  (w2.cell? ⟨p,3,none⟩=some (.slice aC cs.length cC)/\w2.frozen? ⟨p,3,none⟩=false)/\W0 (w2.setCell ⟨p,3,none⟩ (.slice (some ⟨g2,0,none⟩) (cs.length+1) cap2)) p d (fun k=>F k\/k=g2) FD D0 L gr cr vM (some ⟨g2,0,none⟩) cap2 R (cs++[z])/\
   Step F (fun k=>F k\/k=g2) w (w2.setCell ⟨p,3,none⟩ (.slice (some ⟨g2,0,none⟩) (cs.length+1) cap2)):=by
 have hs0:(w.alloc o).heap.size=w.heap.size+1:=JX w o;have hs:w.heap.size<=w2.heap.size:=by have:=hgr.size;omega
 have hk:∀g,g<w.heap.size->¬obl aC g->w2.heap[g]?=w.heap[g]?:=fun g hg hne=>(hgr.block g (by omega) (fun e=>hne (yX e.symm))).trans (heap_alloc_old w o hg)
 have hg:obl aC g2\/w.heap.size<=g2:=by
  rcases hat with e|e
  ·exact .inl (yX e)
  ·exact .inr (by omega)
 have lp:=h.lt p h.fp;have ob:∀y,obl (some (⟨g2,0,none⟩:Addr)) y->y=g2:=fun y ⟨x,e,hx⟩=>by cases e;exact hx.symm
 have ne:∀k,F k->¬obl aC k->¬g2=k:=fun k hk hn e=>by rcases hg with hg|hg;exact hn (e▸hg);have:=h.lt k hk;omega
 have hp2:¬g2=p:=ne p h.fp h.pC;have k:∀g,¬g=p->(w2.setCell ⟨p,3,none⟩ (.slice (some ⟨g2,0,none⟩) (cs.length+1) cap2)).heap[g]?=w2.heap[g]?:=fun g hg=>Below.heap_setCell w2 ⟨p,3,none⟩ _ g hg
 have kk:∀g,F g->¬g=p->¬obl aC g->(w2.setCell ⟨p,3,none⟩ (.slice (some ⟨g2,0,none⟩) (cs.length+1) cap2)).heap[g]?=w.heap[g]?:=fun g h1 h2 h3=>(k g h2).trans (hk g (h.lt g h1) h3)
 refine ⟨⟨?_,?_⟩,?_,⟨⟨?_,?_,?_,by rw [yL];exact hs,fun x hlt' hnf=>?_⟩,fun x hx=>?_⟩⟩
 ·exact (World.cell?_of_block (w:=w) (a:=⟨p,3,none⟩) (hk p lp h.pC)).trans h.at.2.2.2.1
 ·exact (World.frozen?_of_block (w:=w) (a:=⟨p,3,none⟩) (hk p lp h.pC)).trans (h.at.2.2.2.2 3)
 ·refine {well:=h.well,now:=h.now,rn:=h.rn,ops:=h.ops,fD:=fun x hx=>.inl (h.fD x hx),fp:=.inl h.fp,fg:=.inl h.fg,pD:=h.pD,gD:=h.gD,pg:=h.pg,lt:=?_,dev:=?_,cells:=?_,rch:=?_,ch:=?_,fC:=?_,CD:=?_,pC:=?_,gC:=?_}
  ·intro x hx;rw [yL];rcases hx with hx|rfl
   ·have:=h.lt x hx;omega
   ·exact hlt
  ·exact h.dev.keep (by rw [yL];exact hs) (fun g hg=>kk g (h.fD g hg) (fun e=>h.pD (e▸hg)) (fun e=>h.CD g e hg))
  ·rw [yK _ _ _ _ _ _ _ ((hk p lp h.pC).trans h.cells),jO];rfl
  ·exact h.rch.kept (kk gr h.fg (fun e=>h.pg e.symm) h.gC)
  ·rw [jO];exact OwnI.keepO ho (fun g hg=>k g (fun e=>hp2 ((ob g hg).symm.trans e)))
  ·intro x hx;exact .inr (ob x hx)
  ·intro x hx e;have:=ob x hx;subst this;rcases hat with e2|e2
   ·exact h.CD _ (yX e2) e
   ·have:=h.lt _ (h.fD _ e);omega
  ·exact fun e=>hp2 (ob p e).symm
  ·exact fun e=>ne gr h.fg h.gC (ob gr e).symm
 ·exact hgr.os
 ·exact hgr.tape
 ·exact hgr.output
 ·exact (k x (fun e=>hnf (e▸h.fp))).trans (hk x hlt' (fun e=>hnf (h.fC x e)))
 ·rcases hx with hx|rfl
  ·exact .inl hx
  ·rcases hg with hg|hg
   ·exact .inl (h.fC _ hg)
   ·exact .inr hg
theorem VX {L:List Int} {f:Nat} {R:List Bool} {out:List Int}:chB L (f+1) 0 R out=some (R,out):=by unfold chB;rw [if_pos rfl]
theorem VV {L:List Int} {f:Nat} {n:Int} {R:List Bool} {out:List Int} {fin:List Bool × List Int} (hn:¬n=0) (h:chB L (f+1) n R out=some fin):rcB R n=true/\ptE (pageOf L n.toNat)=0/\chB L f (ptN (pageOf L n.toNat)) (R.set n.toNat true) (out++ptL (pageOf L n.toNat))=some fin:=by
 rw [chB,if_neg hn] at h;split at h
 ·next hc=>
  rw [jN,jQ] at hc;exact ⟨hc.1,hc.2,h⟩
 ·cases h
structure C0I (w wr:World) (p d:Nat) (F FD:Nat->Prop) (D0:Dv) (L:List Int) (N:Nat) (vM:Value) (f:Nat) (n:Int) (v:Value) (R:List Bool) (out cs:List Int) (fin:List Bool × List Int) (finC:List Int):Prop where
 pw:∃F',W0A wr p d F' FD D0 L vM R cs/\Step F F' w wr/\∀g,v.ownBlock=some g->¬F' g
 rl:R.length=N
 fin:chB L f n R out=some fin
 fq:cs++chQ L f n=finC
 own:Own w.heap.size wr v out
 by':Bys out
 n:0<=n/\n<=9223372036854775807
 fu:N<f+cnt R
 ln:out.length<=244*cnt R
 cl:cs.length<=cnt R
def C0E (w:World) (p d:Nat) (F FD:Nat->Prop) (D0:Dv) (L:List Int) (vM:Value) (R:List Bool) (fin:List Bool × List Int) (finC:List Int) (e:Ending) (w':World):Prop:=
 ∃g c F',e=.returned (.slice g fin.2.length c)/\W0A w' p d F' FD D0 L vM fin.1 finC/\Step F F' w w'/\Own w.heap.size w' (.slice g fin.2.length c) fin.2/\(∀k,obl g k->¬F' k)/\Bys fin.2/\fin.1.length=R.length/\fin.2.length<=999424/\finC.length<=cnt fin.1
set_option maxRecDepth 20000 in
theorem chain0 (h:W0A w p d F FD D0 L vM R cs) (n:Int) (hn:0<=n/\n<=9223372036854775807) (f:Nat) (hf:R.length<f) (hcl:cs.length<=cnt R) (fin:List Bool × List Int) (hfin:chB L f n R []=some fin) (finC:List Int) (hfq:cs++chQ L f n=finC):
  Calls prog 149 #[.pointer (some ⟨p,0,none⟩),.int .i64 n] w fun e w'=>C0E w p d F FD D0 L vM R fin finC e w':=by
 have hrn:=h.rn;have HI0:Hid (C0I w w p d F FD D0 L R.length vM f n (.slice none 0 0) R [] cs fin finC):=⟨⟨F,h,Step.refl F w,fun g e=>(by cases e)⟩,rfl,hfin,hfq,⟨rfl,.inl ⟨rfl,rfl⟩⟩,fun z hz=>(by cases hz),hn,by omega,by simp,hcl⟩;have HK:Hid ((∀k,F k->k<w.heap.size)/\R.length<=4096/\Bys L):=⟨h.lt,hrn.2.1,hrn.2.2.2.2⟩;clear h hf hfin hn hrn hcl hfq;go_enter func149,ntmps149
 go_wp2_with fail
 go_loopg [1,5] f (fun k i v wr=>∃(n':Int) (R':List Bool) (out cs':List Int),i=.int .i64 n'/\Hid (C0I w wr p d F FD D0 L R.length vM k n' v R' out cs' fin finC))
 case atStart=>exact ⟨n,R,[],cs,rfl,HI0.out⟩
 case round=>
  clear HI0;obtain ⟨n',R',out,cs',rfl,HI⟩:=hrel;obtain ⟨ov,oc,hv,hrow⟩:=HI.out.own.row HI.out.by';have hol:out.length<=999424:=by have:=HI.out.ln;have:=XU R';rw [HI.out.rl] at this;have:=HK.out.2.1;omega
  have hoc:=hrow.2.2.1;unfold maxLen at hoc;have hoc2:=hrow.2.1;obtain ⟨f1,hf1⟩:∃f1,gk=f1+1:=⟨gk-1,by have:=HI.out.fu;have:=XU R';rw [HI.out.rl] at this;omega⟩;subst hf1;subst hv;by_cases hn0:n'=0
  ·subst hn0
   have HD:Hid (C0E w p d F FD D0 L vM R fin finC (.returned (.slice ov out.length oc)) wr):=by
    have e1:=HI.out.fin;rw [VX] at e1;have e2:=HI.out.fq;rw [chQ,if_pos rfl,xZ] at e2;cases e1;subst e2;obtain ⟨F',a,b,c⟩:=HI.out.pw;exact ⟨ov,oc,F',rfl,a,b,HI.out.own,fun k hk=>c k (zC hk),HI.out.by',HI.out.rl,hol,HI.out.cl⟩
   have hle:decide ((out.length:Int)<=1048576)=true:=jF (by omega);have hdy:=JN wr;clear HI hrow;go_wp2_with (go_at_call 146;refine hdy.mono ?_;rintro e w' ⟨rfl,rfl⟩)
   go_ret
   exact HD.out
  ·have hn1:(n'==0)=false:=by simpa using hn0
   have hn2:(n' !=0)=true:=by simpa using hn0
   obtain ⟨hy,hE0,hfn⟩:=VV hn0 HI.out.fin;obtain ⟨F1,q1,q2,q3⟩:=HI.out.pw;have hrc:=reach0 q1 n' hy;have HN0:Hid (¬n'=0/\rcB R' n'=true/\ptE (pageOf L n'.toNat)=0/\chB L f1 (ptN (pageOf L n'.toNat)) (R'.set n'.toNat true) (out++ptL (pageOf L n'.toNat))=some fin):=⟨hn0,hy,hE0,hfn⟩;have HQ:Hid (W0A wr p d F1 FD D0 L vM R' cs'/\Step F F1 w wr/\∀k,obl ov k->¬F1 k):=⟨q1,q2,fun k hk=>q3 k (zC hk)⟩;clear hrow hn0 hy hE0 hfn q1 q2 q3;go_wp2_with fail
   refine hrc.mono ?_;clear hrc;rintro e w1 ⟨g,c,rfl,ho,hw1,hc1⟩;have hzb:Bys (pageOf L n'.toNat):=JE HK.out.2.2 _;have hpl:(pageOf L n'.toNat).length=256:=((ho.row' hzb).1).symm;have hpt:=Chs.Part_new (some ⟨g,0,none⟩) c (pageOf L n'.toNat) w1 (ho.row' hzb).2 HN0.out.2.2.1;rw [hpl] at hpt
   have H1:Hid (W0A w1 p d F1 FD D0 L vM (R'.set n'.toNat true) cs'/\Step F F1 w w1/\Own w.heap.size w1 (.slice ov out.length oc) out):=
    ⟨hw1,HQ.out.2.1.trans (Step.of hc1),yN HI.out.own (fun g hg=>hc1.block g (World.ownsRow.lt HI.out.own g hg).2 (HQ.out.2.2 g (yX hg)))⟩
   have HZB:Hid (Bys (ptL (pageOf L n'.toNat))/\0<=ptN (pageOf L n'.toNat)/\ptN (pageOf L n'.toNat)<=4096/\(ptL (pageOf L n'.toNat)).length<=244/\0<(ptL (pageOf L n'.toNat)).length):=⟨ptL_bys hzb,(nx_bd hzb).1,(nx_bd hzb).2,ptL_le,ptL_pos hzb HN0.out.2.2.1⟩;clear ho hw1 hc1 hzb hpl;obtain ⟨z,hz⟩:∃z,pageOf L n'.toNat=z:=⟨_,rfl⟩;rw [hz] at hpt HZB;obtain ⟨T,hT⟩:∃T,ptL z=T:=⟨_,rfl⟩;obtain ⟨Y,hY⟩:∃Y,ptN z=Y:=⟨_,rfl⟩;obtain ⟨tl,htl⟩:∃tl,T.length=tl:=⟨_,rfl⟩;rw [hT,hY,htl] at hpt;rw [hT,hY,htl] at HZB;have htl4:=HZB.out.2.2.2.1;have htl0:=HZB.out.2.2.2.2;have HT:Hid (ptL z=T/\ptN z=Y/\T.length=tl/\pageOf L n'.toNat=z):=⟨hT,hY,htl,hz⟩;clear hT hY htl hz;go_wp2_with fail
   refine hpt.mono ?_;clear hpt;rintro e w2 ⟨tb,to,tc,rfl,hlo,hrow2,hb2⟩;obtain ⟨gr,cr,aC,cC,hW⟩:=H1.out.1.below hb2
   have H2:Hid (W0 w2 p d F1 FD D0 L gr cr vM aC cC (R'.set n'.toNat true) cs'/\Step F F1 w w2/\Own w.heap.size w2 (.slice ov out.length oc) out/\Row w2 (some ⟨tb,to,none⟩) tc T/\w1.heap.size<=tb/\∀k,F1 k->k<w1.heap.size):=
    ⟨hW,H1.out.2.1.trans (Step.ofB hb2),kZ H1.out.2.2 hb2,hrow2,hlo,H1.out.1.lt⟩
   obtain ⟨d0,d1,d2,d3,d4⟩:=hW.at;have hlp:=hW.lt p hW.fp;have hpn:¬p=w2.heap.size:=by omega
   have hcl:=HI.out.cl;have hcl2:=XU R';have hcl3:=HI.out.rl;have hcl4:=HK.out.2.1;have hown0:=hW.ch;have hdy:=JN w2;have hs2:=H2.out.2.1.1.size;obtain ⟨nc,hnc⟩:∃nc,cs'.length=nc:=⟨_,rfl⟩;have HNC:Hid (cs'.length=nc):=hnc;rw [hnc] at d3;have hnc1:nc<=4096:=by omega
   have d3':(w2.alloc (.cells #[.int .i64 n'] 3)).cell? ⟨p,3,none⟩=some (.slice aC nc cC):=(World.cell?_of_block (w:=w2) (a:=⟨p,3,none⟩) (heap_alloc_old w2 _ hlp)).trans d3;have HOW:Hid (OwnI 0 w2 (.slice aC cs'.length cC) cs'):=hown0;clear hW hb2 hrow2 hlo H1 hown0 hcl hcl2 hcl3 hcl4 hnc d0 d1 d2 d4;go_wp2_with (first|(go_at_call 146;refine hdy.mono ?_;rintro e w' ⟨rfl,rfl⟩;clear hdy)|(at_builtin;refine appL w2 rfl _ _ rfl (.slice aC nc cC) cs' n' rfl (by rw [<-HNC.out];exact HOW.out) rfl (by rw [HNC.out];omega) ?_;intro g5 cap5 w5 ho5 hg5 ht5 hl5;have H5:Hid (OwnI 0 w5 (.slice (some ⟨g5,0,none⟩) (cs'.length+1) cap5) (cs'++[n'])/\(w2.alloc (.cells #[.int .i64 n'] 3)).grownBy w5 (Value.slice aC cs'.length cC).ownBlock/\((Value.slice aC cs'.length cC).ownBlock=some g5\/g5=w2.heap.size+1)/\g5<w5.heap.size):=⟨ho5,by rw [HNC.out];exact hg5,by rw [HNC.out];exact ht5,hl5⟩;have ha5:=H2.out.1.addC H5.out.1 H5.out.2.1 H5.out.2.2.1 H5.out.2.2.2;obtain ⟨⟨e5,f5⟩,hA5,st5⟩:=ha5;rw [HNC.out] at e5;have HA5:Hid (_/\_):=⟨hA5,st5⟩;have H6:Hid (Own w.heap.size (w5.setCell ⟨p,3,none⟩ (.slice (some ⟨g5,0,none⟩) (cs'.length+1) cap5)) (.slice ov out.length oc) out/\Row (w5.setCell ⟨p,3,none⟩ (.slice (some ⟨g5,0,none⟩) (cs'.length+1) cap5)) (some ⟨tb,to,none⟩) tc T/\w.heap.size<=(w5.setCell ⟨p,3,none⟩ (.slice (some ⟨g5,0,none⟩) (cs'.length+1) cap5)).heap.size):=⟨yN H2.out.2.2.1 (fun g hg=>st5.1.block g (World.ownsRow.lt H2.out.2.2.1 g hg).2 (HQ.out.2.2 g (yX hg))),H2.out.2.2.2.1.ch st5.1 (fun x hx=>(by cases hx;intro e;have h1:=H2.out.2.2.2.2.2 _ e;have h2:=H2.out.2.2.2.2.1;simp only at h1;omega)),jR H2.out.2.1.1.size st5.1.size⟩;clear ho5 hg5 ht5 hl5 hA5 st5 d3')|(at_builtin;refine vD rfl _ _ rfl w.heap.size (.slice ov out.length oc) out rfl H6.out.1 ⟨tb,to,none⟩ T tl tc rfl HT.out.2.2.1 htl0 H6.out.2.1 (by omega) H6.out.2.2 ?_;intro g7 cap7 w7 ho7 hg7 ht7;have H7:Hid _:=And.intro ho7 (And.intro hg7 ht7);clear ho7 hg7 ht7))
   go_roundg f1
   case rel=>
    refine ⟨Y,R'.set n'.toNat true,out++T,cs'++[n'],rfl,?_⟩;obtain ⟨o7,g7',t7⟩:=H7.out;obtain ⟨hA,st⟩:=HA5.out;have hq:=XA HN0.out.2.1;have hcn:=vU (R:=R') (n:=n'.toNat) (by omega) hq.2.2;have h1:=HI.out.fu;have h2:=HI.out.ln;have h3:=HI.out.cl;have hs6:=hA.lt;have hs0:=H5.out.2.2.2;have hsz:=yL w5 ⟨p,3,none⟩ (.slice (some ⟨g5,0,none⟩) (cs'.length+1) cap5)
    have hov:∀k,(Value.slice ov out.length oc).ownBlock=some k->¬(F1 k\/k=g5):=fun k hk e=>by
     have hk2:=HQ.out.2.2 k (yX hk);rcases e with e|e
     ·exact hk2 e
     ·have hlt:=(World.ownsRow.lt H2.out.2.2.1 k hk).2;rcases H5.out.2.2.1 with h5|h5
      ·exact hk2 (H2.out.1.fC k (by rw [e];exact yX h5))
      ·omega
    have hgr:Ch (w5.setCell ⟨p,3,none⟩ (.slice (some ⟨g5,0,none⟩) (cs'.length+1) cap5)).heap.size (fun k=>(Value.slice ov out.length oc).ownBlock=some k) (w5.setCell ⟨p,3,none⟩ (.slice (some ⟨g5,0,none⟩) (cs'.length+1) cap5)) w7:=(Ch.refl _ _ _).grown g7' (jB _) (fun k hk=>.inr hk);have hW7:W0A w7 p d (fun k=>F1 k\/k=g5) FD D0 L vM (R'.set n'.toNat true) (cs'++[n']):=W0A.keep ⟨_,_,_,_,hA⟩ hgr.size (fun g hg=>hgr.block g (hs6 g hg) (fun e=>hov g e hg));have st2:=H2.out.2.1.trans st;have hbase:∀k,(Value.slice ov out.length oc).ownBlock=some k->w.heap.size<=k:=fun k hk=>(World.ownsRow.lt H2.out.2.2.1 k hk).1
    have st3:Step F (fun k=>F1 k\/k=g5) w w7:=⟨st2.1.trans (hgr.mono st2.1.size (fun k hlt hk=>absurd hlt (Nat.not_lt.2 (hbase k hk)))),st2.2⟩;refine {pw:=⟨_,hW7,st3,fun k hk=>?_⟩,rl:=by rw [qC];exact HI.out.rl,fin:=by rw [<-HN0.out.2.2.2,HT.out.2.2.2,HT.out.1,HT.out.2.1],fq:=?_,own:=o7,by':=HI.out.by'.app HZB.out.1,n:=by have:=HZB.out.2.1;have:=HZB.out.2.2.1;omega,fu:=by rw [hcn];omega,ln:=by rw [hcn,jO,HT.out.2.2.1];omega,cl:=by rw [hcn,jO];simp;omega}
    ·have e:g7=k:=by simpa [Value.ownBlock] using hk
     subst e;rcases t7 with t7|t7
     ·exact hov _ t7
     ·rintro (e|e)
      ·have h8:=hs6 _ (.inl e);omega
      ·omega
    ·rw [<-HI.out.fq,chQ,if_neg HN0.out.1,HT.out.2.2.2,HT.out.2.1,jU];rfl
   case measure=>omega
end
end Go.Proofs.YtaijfhadecennabGreat.Oct
