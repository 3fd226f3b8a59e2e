/- Part of a proof. -/
import Derived.Test.YtjllhcifmfhkmaaGreatKe
import Derived.Test.YtjllhcifmfhkmaaGreatQh
import Derived.Test.YtjllhcifmfhkmaaGreatKa
set_option maxHeartbeats 2000000
namespace Go.Proofs.YtjllhcifmfhkmaaGreat.Oct
open Go.RowKit
def PtR (w:World) (zs:List Int) (e:Ending) (w':World):Prop:=∃g c,e=.returned (.tuple #[.slice g (ptL zs).length c,.int .i64 (ptN zs),.int .i64 (ptE zs)])∧(g=none→c=0)∧Row w' g c (ptL zs)∧Below w.heap.size w w'
end Go.Proofs.YtjllhcifmfhkmaaGreat.Oct
namespace Go.Proofs.YtjllhcifmfhkmaaGreat.Oct.Chs
open Go.RowKit
theorem within_v (n a b:Int) (B:Bool) (h:decide (a≤n∧n≤b)=B) (w:World):
  Calls Tryz.prog 135 #[.int .i64 n,.int .i64 a,.int .i64 b] w fun e w'=>e=.returned (.bool B)∧w=w':=by
 subst h;by_cases h1:a≤n
 ·by_cases h2:n≤b
  ·rw [decide_eq_true (show a≤n∧n≤b from ⟨h1,h2⟩)];go_enter Tryz.func135,Tryz.ntmps135
   go_wp2;go_ret
   exact ⟨rfl,rfl⟩
  ·rw [decide_eq_false (show ¬(a≤n∧n≤b) from fun h=>h2 h.2)];go_enter Tryz.func135,Tryz.ntmps135
   go_wp2;go_ret
   exact ⟨rfl,rfl⟩
 ·rw [decide_eq_false (show ¬(a≤n∧n≤b) from fun h=>h1 h.1)];go_enter Tryz.func135,Tryz.ntmps135
  go_wp2;go_ret
  exact ⟨rfl,rfl⟩
theorem noughts_v (b off cap n:Nat) (zs:List Int) (w:World) (h:Row w (some ⟨b,off,none⟩) cap zs) (hn:zs.length=n) (V:Bool) (hV:nouB zs=V):
  Calls Tryz.prog 115 #[.slice (some ⟨b,off,none⟩) n cap] w fun e w'=>e=.returned (.bool V)∧w=w':=by
 subst hn;have hm:=Nat.le_trans h.2.1 h.2.2.1;unfold maxLen at hm;have HCE:Hid (∀i,i<zs.length→w.cell? ⟨b,off+i,none⟩=some (.int .u8 (zs.getD i 0))):=h.cells;have HBY:Hid (Bys zs):=h.1;have HV:Hid (nouB zs=V):=hV;clear hV h;go_enter Tryz.func115,Tryz.ntmps115
 go_wp2_with fail
 go_loop [7] (fun i=>∃k:Nat,k≤zs.length∧i=.int .i64 k∧Hid (∀j,j<k→zs.getD j 0=0)) (fun i=>zs.length-(intOf i).toNat)
 case atStart=>exact ⟨0,Nat.zero_le _,rfl,fun j hj=>by omega⟩
 case round=>
  obtain ⟨k,hk,rfl,HK⟩:=hrel;by_cases hlt:k<zs.length
  ·have hc:=HCE.out k hlt;obtain ⟨x,hx⟩:∃x,zs.getD k 0=x:=⟨_,rfl⟩;rw [hx] at hc;by_cases h0:x=0
   ·subst h0;have HX:Hid (zs.getD k 0=0):=hx;clear hx;go_wp2;go_round
    case rel=>exact ⟨k+1,by omega,by go_num,fun j hj=>by
     by_cases e:j=k
     ·rw [e];exact HX.out
     ·exact HK.out j (by omega)⟩
    case measure=>simp [intOf];omega
   ·have e:V=false:=by rw [←HV.out];exact nouB_no hlt (by rw [hx];exact h0)
    have h0b:(x !=0)=true:=by simpa using h0
    subst e;clear hx h0;go_wp2;go_ret
    exact ⟨rfl,rfl⟩
  ·have e:V=true:=by rw [←HV.out];exact nouB_iff.2 fun j hj=>HK.out j (by omega)
   subst e;go_wp2;go_ret
   exact ⟨rfl,rfl⟩
def hfB (P:Pg) (X:Int):Bool:=decide (P.kind=5)&&(decide (P.level=0)&&(if X=0 then decide (1≤P.count∧P.count≤244) else decide (2≤X∧X≤4095)&&decide (P.count=244)))
theorem headFits_v (P:Pg) (g:Option Addr) (n c:Nat) (X:Int) (w:World) (V:Bool) (hV:hfB P X=V):
  Calls Tryz.prog 114 #[.agg #[.int .i64 P.kind,.int .i64 P.level,.int .i64 P.count,.slice g n c],.int .i64 X] w fun e w'=>e=.returned (.bool V)∧Below w.heap.size w w':=by
 obtain ⟨kind,level,count,body⟩:=P;unfold hfB at hV;dsimp only at hV ⊢;by_cases h1:kind=5;rotate_left
 ·rw [decide_eq_false h1] at hV;have e:V=false:=hV.symm;subst e;have b1:(kind !=5)=true:=by simpa using h1
  clear h1 hV;go_enter Tryz.func114,Tryz.ntmps114
  go_wp2;go_ret
  exact ⟨rfl,(Below.refl _ _).alloc (Nat.le_refl _) _⟩
 subst h1;by_cases h2:level=0;rotate_left
 ·rw [decide_eq_false h2] at hV;have e:V=false:=hV.symm;subst e;have b1:(level !=0)=true:=by simpa using h2
  clear h2 hV;go_enter Tryz.func114,Tryz.ntmps114
  go_wp2;go_ret
  exact ⟨rfl,(Below.refl _ _).alloc (Nat.le_refl _) _⟩
 subst h2;by_cases h3:X=0
 ·subst h3;rw [if_pos rfl] at hV;have c1:=fun w=>within_v count 1 244 V hV w
  clear hV;go_enter Tryz.func114,Tryz.ntmps114
  go_wp2_with (go_at_call 135;refine (c1 _).mono ?_;rintro e w1 ⟨rfl,rfl⟩)
  go_ret
  exact ⟨rfl,(Below.refl _ _).alloc (Nat.le_refl _) _⟩
 ·rw [if_neg h3] at hV;have b3:(X==0)=false:=by simpa using h3
  have c1:=fun w=>within_v X 2 4095 _ rfl w
  cases h4:decide (2≤X∧X≤4095)
  ·rw [h4] at hV c1;have e:V=false:=hV.symm;subst e;clear hV h4 h3;go_enter Tryz.func114,Tryz.ntmps114
   go_wp2_with (go_at_call 135;refine (c1 _).mono ?_;rintro e w1 ⟨rfl,rfl⟩)
   go_ret
   exact ⟨rfl,(Below.refl _ _).alloc (Nat.le_refl _) _⟩
  ·rw [h4] at hV c1;have e:(count==244)=V:=by rw [←hV];rfl
   clear hV h4 h3;go_enter Tryz.func114,Tryz.ntmps114
   go_wp2_with (go_at_call 135;refine (c1 _).mono ?_;rintro e w1 ⟨rfl,rfl⟩)
   go_ret
   exact ⟨by first|rfl|rw [e],(Below.refl _ _).alloc (Nat.le_refl _) _⟩
end Go.Proofs.YtjllhcifmfhkmaaGreat.Oct.Chs
namespace Go.Proofs.YtjllhcifmfhkmaaGreat.Oct.Chs
open Go.RowKit
theorem noughts_e (a:Option Addr) (cap:Nat) (w:World):
  Calls Tryz.prog 115 #[.slice a 0 cap] w fun e w'=>e=.returned (.bool true)∧w=w':=by
 go_enter Tryz.func115,Tryz.ntmps115
 go_wp2_with fail
 go_loop [7] (fun i=>i=.int .i64 0) (fun i=>0)
 case atStart=>rfl
 case round=>
  subst hrel;go_wp2;go_ret
  exact ⟨rfl,rfl⟩
theorem noughts_w (a:Option Addr) (cap n:Nat) (zs:List Int) (w:World) (h:Row w a cap zs) (hn:zs.length=n) (V:Bool) (hV:nouB zs=V):
  Calls Tryz.prog 115 #[.slice a n cap] w fun e w'=>e=.returned (.bool V)∧w=w':=by
 by_cases h0:zs.length=0
 ·have hz:zs=[]:=List.eq_nil_of_length_eq_zero h0;subst hz;have hv:V=true:=hV.symm;subst hv;have hn0:n=0:=hn.symm;subst hn0;exact noughts_e a cap w
 ·obtain ⟨b,off,rfl⟩:=h.some' (by omega);exact noughts_v b off cap n zs w h hn V hV
theorem part_err (a:Option Addr) (cap n:Nat) (w:World) (P:Pg) (E:Int) (C:Calls Tryz.prog 77 #[.slice a n cap] w fun e w'=>∃g c,e=.returned (.tuple #[pgV P g c,.int .i64 E])∧Own w.heap.size w' (.slice g P.body.length c) P.body∧Below w.heap.size w w') (hE:(E !=0)=true):
  Calls Tryz.prog 91 #[.slice a n cap] w fun e w'=>e=.returned (.tuple #[.slice none 0 0,.int .i64 0,.int .i64 E])∧Below w.heap.size w w':=by
 dsimp only [pgV] at C;have HC:Hid _:=C;clear C;go_enter Tryz.func91,Tryz.ntmps91
 go_wp2_with fail
 refine (Calls.mono HC.out) ?_;rintro e w1 ⟨g,c,rfl,ho,hb⟩;have HB:Hid (Below w.heap.size w w1):=hb;clear hb ho HC;go_wp2;go_ret3
 exact ⟨rfl,HB.out.alloc HB.out.size _⟩
theorem part_head (a:Option Addr) (cap n:Nat) (w:World) (P:Pg) (C:Calls Tryz.prog 77 #[.slice a n cap] w fun e w'=>∃g c,e=.returned (.tuple #[pgV P g c,.int .i64 0])∧Own w.heap.size w' (.slice g P.body.length c) P.body∧Below w.heap.size w w') (hlen:P.body.length=248) (hbys:Bys P.body) (X:Int) (hX:nx P=X) (h1:hfB P X=false):
  Calls Tryz.prog 91 #[.slice a n cap] w fun e w'=>e=.returned (.tuple #[.slice none 0 0,.int .i64 0,.int .i64 4])∧Below w.heap.size w w':=by
 dsimp only [pgV] at C;rw [hlen] at C;have HC:Hid _:=C;clear C;go_enter Tryz.func91,Tryz.ntmps91
 go_wp2_with fail
 refine (Calls.mono HC.out) ?_;rintro e w1 ⟨g,c,rfl,ho,hb⟩;have HB:Hid (Below w.heap.size w w1):=hb;have hg:=get_any g c P.body 0 4 (w1.alloc (.cells #[.int .i64 P.kind,.int .i64 P.level,.int .i64 P.count,.slice g 248 c] 127)) ((ho.row' hbys).2.below ((Below.refl _ _).alloc (Nat.le_refl _) _));rw [hlen,show getI P.body 0 4=X from hX,show getB P.body 0 4=true from getB_yes (p:=0) (n:=4) hbys (by omega) (by omega) (by omega)] at hg;have HH:Hid (∀w,Calls Tryz.prog 114 #[.agg #[.int .i64 P.kind,.int .i64 P.level,.int .i64 P.count,.slice g 248 c],.int .i64 X] w fun e w'=>e=.returned (.bool false)∧Below w.heap.size w w'):=fun w=>headFits_v P g 248 c X w false h1
 clear hb ho HC hX h1;go_wp2_with fail
 refine hg.mono ?_;clear hg;rintro e w2 ⟨rfl,hb2⟩;have hsz:(w1.alloc (.cells #[.int .i64 P.kind,.int .i64 P.level,.int .i64 P.count,.slice g 248 c] 127)).heap.size=w1.heap.size+1:=by simp
 have c0:w2.cell? ⟨w1.heap.size,0,none⟩=some (.int .i64 P.kind):=(hb2.cell (p:=⟨w1.heap.size,0,none⟩) (by show w1.heap.size<_;omega)).trans (World.cell?_alloc_at _ _ _ _ rfl);have c1:w2.cell? ⟨w1.heap.size,1,none⟩=some (.int .i64 P.level):=(hb2.cell (p:=⟨w1.heap.size,1,none⟩) (by show w1.heap.size<_;omega)).trans (World.cell?_alloc_at _ _ _ _ rfl);have c2:w2.cell? ⟨w1.heap.size,2,none⟩=some (.int .i64 P.count):=(hb2.cell (p:=⟨w1.heap.size,2,none⟩) (by show w1.heap.size<_;omega)).trans (World.cell?_alloc_at _ _ _ _ rfl);have c3:w2.cell? ⟨w1.heap.size,3,none⟩=some (.slice g 248 c):=(hb2.cell (p:=⟨w1.heap.size,3,none⟩) (by show w1.heap.size<_;omega)).trans (World.cell?_alloc_at _ _ _ _ rfl);have HB2:Hid (Below w.heap.size w w2):=(HB.out.alloc HB.out.size _).trans (hb2.mono (HB.out.alloc HB.out.size _).size);clear hb2 hsz;go_wp2_with fail
 refine (HH.out _).mono ?_;rintro e w3 ⟨rfl,hb3⟩;have HB3:Hid (Below w.heap.size w w3):=HB2.out.trans (hb3.mono HB2.out.size);clear hb3;go_wp2;go_ret3
 exact ⟨rfl,HB3.out⟩
theorem part_got (a:Option Addr) (cap n:Nat) (w:World) (P:Pg) (C:Calls Tryz.prog 77 #[.slice a n cap] w fun e w'=>∃g c,e=.returned (.tuple #[pgV P g c,.int .i64 0])∧Own w.heap.size w' (.slice g P.body.length c) P.body∧Below w.heap.size w w') (hlen:P.body.length=248) (hbys:Bys P.body) (X:Int) (hX:nx P=X) (h1:hfB P X=true) (k:Nat) (hk:P.count=k) (hk1:1≤k) (hk2:k≤244) (V:Bool) (hV:nouB (P.body.drop (4+k))=V):
  Calls Tryz.prog 91 #[.slice a n cap] w fun e w'=>∃g c,e=.returned (.tuple #[.slice g (if V then k else 0) c,.int .i64 (if V then X else 0),.int .i64 (if V then 0 else 4)])∧(g=none→c=0)∧Row w' g c (if V then (P.body.drop 4).take k else [])∧Below w.heap.size w w':=by
 have HH:Hid (∀g c w,Calls Tryz.prog 114 #[.agg #[.int .i64 P.kind,.int .i64 P.level,.int .i64 k,.slice g 248 c],.int .i64 X] w fun e w'=>e=.returned (.bool true)∧Below w.heap.size w w'):=fun g c w=>by rw [←hk];exact headFits_v P g 248 c X w true h1
 dsimp only [pgV] at C;rw [hlen,hk] at C;have HC:Hid _:=C;clear C hk h1;go_enter Tryz.func91,Tryz.ntmps91
 go_wp2_with fail
 refine (Calls.mono HC.out) ?_;rintro e w1 ⟨g,c,rfl,ho,hb⟩;have HB:Hid (Below w.heap.size w w1):=hb;have HR:Hid (Row w1 g c P.body):=(ho.row' hbys).2;have hg:=get_any g c P.body 0 4 (w1.alloc (.cells #[.int .i64 P.kind,.int .i64 P.level,.int .i64 k,.slice g 248 c] 127)) (HR.out.below ((Below.refl _ _).alloc (Nat.le_refl _) _));rw [hlen,show getI P.body 0 4=X from hX,show getB P.body 0 4=true from getB_yes (p:=0) (n:=4) hbys (by omega) (by omega) (by omega)] at hg;clear hb ho HC hX;obtain ⟨b,off,hgg⟩:=HR.out.some' (by omega);subst hgg;have hcap:=HR.out.2.1;have hmx:=HR.out.2.2.1;unfold maxLen at hmx;rw [hlen] at hcap;go_wp2_with fail
 refine hg.mono ?_;clear hg;rintro e w2 ⟨rfl,hb2⟩;have hsz:(w1.alloc (.cells #[.int .i64 P.kind,.int .i64 P.level,.int .i64 k,.slice (some ⟨b,off,none⟩) 248 c] 127)).heap.size=w1.heap.size+1:=by simp
 have c0:w2.cell? ⟨w1.heap.size,0,none⟩=some (.int .i64 P.kind):=(hb2.cell (p:=⟨w1.heap.size,0,none⟩) (by show w1.heap.size<_;omega)).trans (World.cell?_alloc_at _ _ _ _ rfl);have c1:w2.cell? ⟨w1.heap.size,1,none⟩=some (.int .i64 P.level):=(hb2.cell (p:=⟨w1.heap.size,1,none⟩) (by show w1.heap.size<_;omega)).trans (World.cell?_alloc_at _ _ _ _ rfl);have c2:w2.cell? ⟨w1.heap.size,2,none⟩=some (.int .i64 k):=(hb2.cell (p:=⟨w1.heap.size,2,none⟩) (by show w1.heap.size<_;omega)).trans (World.cell?_alloc_at _ _ _ _ rfl);have c3:w2.cell? ⟨w1.heap.size,3,none⟩=some (.slice (some ⟨b,off,none⟩) 248 c):=(hb2.cell (p:=⟨w1.heap.size,3,none⟩) (by show w1.heap.size<_;omega)).trans (World.cell?_alloc_at _ _ _ _ rfl);have HB2:Hid (Below w.heap.size w w2):=(HB.out.alloc HB.out.size _).trans (hb2.mono (HB.out.alloc HB.out.size _).size);have HB12:Hid (Below w1.heap.size w1 w2):=((Below.refl _ w1).alloc (Nat.le_refl _) _).trans (hb2.mono (by omega));have HS2:Hid (w1.heap.size<w2.heap.size):=Nat.lt_of_lt_of_le (by omega) hb2.size;clear hb2 hsz;go_wp2_with fail
 refine (HH.out _ _ _).mono ?_;rintro e w3 ⟨rfl,hb3⟩;have HB3:Hid (Below w.heap.size w w3):=HB2.out.trans (hb3.mono HB2.out.size);have HR3:Hid (Row w3 (some ⟨b,off,none⟩) c P.body):=(HR.out.below HB12.out).below hb3
 replace c2:=(hb3.cell (p:=⟨w1.heap.size,2,none⟩) HS2.out).trans c2
 replace c3:=(hb3.cell (p:=⟨w1.heap.size,3,none⟩) HS2.out).trans c3
 clear hb3 c0 c1;by_cases hck:c=4+k
 ·have hk8:k=244:=by omega
  subst hk8;subst hck;have hv:V=true:=by rw [←hV,List.drop_of_length_le (by omega)];rfl
  subst hv;have CN:=noughts_e (some ⟨b,off,none⟩) 0 w3;go_wp2_with fail
  refine CN.mono ?_;clear CN;rintro e w4 ⟨rfl,rfl⟩;go_wp2;go_ret3
  exact ⟨some ⟨b,off+4,none⟩,244,rfl,(fun h=>by cases h),(HR3.out.drop' 4 (by omega)).take' 244 244 (by rw [List.length_drop];omega) (by omega) (by omega),HB3.out⟩
 ·have hrd:=HR3.out.drop' (4+k) (by omega);have CN:=noughts_w _ _ (248-(4+k)) _ _ hrd (by rw [List.length_drop,hlen]) V hV;clear hrd;have hk4:((4+k:Nat):Int)=4+(k:Int):=by omega
  cases V
  ·go_wp2_with fail
   refine CN.mono ?_;clear CN;rintro e w4 ⟨rfl,rfl⟩;go_wp2;go_ret3
   exact ⟨none,0,rfl,fun _=>rfl,row0 _,HB3.out⟩
  ·go_wp2_with fail
   refine CN.mono ?_;clear CN;rintro e w4 ⟨rfl,rfl⟩;go_wp2;go_ret3
   exact ⟨some ⟨b,off+4,none⟩,k,rfl,(fun h=>by cases h),(HR3.out.drop' 4 (by omega)).take' k k (by rw [List.length_drop];omega) (by omega) (by omega),HB3.out⟩
theorem nx_up {P:Pg} (h:Bys P.body):0≤nx P:=by
 unfold nx getI;split
 ·unfold capI;split
  ·exact (num_bd7 h 0 4 (by omega)).1
  ·omega
 ·omega
theorem hfB_iff {P:Pg} (h0:0≤nx P):hfB P (nx P)=true↔P.kind=5∧P.level=0∧(1≤P.count∧P.count≤244)∧(nx P≠1∧nx P<4096∧(nx P≠0→P.count=244)):=by
 unfold hfB;by_cases h:nx P=0
 ·rw [if_pos h];simp only [Bool.and_eq_true,decide_eq_true_eq,h];constructor
  ·exact fun ⟨a,b,c⟩=>⟨a,b,c,by omega,by omega,fun x=>absurd rfl x⟩
  ·exact fun ⟨a,b,c,_⟩=>⟨a,b,c⟩
 ·rw [if_neg h];simp only [Bool.and_eq_true,decide_eq_true_eq];constructor
  ·exact fun ⟨a,b,c,d⟩=>⟨a,b,by omega,by omega,by omega,fun _=>d⟩
  ·exact fun ⟨a,b,c,d,e,f⟩=>⟨a,b,by omega,f h⟩
theorem Part_v (a:Option Addr) (cap:Nat) (zs:List Int) (w:World) (h:Row w a cap zs):Calls Tryz.prog 91 #[.slice a zs.length cap] w (PtR w zs):=by
 have C:=open_v a cap zs.length zs w h rfl _ rfl _ rfl;by_cases ho:opE zs=0;rotate_left
 ·obtain ⟨e1,e2,e3⟩:=ptE_op ho;refine (part_err a cap zs.length w _ _ C (by simpa using ho)).mono ?_;rintro e w' ⟨rfl,hb⟩;unfold PtR;rw [e1,e2,e3];exact ⟨none,0,rfl,fun _=>rfl,row0 _,hb⟩
 rw [ho] at C;obtain ⟨_,_,hbys,hlen⟩:=seal_open h.1 ho;have h0:=nx_up hbys;by_cases hh:(opP zs).kind=5∧(opP zs).level=0∧(1≤(opP zs).count∧(opP zs).count≤244)∧(nx (opP zs)≠1∧nx (opP zs)<4096∧(nx (opP zs)≠0→(opP zs).count=244));rotate_left
 ·obtain ⟨e1,e2,e3⟩:=ptE_no ho (ptB_no hh);refine (part_head a cap zs.length w _ C hlen hbys _ rfl (by rw [←Bool.not_eq_true,hfB_iff h0];exact hh)).mono ?_;rintro e w' ⟨rfl,hb⟩;unfold PtR;rw [e1,e2,e3];exact ⟨none,0,rfl,fun _=>rfl,row0 _,hb⟩
 obtain ⟨k,hk⟩:=Int.eq_ofNat_of_zero_le (show 0≤(opP zs).count by omega);obtain ⟨V,hV⟩:∃V,nouB ((opP zs).body.drop (4+k))=V:=⟨_,rfl⟩;have hg:=part_got a cap zs.length w _ C hlen hbys _ rfl ((hfB_iff h0).2 hh) k hk (by omega) (by omega) V hV;have hp:ptB (opP zs)=V:=by rw [ptB_yes hh.1 hh.2.1 hh.2.2.1.1 hh.2.2.1.2 hh.2.2.2.1 hh.2.2.2.2.1 hh.2.2.2.2.2,hk,Int.toNat_natCast];exact hV
 refine hg.mono ?_;rintro e w' ⟨g,c,rfl,h1,h2,hb⟩;unfold PtR;cases V
 ·obtain ⟨e1,e2,e3⟩:=ptE_no ho hp;rw [e1,e2,e3];exact ⟨g,c,rfl,h1,h2,hb⟩
 ·have e1:ptE zs=0:=by unfold ptE;rw [if_pos ho,hp];rfl
  have e2:ptL zs=((opP zs).body.drop 4).take k:=by unfold ptL;rw [e1,hk];rfl
  have e3:ptN zs=nx (opP zs):=by unfold ptN;rw [e1];rfl
  rw [e1,e2,e3];have hl:(((opP zs).body.drop 4).take k).length=k:=by rw [List.length_take,List.length_drop,hlen];omega
  rw [hl];exact ⟨g,c,rfl,h1,h2,hb⟩
end Go.Proofs.YtjllhcifmfhkmaaGreat.Oct.Chs
