/- Part of a proof. -/
import Derived.Test.YtjllhcifmfhkmaaGreatYa
import Derived.Test.YtjllhcifmfhkmaaGreatKa
import Derived.Test.YtjllhcifmfhkmaaGreatUl
set_option maxHeartbeats 1000000
namespace Go.Proofs.YtjllhcifmfhkmaaGreat.Oct
open Go.RowKit
structure Wk where
 kd:List Int
 pc:List C4
 tx:List Int
 bad:Bool
structure S3 where
 p:Int
 b:Int
 l:Int
def s30:S3:=⟨0,0,0⟩
def kdB (W:Wk) (n kd:Int):Bool:=decide (2≤n)&&(decide (n<(W.kd.length:Int))&&(W.kd.getD n.toNat 0==0||(kd==120&&W.kd.getD n.toNat 0==120)))
def wpg (W:Wk) (n kd:Int):Wk:=if kdB W n kd then {W with kd:=W.kd.set n.toNat kd} else {W with bad:=true}
def seg (t:List Int) (p:C4):List Int:=(t.drop p.b.toNat).take p.c.toNat
def lin (l:List Int):Int:=(l.count 10:Nat)
def wpc (L:List Int) (W:Wk) (p:C4):Wk:=
 if kdB W p.a 120 then
  (if teE (pageOf L p.a.toNat)=0∧p.b+p.c≤((teL (pageOf L p.a.toNat)).length:Int) then
   ⟨W.kd.set p.a.toNat 120,W.pc++[p],W.tx++seg (teL (pageOf L p.a.toNat)) p,!(lin (seg (teL (pageOf L p.a.toNat)) p)==p.d)||decide (1048576<(W.tx++seg (teL (pageOf L p.a.toNat)) p).length)⟩
  else {W with kd:=W.kd.set p.a.toNat 120,bad:=true})
 else {W with bad:=true}
def lfGo (L:List Int):List C4→Wk × S3→Wk × S3
 |[],x=>x
 |p::l,x=>if x.1.bad then x else lfGo L l (wpc L x.1 p,⟨x.2.p+1,x.2.b+p.c,x.2.l+p.d⟩)
def lfB (z:List Int) (root:Bool):Bool:=!(reE false z==0)||(!root&&decide ((reL false z).length<10))
def wlf (L:List Int) (z:List Int) (root:Bool) (W:Wk):Wk × S3:=lfGo L (reL false z) ({W with bad:=W.bad||lfB z root},s30)
def kdGo (f:Int→Wk→Wk × S3):List C4→Wk × S3→Wk × S3
 |[],x=>x
 |k::l,x=>if x.1.bad then x else kdGo f l ({(f k.a x.1).1 with bad:=(f k.a x.1).1.bad||!((f k.a x.1).2.p==k.b&&((f k.a x.1).2.b==k.c&&(f k.a x.1).2.l==k.d))},⟨x.2.p+(f k.a x.1).2.p,x.2.b+(f k.a x.1).2.b,x.2.l+(f k.a x.1).2.l⟩)
def inB3 (z:List Int) (lv:Nat) (root:Bool):Bool:=!(reE true z==0)||(!(reV true z==(lv:Int))||(decide ((reL true z).length<2)||(!root&&decide ((reL true z).length<6))))
def wtr (L:List Int):Nat→Bool→Int→Wk→Wk × S3
 |0,root,n,W=>if (wpg W n 116).bad then (wpg W n 116,s30) else wlf L (pageOf L n.toNat) root (wpg W n 116)
 |lv+1,root,n,W=>if (wpg W n 116).bad then (wpg W n 116,s30) else kdGo (wtr L lv false) (reL true (pageOf L n.toNat)) ({wpg W n 116 with bad:=(wpg W n 116).bad||inB3 (pageOf L n.toNat) (lv+1) root},s30)
def chGo (L:List Int) (kd:Int):Nat→Int→Wk→List Int→Wk × List Int
 |0,_,W,out=>(W,out)
 |f+1,n,W,out=>if n=0∨W.bad=true then (W,out) else if (wpg W n kd).bad then (wpg W n kd,out) else
   chGo L kd f (ptN (pageOf L n.toNat)) {wpg W n kd with bad:=!(ptE (pageOf L n.toNat)==0)||decide (1048576<out.length+(ptL (pageOf L n.toNat)).length)} (out++ptL (pageOf L n.toNat))
def pgN (L:List Int):Nat:=L.length/256
def wk0 (n:Nat):Wk:=⟨List.replicate n 0,[],[],false⟩
def wkA (L:List Int) (S:Sp):Wk × S3:=if S.r=0 then (wk0 (pgN L),s30) else wtr L (S.h-1).toNat true S.r (wk0 (pgN L))
def wkB (L:List Int) (S:Sp):Wk:={(wkA L S).1 with bad:=(wkA L S).1.bad||!((wkA L S).2.b==S.b&&(wkA L S).2.l==S.l)}
def wkC (L:List Int) (S:Sp):Wk × List Int:=chGo L 115 (pgN L+1) S.s (wkB L S) []
def wkD (L:List Int) (S:Sp):Wk × List Int:=chGo L 102 (pgN L+1) S.f (wkC L S).1 []
def frB (fr kd:List Int) (n i:Nat):Bool:=bitR fr i==(decide (i<2)||(decide (i<n)&&!(kd.getD i 0==0)))
def waB (L:List Int) (S:Sp):Bool:=!(wkD L S).1.bad&&(decide ((wkD L S).2.length=(pgN L+7)/8)&&(List.range ((wkD L S).2.length*8)).all (frB (wkD L S).2 (wkD L S).1.kd (pgN L)))
def waE (L:List Int) (S:Sp):Int:=if okS S then (if S.p=(pgN L:Int) then (if waB L S then 0 else 8) else 8) else 1
def rsg (kd:List Int):Nat→List Int
 |0=>[]
 |k+1=>if kd.getD k 0=0 then rsg kd k else rsg kd k++[(k:Int)]
structure Rp where
 s:Sp
 pl:Int
 pc:List C4
 tx:List Int
 st:List Int
 pg:List Int
 h:Int
def rp0:Rp:=⟨sp0,0,[],[],[],[],0⟩
def waR (L:List Int) (S:Sp):Rp:=if waE L S=0 then ⟨S,-1,(wkD L S).1.pc,(wkD L S).1.tx,(wkC L S).2,rsg (wkD L S).1.kd (pgN L),S.h⟩ else rp0
def opX (L:List Int):Int:=chE (pageOf L 0) (pageOf L 1)
def oaE (L:List Int):Int:=if opX L=0 then (if waE L (chS (pageOf L 0) (pageOf L 1))=0 then 0 else 8) else opX L
def oaR (L:List Int):Rp:=if oaE L=0 then {waR L (chS (pageOf L 0) (pageOf L 1)) with pl:=chP (pageOf L 0) (pageOf L 1)} else rp0
theorem wpg_len (W:Wk) (n kd:Int):(wpg W n kd).kd.length=W.kd.length:=by unfold wpg;split<;>simp
theorem wpg_bad {W:Wk} (h:W.bad=false) (n kd:Int):(wpg W n kd).bad=!kdB W n kd:=by
 unfold wpg;split
 ·next e=>rw [e];exact h
 ·next e=>simp only [Bool.not_eq_true] at e;rw [e];rfl
theorem wpg_yes {W:Wk} {n kd:Int} (h:kdB W n kd=true):wpg W n kd={W with kd:=W.kd.set n.toNat kd}:=if_pos h
theorem wpg_no {W:Wk} {n kd:Int} (h:kdB W n kd=false):wpg W n kd={W with bad:=true}:=if_neg (by rw [h];simp)
theorem kdB_in {W:Wk} {n kd:Int} (h:kdB W n kd=true):2≤n∧n<(W.kd.length:Int):=by
 unfold kdB at h;simp only [Bool.and_eq_true,decide_eq_true_eq] at h;exact ⟨h.1,h.2.1⟩
theorem wpc_len (L:List Int) (W:Wk) (p:C4):(wpc L W p).kd.length=W.kd.length:=by
 unfold wpc
 repeat' split
 all_goals simp
theorem lfGo_len (L:List Int):∀(l:List C4) (x:Wk × S3),(lfGo L l x).1.kd.length=x.1.kd.length:=by
 intro l
 induction l with
 |nil=>intro x;rfl
 |cons p l ih=>
  intro x;unfold lfGo;split
  ·rfl
  ·rw [ih];exact wpc_len L x.1 p
theorem wlf_len (L z:List Int) (root:Bool) (W:Wk):(wlf L z root W).1.kd.length=W.kd.length:=lfGo_len L _ _
theorem kdGo_len {f:Int→Wk→Wk × S3} (hf:∀n W,(f n W).1.kd.length=W.kd.length):∀(l:List C4) (x:Wk × S3),(kdGo f l x).1.kd.length=x.1.kd.length:=by
 intro l
 induction l with
 |nil=>intro x;rfl
 |cons p l ih=>
  intro x;unfold kdGo;split
  ·rfl
  ·rw [ih];exact hf p.a x.1
theorem wtr_len (L:List Int):∀(lv:Nat) (root:Bool) (n:Int) (W:Wk),(wtr L lv root n W).1.kd.length=W.kd.length:=by
 intro lv
 induction lv with
 |zero=>
  intro root n W;unfold wtr;split
  ·exact wpg_len W n 116
  ·rw [wlf_len,wpg_len]
 |succ lv ih=>
  intro root n W;unfold wtr;split
  ·exact wpg_len W n 116
  ·rw [kdGo_len (ih false)];exact wpg_len W n 116
theorem chGo_len (L:List Int) (kd:Int):∀(f:Nat) (n:Int) (W:Wk) (out:List Int),(chGo L kd f n W out).1.kd.length=W.kd.length:=by
 intro f
 induction f with
 |zero=>intro n W out;rfl
 |succ f ih=>
  intro n W out;unfold chGo
  repeat' split
  ·rfl
  ·exact wpg_len W n kd
  ·rw [ih];exact wpg_len W n kd
theorem cnoughts_v (b off cap n:Nat) (zs:List Int) (w:World) (h:Row w (some ⟨b,off,none⟩) cap zs) (hn:zs.length=n) (V:Bool) (hV:nouB zs=V):
  Calls Tryz.prog 129 #[.slice (some ⟨b,off,none⟩) n cap] w fun e w'=>e=.returned (.bool V)∧w=w':=by
 subst hn;have hm:=Nat.le_trans h.2.1 h.2.2.1;unfold maxLen at hm;have HCE:Hid (∀i,i<zs.length→w.cell? ⟨b,off+i,none⟩=some (.int .u8 (zs.getD i 0))):=h.cells;have HBY:Hid (Bys zs):=h.1;have HV:Hid (nouB zs=V):=hV;clear hV h;go_enter Tryz.func129,Tryz.ntmps129
 go_wp2_with fail
 go_loop [7] (fun i=>∃k:Nat,k≤zs.length∧i=.int .i64 k∧Hid (∀j,j<k→zs.getD j 0=0)) (fun i=>zs.length-(intOf i).toNat)
 case atStart=>exact ⟨0,Nat.zero_le _,rfl,fun j hj=>by omega⟩
 case round=>
  obtain ⟨k,hk,rfl,HK⟩:=hrel;by_cases hlt:k<zs.length
  ·have hc:=HCE.out k hlt;obtain ⟨x,hx⟩:∃x,zs.getD k 0=x:=⟨_,rfl⟩;rw [hx] at hc;by_cases h0:x=0
   ·subst h0;have HX:Hid (zs.getD k 0=0):=hx;clear hx;go_wp2;go_round
    case rel=>exact ⟨k+1,by omega,by go_num,fun j hj=>by
     by_cases e:j=k
     ·rw [e];exact HX.out
     ·exact HK.out j (by omega)⟩
    case measure=>simp [intOf];omega
   ·have e:V=false:=by rw [←HV.out];exact nouB_no hlt (by rw [hx];exact h0)
    have h0b:(x !=0)=true:=by simpa using h0
    subst e;clear hx h0;go_wp2;go_ret
    exact ⟨rfl,rfl⟩
  ·have e:V=true:=by rw [←HV.out];exact nouB_iff.2 fun j hj=>HK.out j (by omega)
   subst e;go_wp2;go_ret
   exact ⟨rfl,rfl⟩
theorem noughts_e (a:Option Addr) (cap:Nat) (w:World):
  Calls Tryz.prog 129 #[.slice a 0 cap] w fun e w'=>e=.returned (.bool true)∧w=w':=by
 go_enter Tryz.func129,Tryz.ntmps129
 go_wp2_with fail
 go_loop [7] (fun i=>i=.int .i64 0) (fun i=>0)
 case atStart=>rfl
 case round=>
  subst hrel;go_wp2;go_ret
  exact ⟨rfl,rfl⟩
theorem noughts_w (a:Option Addr) (cap n:Nat) (zs:List Int) (w:World) (h:Row w a cap zs) (hn:zs.length=n) (V:Bool) (hV:nouB zs=V):
  Calls Tryz.prog 129 #[.slice a n cap] w fun e w'=>e=.returned (.bool V)∧w=w':=by
 by_cases h0:zs.length=0
 ·have hz:zs=[]:=List.eq_nil_of_length_eq_zero h0;subst hz;have hv:V=true:=hV.symm;subst hv;have hn0:n=0:=hn.symm;subst hn0;exact noughts_e a cap w
 ·obtain ⟨b,off,rfl⟩:=h.some' (by omega);exact cnoughts_v b off cap n zs w h hn V hV
theorem cwithin_any (n a b:Int) (w:World):
  Calls Tryz.prog 148 #[.int .i64 n,.int .i64 a,.int .i64 b] w fun e w'=>e=.returned (.bool (decide (a≤n∧n≤b)))∧w=w':=by
 by_cases h1:a≤n
 ·by_cases h2:n≤b
  ·rw [decide_eq_true (show a≤n∧n≤b from ⟨h1,h2⟩)];go_enter Tryz.func148,Tryz.ntmps148
   go_wp2;go_ret
   exact ⟨rfl,rfl⟩
  ·rw [decide_eq_false (show ¬(a≤n∧n≤b) from fun h=>h2 h.2)];go_enter Tryz.func148,Tryz.ntmps148
   go_wp2;go_ret
   exact ⟨rfl,rfl⟩
 ·rw [decide_eq_false (show ¬(a≤n∧n≤b) from fun h=>h1 h.1)];go_enter Tryz.func148,Tryz.ntmps148
  go_wp2;go_ret
  exact ⟨rfl,rfl⟩
theorem cwithin_v (n a b:Int) (B:Bool) (h:decide (a≤n∧n≤b)=B) (w:World):
  Calls Tryz.prog 148 #[.int .i64 n,.int .i64 a,.int .i64 b] w fun e w'=>e=.returned (.bool B)∧w=w':=by
 subst h;exact cwithin_any n a b w
theorem takes_v (s:St) (lv ct:Int) (w:World) (V:Bool) (hV:takesB s lv ct=V):
  Calls Tryz.prog 144 #[.agg #[.int .i64 s.kind,.int .i64 s.lo,.int .i64 s.hi,.int .i64 s.most],.int .i64 lv,.int .i64 ct] w fun e w'=>e=.returned (.bool V)∧Below w.heap.size w w':=by
 obtain ⟨k,lo,hi,most⟩:=s;dsimp only;have c1:=fun w=>cwithin_v lv lo hi _ rfl w
 have c2:=fun w=>cwithin_v ct 1 most _ rfl w
 unfold takesB at hV;dsimp only at hV;cases h1:decide (lo≤lv∧lv≤hi)
 ·rw [h1] at c1 hV;have e:V=false:=hV.symm;subst e;clear hV c2 h1;go_enter Tryz.func144,Tryz.ntmps144
  go_wp2_with fail
  refine (c1 _).mono ?_;rintro e w1 ⟨rfl,rfl⟩;go_wp2;go_ret
  exact ⟨rfl,(Below.refl _ _).alloc (Nat.le_refl _) _⟩
 ·rw [h1] at c1 hV;rw [Bool.true_and] at hV;rw [hV] at c2;clear hV h1;go_enter Tryz.func144,Tryz.ntmps144
  go_wp2_with fail
  refine (c1 _).mono ?_;rintro e w1 ⟨rfl,rfl⟩;go_wp2_with fail
  refine (c2 _).mono ?_;rintro e w1 ⟨rfl,rfl⟩;go_wp2;go_ret
  exact ⟨rfl,(Below.refl _ _).alloc (Nat.le_refl _) _⟩
theorem leaf_v (w:World):
  Calls Tryz.prog 122 #[] w fun e w'=>e=.returned (.agg #[.int .i64 3,.int .i64 0,.int .i64 0,.int .i64 20])∧Below w.heap.size w w':=by
 go_enter Tryz.func122,Tryz.ntmps122
 go_wp2;refine bodyPost_ret (v:=.agg #[.int .i64 3,.int .i64 0,.int .i64 0,.int .i64 20]) ?_ rfl ⟨rfl,(Below.refl _ w).alloc (Nat.le_refl _) _⟩;simp [results,Tryz.results122,go_sem]
theorem inner_v (w:World):
  Calls Tryz.prog 125 #[] w fun e w'=>e=.returned (.agg #[.int .i64 2,.int .i64 1,.int .i64 32,.int .i64 12])∧Below w.heap.size w w':=by
 go_enter Tryz.func125,Tryz.ntmps125
 go_wp2;refine bodyPost_ret (v:=.agg #[.int .i64 2,.int .i64 1,.int .i64 32,.int .i64 12]) ?_ rfl ⟨rfl,(Below.refl _ w).alloc (Nat.le_refl _) _⟩;simp [results,Tryz.results125,go_sem]
theorem text_v (w:World):
  Calls Tryz.prog 127 #[] w fun e w'=>e=.returned (.agg #[.int .i64 4,.int .i64 0,.int .i64 0,.int .i64 248])∧Below w.heap.size w w':=by
 go_enter Tryz.func127,Tryz.ntmps127
 go_wp2;refine bodyPost_ret (v:=.agg #[.int .i64 4,.int .i64 0,.int .i64 0,.int .i64 248]) ?_ rfl ⟨rfl,(Below.refl _ w).alloc (Nat.le_refl _) _⟩;simp [results,Tryz.results127,go_sem]
theorem piecesSh_v (w:World):
  Calls Tryz.prog 123 #[] w fun e w'=>e=.returned (.agg #[.int .i64 12,.func (Fn.func 139) #[] #[],.func (Fn.func 140) #[] #[]])∧Below w.heap.size w w':=by
 go_enter Tryz.func123,Tryz.ntmps123
 go_wp2;refine bodyPost_ret (v:=.agg #[.int .i64 12,.func (Fn.func 139) #[] #[],.func (Fn.func 140) #[] #[]]) ?_ rfl ⟨rfl,(Below.refl _ w).alloc (Nat.le_refl _) _⟩;simp [results,Tryz.results123,go_sem]
theorem kidsSh_v (w:World):
  Calls Tryz.prog 126 #[] w fun e w'=>e=.returned (.agg #[.int .i64 20,.func (Fn.func 142) #[] #[],.func (Fn.func 143) #[] #[]])∧Below w.heap.size w w':=by
 go_enter Tryz.func126,Tryz.ntmps126
 go_wp2;refine bodyPost_ret (v:=.agg #[.int .i64 20,.func (Fn.func 142) #[] #[],.func (Fn.func 143) #[] #[]]) ?_ rfl ⟨rfl,(Below.refl _ w).alloc (Nat.le_refl _) _⟩;simp [results,Tryz.results126,go_sem]
def Sl4 (w:World) (B:Nat) (a b c d:Int):Prop:=w.cell? ⟨B,0,none⟩=some (.int .i64 a)∧w.cell? ⟨B,1,none⟩=some (.int .i64 b)∧w.cell? ⟨B,2,none⟩=some (.int .i64 c)∧w.cell? ⟨B,3,none⟩=some (.int .i64 d)
theorem sl4_new (w:World) (a b c d:Int) (t:TypeId):Sl4 (w.alloc (.cells #[.int .i64 a,.int .i64 b,.int .i64 c,.int .i64 d] t)) w.heap.size a b c d:=by
 unfold Sl4;simp
theorem Sl4.lt {w:World} {B:Nat} {a b c d:Int} (h:Sl4 w B a b c d):B<w.heap.size:=block_lt_of_cell h.1
theorem Sl4.same {w w1:World} {B:Nat} {a b c d:Int} (h:Sl4 w B a b c d) (k:w1.heap[B]?=w.heap[B]?):Sl4 w1 B a b c d:=
 ⟨(World.cell?_of_block k).trans h.1,(World.cell?_of_block k).trans h.2.1,(World.cell?_of_block k).trans h.2.2.1,(World.cell?_of_block k).trans h.2.2.2⟩
theorem Sl4.below {w w1:World} {B:Nat} {a b c d:Int} (h:Sl4 w B a b c d) (k:Below w.heap.size w w1):Sl4 w1 B a b c d:=h.same (k.block B h.lt)
def slE (s:St) (lv ct:Int) (body:List Int):Int:=if takesB s lv ct then sealE ⟨s.kind,lv,ct,body⟩ else 1
def slZ (s:St) (lv ct:Int) (body:List Int):List Int:=if takesB s lv ct then sealZ ⟨s.kind,lv,ct,body⟩ else []
end Go.Proofs.YtjllhcifmfhkmaaGreat.Oct
