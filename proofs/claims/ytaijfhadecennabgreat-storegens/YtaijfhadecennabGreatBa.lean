/- Part of a proof. -/
import Derived.Test.YtaijfhadecennabGreatZj
import Derived.Test.YtaijfhadecennabGreatZo
import Derived.Test.YtaijfhadecennabGreatUk
import Derived.Deep.Slices
import Derived.ChangeSame
import Derived.ProofKit
namespace Go.Proofs.YtaijfhadecennabGreat.Oct
open Go.RowKit
structure Wk where
 kd:List Int
 pc:List C4
 tx:List Int
 bad:Bool
structure S3 where
 p:Int
 b:Int
 l:Int
def s30:S3:=⟨0,0,0⟩
def kdB (W:Wk) (n kd:Int):Bool:=decide (2<=n)&&(decide (n<(W.kd.length:Int))&&(W.kd.getD n.toNat 0==0||(kd==120&&W.kd.getD n.toNat 0==120)))
def wpg (W:Wk) (n kd:Int):Wk:=if kdB W n kd then {W with kd:=W.kd.set n.toNat kd} else {W with bad:=true}
def seg (t:List Int) (p:C4):List Int:=(t.drop p.b.toNat).take p.c.toNat
def lin (l:List Int):Int:=(l.count 10:Nat)
def wpc (L:List Int) (W:Wk) (p:C4):Wk:=
 if kdB W p.a 120 then
  (if teE (pageOf L p.a.toNat)=0/\p.b+p.c<=((teL (pageOf L p.a.toNat)).length:Int) then
   ⟨W.kd.set p.a.toNat 120,W.pc++[p],W.tx++seg (teL (pageOf L p.a.toNat)) p,!(lin (seg (teL (pageOf L p.a.toNat)) p)==p.d)||decide (1048576<(W.tx++seg (teL (pageOf L p.a.toNat)) p).length)⟩
  else {W with kd:=W.kd.set p.a.toNat 120,bad:=true})
 else {W with bad:=true}
def lfGo (L:List Int):List C4->Wk × S3->Wk × S3
 |[],x=>x
 |p::l,x=>if x.1.bad then x else lfGo L l (wpc L x.1 p,⟨x.2.p+1,x.2.b+p.c,x.2.l+p.d⟩)
def lfB (z:List Int) (root:Bool):Bool:=!(reE false z==0)||(!root&&decide ((reL false z).length<10))
def wlf (L:List Int) (z:List Int) (root:Bool) (W:Wk):Wk × S3:=lfGo L (reL false z) ({W with bad:=W.bad||lfB z root},s30)
def kdGo (f:Int->Wk->Wk × S3):List C4->Wk × S3->Wk × S3
 |[],x=>x
 |k::l,x=>if x.1.bad then x else kdGo f l ({(f k.a x.1).1 with bad:=(f k.a x.1).1.bad||!((f k.a x.1).2.p==k.b&&((f k.a x.1).2.b==k.c&&(f k.a x.1).2.l==k.d))},⟨x.2.p+(f k.a x.1).2.p,x.2.b+(f k.a x.1).2.b,x.2.l+(f k.a x.1).2.l⟩)
def inB3 (z:List Int) (lv:Nat) (root:Bool):Bool:=!(reE true z==0)||(!(reV true z==(lv:Int))||(decide ((reL true z).length<2)||(!root&&decide ((reL true z).length<6))))
def wtr (L:List Int):Nat->Bool->Int->Wk->Wk × S3
 |0,root,n,W=>if (wpg W n 116).bad then (wpg W n 116,s30) else wlf L (pageOf L n.toNat) root (wpg W n 116)
 |lv+1,root,n,W=>if (wpg W n 116).bad then (wpg W n 116,s30) else kdGo (wtr L lv false) (reL true (pageOf L n.toNat)) ({wpg W n 116 with bad:=(wpg W n 116).bad||inB3 (pageOf L n.toNat) (lv+1) root},s30)
def chGo (L:List Int) (kd:Int):Nat->Int->Wk->List Int->Wk × List Int
 |0,_,W,out=>(W,out)
 |f+1,n,W,out=>if n=0\/W.bad=true then (W,out) else if (wpg W n kd).bad then (wpg W n kd,out) else
   chGo L kd f (ptN (pageOf L n.toNat)) {wpg W n kd with bad:=!(ptE (pageOf L n.toNat)==0)||decide (1048576<out.length+(ptL (pageOf L n.toNat)).length)} (out++ptL (pageOf L n.toNat))
def pgN (L:List Int):Nat:=L.length/256
def wk0 (n:Nat):Wk:=⟨List.replicate n 0,[],[],false⟩
def wkA (L:List Int) (S:Sp):Wk × S3:=if S.r=0 then (wk0 (pgN L),s30) else wtr L (S.h-1).toNat true S.r (wk0 (pgN L))
def wkB (L:List Int) (S:Sp):Wk:={(wkA L S).1 with bad:=(wkA L S).1.bad||!((wkA L S).2.b==S.b&&(wkA L S).2.l==S.l)}
def wkC (L:List Int) (S:Sp):Wk × List Int:=chGo L 115 (pgN L+1) S.s (wkB L S) []
def wkD (L:List Int) (S:Sp):Wk × List Int:=chGo L 102 (pgN L+1) S.f (wkC L S).1 []
def frB (fr kd:List Int) (n i:Nat):Bool:=bitR fr i==(decide (i<2)||(decide (i<n)&&!(kd.getD i 0==0)))
def waB (L:List Int) (S:Sp):Bool:=!(wkD L S).1.bad&&(decide ((wkD L S).2.length=(pgN L+7)/8)&&(List.range ((wkD L S).2.length*8)).all (frB (wkD L S).2 (wkD L S).1.kd (pgN L)))
def waE (L:List Int) (S:Sp):Int:=if okS S then (if S.p=(pgN L:Int) then (if waB L S then 0 else 8) else 8) else 1
def rsg (kd:List Int):Nat->List Int
 |0=>[]
 |k+1=>if kd.getD k 0=0 then rsg kd k else rsg kd k++[(k:Int)]
structure Rp where
 s:Sp
 pl:Int
 pc:List C4
 tx:List Int
 st:List Int
 pg:List Int
 h:Int
def rp0:Rp:=⟨sp0,0,[],[],[],[],0⟩
def waR (L:List Int) (S:Sp):Rp:=if waE L S=0 then ⟨S,-1,(wkD L S).1.pc,(wkD L S).1.tx,(wkC L S).2,rsg (wkD L S).1.kd (pgN L),S.h⟩ else rp0
def opX (L:List Int):Int:=chE (pageOf L 0) (pageOf L 1)
def oaE (L:List Int):Int:=if opX L=0 then (if waE L (chS (pageOf L 0) (pageOf L 1))=0 then 0 else 8) else opX L
def oaR (L:List Int):Rp:=if oaE L=0 then {waR L (chS (pageOf L 0) (pageOf L 1)) with pl:=chP (pageOf L 0) (pageOf L 1)} else rp0
theorem wpg_yes {W:Wk} {n kd:Int} (h:kdB W n kd=true):wpg W n kd={W with kd:=W.kd.set n.toNat kd}:=if_pos h
theorem wpg_no {W:Wk} {n kd:Int} (h:kdB W n kd=false):wpg W n kd={W with bad:=true}:=if_neg (by rw [h];simp)
theorem kdB_in {W:Wk} {n kd:Int} (h:kdB W n kd=true):2<=n/\n<(W.kd.length:Int):=by
 unfold kdB at h;simp only [jN,jQ] at h;exact ⟨h.1,h.2.1⟩
set_option maxHeartbeats 1000000 in
theorem cnoughts_v (b off cap n:Nat) (zs:List Int) (w:World) (h:Row w (some ⟨b,off,none⟩) cap zs) (hn:zs.length=n) (V:Bool) (hV:nouB zs=V):
  Calls Tryz.prog 242 #[.slice (some ⟨b,off,none⟩) n cap] w fun e w'=>e=.returned (.bool V)/\w=w':=by
 subst hn;have hm:=jR h.2.1 h.2.2.1;unfold maxLen at hm;have HCE:Hid (∀i,i<zs.length->w.cell? ⟨b,off+i,none⟩=some (.int .u8 (zs.getD i 0))):=h.cells;have HBY:Hid (Bys zs):=h.1;have HV:Hid (nouB zs=V):=hV;clear hV h;go_enter Tryz.func242,Tryz.ntmps242
 go_wp2_with fail
 go_loop [7] (fun i=>∃k:Nat,k<=zs.length/\i=.int .i64 k/\Hid (∀j,j<k->zs.getD j 0=0)) (fun i=>zs.length-(intOf i).toNat)
 case atStart=>exact ⟨0,jW _,rfl,fun j hj=>by omega⟩
 case round=>
  obtain ⟨k,hk,rfl,HK⟩:=hrel;by_cases hlt:k<zs.length
  ·have hc:=HCE.out k hlt;obtain ⟨x,hx⟩:∃x,zs.getD k 0=x:=⟨_,rfl⟩;rw [hx] at hc;by_cases h0:x=0
   ·subst h0;have HX:Hid (zs.getD k 0=0):=hx;clear hx;go_wp2;go_round
    case rel=>exact ⟨k+1,by omega,by go_num,fun j hj=>by
     by_cases e:j=k
     ·rw [e];exact HX.out
     ·exact HK.out j (by omega)⟩
    case measure=>simp [intOf];omega
   ·have e:V=false:=by rw [<-HV.out];exact fS hlt (by rw [hx];exact h0)
    have h0b:(x !=0)=true:=by simpa using h0
    subst e;clear hx h0;go_wp2;go_ret
    exact ⟨rfl,rfl⟩
  ·have e:V=true:=by rw [<-HV.out];exact nouB_iff.2 fun j hj=>HK.out j (by omega)
   subst e;go_wp2;go_ret
   exact ⟨rfl,rfl⟩
theorem noughts_e (a:Option Addr) (cap:Nat) (w:World):
  Calls Tryz.prog 242 #[.slice a 0 cap] w fun e w'=>e=.returned (.bool true)/\w=w':=by
 go_enter Tryz.func242,Tryz.ntmps242
 go_wp2_with fail
 go_loop [7] (fun i=>i=.int .i64 0) (fun i=>0)
 case atStart=>rfl
 case round=>
  subst hrel;go_wp2;go_ret
  exact ⟨rfl,rfl⟩
theorem noughts_w (a:Option Addr) (cap n:Nat) (zs:List Int) (w:World) (h:Row w a cap zs) (hn:zs.length=n) (V:Bool) (hV:nouB zs=V):
  Calls Tryz.prog 242 #[.slice a n cap] w fun e w'=>e=.returned (.bool V)/\w=w':=by
 by_cases h0:zs.length=0
 ·have hz:zs=[]:=qF h0;subst hz;have hv:V=true:=hV.symm;subst hv;have hn0:n=0:=hn.symm;subst hn0;exact noughts_e a cap w
 ·obtain ⟨b,off,rfl⟩:=h.some' (by omega);exact cnoughts_v b off cap n zs w h hn V hV
end Go.Proofs.YtaijfhadecennabGreat.Oct
namespace Go.Proofs.YtaijfhadecennabGreat.Oct
open Go.RowKit Go.ChangeShapes Go.WideShapes
def wf1 (x:Int):Prop:= -9223372036854775808<=x/\x<=9223372036854775807
def wfC (q:C4):Prop:=wf1 q.a/\wf1 q.b/\wf1 q.c/\wf1 q.d
def At4 (w:World) (b o:Nat) (q:C4):Prop:=
 w.cell? ⟨b,o,none⟩=some (.int .i64 q.a)/\w.cell? ⟨b,o+1,none⟩=some (.int .i64 q.b)/\w.cell? ⟨b,o+2,none⟩=some (.int .i64 q.c)/\w.cell? ⟨b,o+3,none⟩=some (.int .i64 q.d)
theorem At4.same {w w1:World} {b o:Nat} {q:C4} (h:At4 w b o q) (k:w1.heap[b]?=w.heap[b]?):At4 w1 b o q:=
 ⟨(World.cell?_of_block k).trans h.1,(World.cell?_of_block k).trans h.2.1,(World.cell?_of_block k).trans h.2.2.1,(World.cell?_of_block k).trans h.2.2.2⟩
def RowC (w:World) (a:Option Addr) (cap:Nat) (l:List C4):Prop:=
 (∀q∈l,wfC q)/\l.length<=cap/\cap<=maxLen/\(l=[]\/∃b off,a=some ⟨b,off,none⟩/\∀i,i<l.length->At4 w b (off+i*4) (l.getD i c40))
end Go.Proofs.YtaijfhadecennabGreat.Oct
namespace Go.Proofs.YtaijfhadecennabGreat.Oct
open Go.RowKit
theorem fM {P:Pg} (h1:P.kind=5) (h2:P.level=0) (h3:1<=P.count) (h4:P.count<=244) (h5:nx P≠1) (h6:nx P<4096) (h7:nx P≠0->P.count=244):ptB P=nouB (P.body.drop (4+P.count.toNat)):=by
 unfold ptB;rw [jF h1,jF h2,jF (And.intro h3 h4),jF (And.intro h5 (And.intro h6 h7))];rfl
theorem ptB_no {P:Pg} (h:¬(P.kind=5/\P.level=0/\(1<=P.count/\P.count<=244)/\(nx P≠1/\nx P<4096/\(nx P≠0->P.count=244)))):ptB P=false:=by
 cases hB:ptB P
 ·rfl
 ·refine absurd ?_ h;unfold ptB at hB;simp only [jN,jQ] at hB;exact ⟨hB.1,hB.2.1,hB.2.2.1,hB.2.2.2.1⟩
end Go.Proofs.YtaijfhadecennabGreat.Oct
