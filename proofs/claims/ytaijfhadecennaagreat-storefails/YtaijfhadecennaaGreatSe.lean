/- Part of a proof. -/
import Derived.Test.YtaijfhadecennaaGreatUk
import Derived.Test.YtaijfhadecennaaGreatZl
import Derived.Test.YtaijfhadecennaaGreatRi
import Derived.Deep.Slices
import Derived.ChangeSame
import Derived.ProofKit
namespace Go.Proofs.YtaijfhadecennaaGreat.Oct
open Go.RowKit
def by8 (a b c d e f g h:Bool):Int:=(if a then 1 else 0)+(if b then 2 else 0)+(if c then 4 else 0)+(if d then 8 else 0)+(if e then 16 else 0)+(if f then 32 else 0)+(if g then 64 else 0)+(if h then 128 else 0)
def byB (u:Nat->Bool):Int:=by8 (u 0) (u 1) (u 2) (u 3) (u 4) (u 5) (u 6) (u 7)
def bitZ (z:Int) (b:Nat):Bool:=z/2^b%2==1
def bitR (zs:List Int) (i:Nat):Bool:=bitZ (zs.getD (i/8) 0) (i%8)
def bitsP (u:Nat->Bool) (n:Nat):List Int:=(List.range ((n+7)/8)).map fun j=>byB (fun b=>u (8*j+b))
theorem by8_in:∀a b c d e f g h:Bool,0<=by8 a b c d e f g h/\by8 a b c d e f g h<=255:=by decide+kernel
theorem or8_0:∀a b c d e f g h:Bool,bits .or .u8 (by8 a b c d e f g h) 1=by8 true b c d e f g h:=by decide+kernel
theorem or8_1:∀a b c d e f g h:Bool,bits .or .u8 (by8 a b c d e f g h) 2=by8 a true c d e f g h:=by decide+kernel
theorem or8_2:∀a b c d e f g h:Bool,bits .or .u8 (by8 a b c d e f g h) 4=by8 a b true d e f g h:=by decide+kernel
theorem or8_3:∀a b c d e f g h:Bool,bits .or .u8 (by8 a b c d e f g h) 8=by8 a b c true e f g h:=by decide+kernel
theorem or8_4:∀a b c d e f g h:Bool,bits .or .u8 (by8 a b c d e f g h) 16=by8 a b c d true f g h:=by decide+kernel
theorem or8_5:∀a b c d e f g h:Bool,bits .or .u8 (by8 a b c d e f g h) 32=by8 a b c d e true g h:=by decide+kernel
theorem or8_6:∀a b c d e f g h:Bool,bits .or .u8 (by8 a b c d e f g h) 64=by8 a b c d e f true h:=by decide+kernel
theorem or8_7:∀a b c d e f g h:Bool,bits .or .u8 (by8 a b c d e f g h) 128=by8 a b c d e f g true:=by decide+kernel
theorem at8:∀a b c d e f g h:Bool,bitZ (by8 a b c d e f g h) 0=a/\bitZ (by8 a b c d e f g h) 1=b/\bitZ (by8 a b c d e f g h) 2=c/\bitZ (by8 a b c d e f g h) 3=d/\bitZ (by8 a b c d e f g h) 4=e/\bitZ (by8 a b c d e f g h) 5=f/\bitZ (by8 a b c d e f g h) 6=g/\bitZ (by8 a b c d e f g h) 7=h:=by decide+kernel
theorem by_at:∀z:Fin 256,byB (bitZ (z.val:Int))=z.val:=by decide+kernel
theorem and1z:∀z:Fin 256,bits .and .u8 (z.val:Int) 1=(z.val:Int)%2:=by decide+kernel
theorem GR (u:Nat->Bool):0<=byB u/\byB u<=255:=by8_in _ _ _ _ _ _ _ _
theorem byB_or (u v:Nat->Bool) (b:Nat) (hb:b<8) (hv:v b=true) (h:∀x,x≠b->v x=u x):bits .or .u8 (byB u) (2^b%256)=byB v:=by
 unfold byB
 match b,hb with
 |0,_=>rw [h 1 (by omega),h 2 (by omega),h 3 (by omega),h 4 (by omega),h 5 (by omega),h 6 (by omega),h 7 (by omega),hv];exact or8_0 _ _ _ _ _ _ _ _
 |1,_=>rw [h 0 (by omega),h 2 (by omega),h 3 (by omega),h 4 (by omega),h 5 (by omega),h 6 (by omega),h 7 (by omega),hv];exact or8_1 _ _ _ _ _ _ _ _
 |2,_=>rw [h 0 (by omega),h 1 (by omega),h 3 (by omega),h 4 (by omega),h 5 (by omega),h 6 (by omega),h 7 (by omega),hv];exact or8_2 _ _ _ _ _ _ _ _
 |3,_=>rw [h 0 (by omega),h 1 (by omega),h 2 (by omega),h 4 (by omega),h 5 (by omega),h 6 (by omega),h 7 (by omega),hv];exact or8_3 _ _ _ _ _ _ _ _
 |4,_=>rw [h 0 (by omega),h 1 (by omega),h 2 (by omega),h 3 (by omega),h 5 (by omega),h 6 (by omega),h 7 (by omega),hv];exact or8_4 _ _ _ _ _ _ _ _
 |5,_=>rw [h 0 (by omega),h 1 (by omega),h 2 (by omega),h 3 (by omega),h 4 (by omega),h 6 (by omega),h 7 (by omega),hv];exact or8_5 _ _ _ _ _ _ _ _
 |6,_=>rw [h 0 (by omega),h 1 (by omega),h 2 (by omega),h 3 (by omega),h 4 (by omega),h 5 (by omega),h 7 (by omega),hv];exact or8_6 _ _ _ _ _ _ _ _
 |7,_=>rw [h 0 (by omega),h 1 (by omega),h 2 (by omega),h 3 (by omega),h 4 (by omega),h 5 (by omega),h 6 (by omega),hv];exact or8_7 _ _ _ _ _ _ _ _
theorem uX (u:Nat->Bool) (b:Nat) (hb:b<8):bitZ (byB u) b=u b:=by
 have h:=at8 (u 0) (u 1) (u 2) (u 3) (u 4) (u 5) (u 6) (u 7);unfold byB
 match b,hb with
 |0,_=>exact h.1
 |1,_=>exact h.2.1
 |2,_=>exact h.2.2.1
 |3,_=>exact h.2.2.2.1
 |4,_=>exact h.2.2.2.2.1
 |5,_=>exact h.2.2.2.2.2.1
 |6,_=>exact h.2.2.2.2.2.2.1
 |7,_=>exact h.2.2.2.2.2.2.2
theorem byB_bitZ {z:Int} (h0:0<=z) (h1:z<=255):byB (bitZ z)=z:=by
 obtain ⟨n,rfl⟩:=jW h0;exact by_at ⟨n,by omega⟩
theorem uW {u v:Nat->Bool} (h:∀b,b<8->u b=v b):byB u=byB v:=by
 unfold byB;rw [h 0 (by omega),h 1 (by omega),h 2 (by omega),h 3 (by omega),h 4 (by omega),h 5 (by omega),h 6 (by omega),h 7 (by omega)]
theorem bit_and {z:Int} (h0:0<=z) (h1:z<=255) (b:Nat):bits .and .u8 (z/2^b) 1=z/2^b%2:=by
 obtain ⟨n,rfl⟩:=jW h0;have e:((n:Int)/2^b)=((n/2^b:Nat):Int):=by simp
 have hl:n/2^b<256:=Nat.lt_of_le_of_lt (Nat.div_le_self _ _) (by omega);rw [e];exact and1z ⟨n/2^b,hl⟩
theorem yY (u:Nat->Bool) (n:Nat):(bitsP u n).length=(n+7)/8:=by simp [bitsP]
theorem JE {u:Nat->Bool} {n j:Nat} (h:j<(n+7)/8):(bitsP u n).getD j 0=byB (fun b=>u (8*j+b)):=by
 unfold bitsP;rw [jA,jC (by simpa using h)];simp
theorem zZ (u:Nat->Bool) (n:Nat):Bys (bitsP u n):=fun z hz=>by
 obtain ⟨j,_,rfl⟩:=List.mem_map.1 hz;exact GR _
theorem ZO (n:Nat):bitsP (fun _=>false) n=List.replicate ((n+7)/8) 0:=by
 unfold bitsP;rw [show (fun j:Nat=>byB (fun _=>false))=fun _:Nat=>(0:Int) from rfl];simp [List.map_const']
theorem zG {u v:Nat->Bool} {n:Nat} (h:∀i,i<(n+7)/8*8->u i=v i):bitsP u n=bitsP v n:=by
 unfold bitsP;refine xC fun j hj=>uW fun b hb=>h _ ?_
 have:=List.mem_range.1 hj;omega
theorem YP {u v:Nat->Bool} {n k:Nat} (hk:k<n) (hv:v k=true) (h:∀i,i≠k->v i=u i):(bitsP u n).set (k/8) (bits .or .u8 ((bitsP u n).getD (k/8) 0) (2^(k%8)%256))=bitsP v n:=by
 have hj:k/8<(n+7)/8:=by omega
 rw [JE hj,byB_or _ (fun b=>v (8*(k/8)+b)) (k%8) (by omega) (by show v _=true;rw [show 8*(k/8)+k%8=k by omega];exact hv) (fun x hx=>h _ (by omega))];refine yZ (by rw [jY,yY,yY]) fun i hi=>?_
 rw [jY,yY] at hi;rw [JE hi];by_cases e:i=k/8
 ·subst e;rw [jA,qX (by rw [yY];exact hi),qJ]
 ·rw [jA,xJ (by omega),<-jA,JE hi];exact uW fun b hb=>(h _ (by omega)).symm
theorem YA {u:Nat->Bool} {n i:Nat} (h:i<(n+7)/8*8):bitR (bitsP u n) i=u i:=by
 unfold bitR;rw [JE (by omega),uX _ _ (by omega),show 8*(i/8)+i%8=i by omega]
theorem KN {zs:List Int} {n:Nat} (hb:Bys zs) (hl:zs.length=(n+7)/8):bitsP (bitR zs) n=zs:=by
 refine yZ (by rw [yY,hl]) fun j hj=>?_
 rw [yY] at hj;rw [JE hj];refine Eq.trans (uW fun b hb=>?_) (byB_bitZ (hb.at j).1 (hb.at j).2);unfold bitR;rw [show (8*j+b)/8=j by omega,show (8*j+b)%8=b by omega]
def bitL (S:List Int):List Int:=bitsP (fun i=>usB (S.getD i 0)) S.length
structure Wk where
 kd:List Int
 pc:List C4
 tx:List Int
 bad:Bool
structure S3 where
 p:Int
 b:Int
 l:Int
def s30:S3:=⟨0,0,0⟩
def kdB (W:Wk) (n kd:Int):Bool:=decide (2<=n)&&(decide (n<(W.kd.length:Int))&&(W.kd.getD n.toNat 0==0||(kd==120&&W.kd.getD n.toNat 0==120)))
def wpg (W:Wk) (n kd:Int):Wk:=if kdB W n kd then {W with kd:=W.kd.set n.toNat kd} else {W with bad:=true}
def seg (t:List Int) (p:C4):List Int:=(t.drop p.b.toNat).take p.c.toNat
def lin (l:List Int):Int:=(l.count 10:Nat)
def wpc (L:List Int) (W:Wk) (p:C4):Wk:=
 if kdB W p.a 120 then
  (if teE (pageOf L p.a.toNat)=0/\p.b+p.c<=((teL (pageOf L p.a.toNat)).length:Int) then
   ⟨W.kd.set p.a.toNat 120,W.pc++[p],W.tx++seg (teL (pageOf L p.a.toNat)) p,!(lin (seg (teL (pageOf L p.a.toNat)) p)==p.d)||decide (1048576<(W.tx++seg (teL (pageOf L p.a.toNat)) p).length)⟩
  else {W with kd:=W.kd.set p.a.toNat 120,bad:=true})
 else {W with bad:=true}
def lfGo (L:List Int):List C4->Wk × S3->Wk × S3
 |[],x=>x
 |p::l,x=>if x.1.bad then x else lfGo L l (wpc L x.1 p,⟨x.2.p+1,x.2.b+p.c,x.2.l+p.d⟩)
def lfB (z:List Int) (root:Bool):Bool:=!(reE false z==0)||(!root&&decide ((reL false z).length<10))
def wlf (L:List Int) (z:List Int) (root:Bool) (W:Wk):Wk × S3:=lfGo L (reL false z) ({W with bad:=W.bad||lfB z root},s30)
def kdGo (f:Int->Wk->Wk × S3):List C4->Wk × S3->Wk × S3
 |[],x=>x
 |k::l,x=>if x.1.bad then x else kdGo f l ({(f k.a x.1).1 with bad:=(f k.a x.1).1.bad||!((f k.a x.1).2.p==k.b&&((f k.a x.1).2.b==k.c&&(f k.a x.1).2.l==k.d))},⟨x.2.p+(f k.a x.1).2.p,x.2.b+(f k.a x.1).2.b,x.2.l+(f k.a x.1).2.l⟩)
def inB3 (z:List Int) (lv:Nat) (root:Bool):Bool:=!(reE true z==0)||(!(reV true z==(lv:Int))||(decide ((reL true z).length<2)||(!root&&decide ((reL true z).length<6))))
def wtr (L:List Int):Nat->Bool->Int->Wk->Wk × S3
 |0,root,n,W=>if (wpg W n 116).bad then (wpg W n 116,s30) else wlf L (pageOf L n.toNat) root (wpg W n 116)
 |lv+1,root,n,W=>if (wpg W n 116).bad then (wpg W n 116,s30) else kdGo (wtr L lv false) (reL true (pageOf L n.toNat)) ({wpg W n 116 with bad:=(wpg W n 116).bad||inB3 (pageOf L n.toNat) (lv+1) root},s30)
def chGo (L:List Int) (kd:Int):Nat->Int->Wk->List Int->Wk × List Int
 |0,_,W,out=>(W,out)
 |f+1,n,W,out=>if n=0\/W.bad=true then (W,out) else if (wpg W n kd).bad then (wpg W n kd,out) else
   chGo L kd f (ptN (pageOf L n.toNat)) {wpg W n kd with bad:=!(ptE (pageOf L n.toNat)==0)||decide (1048576<out.length+(ptL (pageOf L n.toNat)).length)} (out++ptL (pageOf L n.toNat))
def pgN (L:List Int):Nat:=L.length/256
def wk0 (n:Nat):Wk:=⟨List.replicate n 0,[],[],false⟩
def wkA (L:List Int) (S:Sp):Wk × S3:=if S.r=0 then (wk0 (pgN L),s30) else wtr L (S.h-1).toNat true S.r (wk0 (pgN L))
def wkB (L:List Int) (S:Sp):Wk:={(wkA L S).1 with bad:=(wkA L S).1.bad||!((wkA L S).2.b==S.b&&(wkA L S).2.l==S.l)}
def wkC (L:List Int) (S:Sp):Wk × List Int:=chGo L 115 (pgN L+1) S.s (wkB L S) []
def wkD (L:List Int) (S:Sp):Wk × List Int:=chGo L 102 (pgN L+1) S.f (wkC L S).1 []
def frB (fr kd:List Int) (n i:Nat):Bool:=bitR fr i==(decide (i<2)||(decide (i<n)&&!(kd.getD i 0==0)))
def waB (L:List Int) (S:Sp):Bool:=!(wkD L S).1.bad&&(decide ((wkD L S).2.length=(pgN L+7)/8)&&(List.range ((wkD L S).2.length*8)).all (frB (wkD L S).2 (wkD L S).1.kd (pgN L)))
def waE (L:List Int) (S:Sp):Int:=if okS S then (if S.p=(pgN L:Int) then (if waB L S then 0 else 8) else 8) else 1
def rsg (kd:List Int):Nat->List Int
 |0=>[]
 |k+1=>if kd.getD k 0=0 then rsg kd k else rsg kd k++[(k:Int)]
structure Rp where
 s:Sp
 pl:Int
 pc:List C4
 tx:List Int
 st:List Int
 pg:List Int
 h:Int
def rp0:Rp:=⟨sp0,0,[],[],[],[],0⟩
def waR (L:List Int) (S:Sp):Rp:=if waE L S=0 then ⟨S,-1,(wkD L S).1.pc,(wkD L S).1.tx,(wkC L S).2,rsg (wkD L S).1.kd (pgN L),S.h⟩ else rp0
def opX (L:List Int):Int:=chE (pageOf L 0) (pageOf L 1)
def oaE (L:List Int):Int:=if opX L=0 then (if waE L (chS (pageOf L 0) (pageOf L 1))=0 then 0 else 8) else opX L
def oaR (L:List Int):Rp:=if oaE L=0 then {waR L (chS (pageOf L 0) (pageOf L 1)) with pl:=chP (pageOf L 0) (pageOf L 1)} else rp0
theorem wpg_len (W:Wk) (n kd:Int):(wpg W n kd).kd.length=W.kd.length:=by unfold wpg;split<;>simp
theorem wpg_bad {W:Wk} (h:W.bad=false) (n kd:Int):(wpg W n kd).bad=!kdB W n kd:=by
 unfold wpg;split
 ·next e=>rw [e];exact h
 ·next e=>simp only [Bool.not_eq_true] at e;rw [e];rfl
theorem FT {W:Wk} {n kd:Int} (h:kdB W n kd=true):wpg W n kd={W with kd:=W.kd.set n.toNat kd}:=if_pos h
theorem wpg_no {W:Wk} {n kd:Int} (h:kdB W n kd=false):wpg W n kd={W with bad:=true}:=if_neg (by rw [h];simp)
theorem GE {W:Wk} {n kd:Int} (h:kdB W n kd=true):2<=n/\n<(W.kd.length:Int):=by
 unfold kdB at h;simp only [jO,jR] at h;exact ⟨h.1,h.2.1⟩
theorem chGo_len (L:List Int) (kd:Int):∀(f:Nat) (n:Int) (W:Wk) (out:List Int),(chGo L kd f n W out).1.kd.length=W.kd.length:=by
 intro f
 induction f with
 |zero=>intro n W out;rfl
 |succ f ih=>
  intro n W out;unfold chGo
  repeat' split
  ·rfl
  ·exact wpg_len W n kd
  ·rw [ih];exact wpg_len W n kd
set_option maxHeartbeats 1000000 in
theorem cnoughts_v (b off cap n:Nat) (zs:List Int) (w:World) (h:Row w (some ⟨b,off,none⟩) cap zs) (hn:zs.length=n) (V:Bool) (hV:nouB zs=V):
  Calls Tryz.prog 280 #[.slice (some ⟨b,off,none⟩) n cap] w fun e w'=>e=.returned (.bool V)/\w=w':=by
 subst hn;have hm:=jP h.2.1 h.2.2.1;unfold maxLen at hm;have HCE:Hid (∀i,i<zs.length->w.cell? ⟨b,off+i,none⟩=some (.int .u8 (zs.getD i 0))):=h.cells;have HBY:Hid (Bys zs):=h.1;have HV:Hid (nouB zs=V):=hV;clear hV h;go_enter Tryz.func280,Tryz.ntmps280
 go_wp2_with fail
 go_loop [7] (fun i=>∃k:Nat,k<=zs.length/\i=.int .i64 k/\Hid (∀j,j<k->zs.getD j 0=0)) (fun i=>zs.length-(intOf i).toNat)
 case atStart=>exact ⟨0,jT _,rfl,fun j hj=>by omega⟩
 case round=>
  obtain ⟨k,hk,rfl,HK⟩:=hrel;by_cases hlt:k<zs.length
  ·have hc:=HCE.out k hlt;obtain ⟨x,hx⟩:∃x,zs.getD k 0=x:=⟨_,rfl⟩;rw [hx] at hc;by_cases h0:x=0
   ·subst h0;have HX:Hid (zs.getD k 0=0):=hx;clear hx;go_wp2;go_round
    case rel=>exact ⟨k+1,by omega,by go_num,fun j hj=>by
     by_cases e:j=k
     ·rw [e];exact HX.out
     ·exact HK.out j (by omega)⟩
    case measure=>simp [intOf];omega
   ·have e:V=false:=by rw [<-HV.out];exact US hlt (by rw [hx];exact h0)
    have h0b:(x !=0)=true:=by simpa using h0
    subst e;clear hx h0;go_wp2;go_ret
    exact ⟨rfl,rfl⟩
  ·have e:V=true:=by rw [<-HV.out];exact nouB_iff.2 fun j hj=>HK.out j (by omega)
   subst e;go_wp2;go_ret
   exact ⟨rfl,rfl⟩
theorem noughts_e (a:Option Addr) (cap:Nat) (w:World):
  Calls Tryz.prog 280 #[.slice a 0 cap] w fun e w'=>e=.returned (.bool true)/\w=w':=by
 go_enter Tryz.func280,Tryz.ntmps280
 go_wp2_with fail
 go_loop [7] (fun i=>i=.int .i64 0) (fun i=>0)
 case atStart=>rfl
 case round=>
  subst hrel;go_wp2;go_ret
  exact ⟨rfl,rfl⟩
theorem noughts_w (a:Option Addr) (cap n:Nat) (zs:List Int) (w:World) (h:Row w a cap zs) (hn:zs.length=n) (V:Bool) (hV:nouB zs=V):
  Calls Tryz.prog 280 #[.slice a n cap] w fun e w'=>e=.returned (.bool V)/\w=w':=by
 by_cases h0:zs.length=0
 ·have hz:zs=[]:=qE h0;subst hz;have hv:V=true:=hV.symm;subst hv;have hn0:n=0:=hn.symm;subst hn0;exact noughts_e a cap w
 ·obtain ⟨b,off,rfl⟩:=h.some' (by omega);exact cnoughts_v b off cap n zs w h hn V hV
end Go.Proofs.YtaijfhadecennaaGreat.Oct
namespace Go.Proofs.YtaijfhadecennaaGreat.Oct
open Go.RowKit Go.ChangeShapes Go.WideShapes
def wf1 (x:Int):Prop:= -9223372036854775808<=x/\x<=9223372036854775807
def wfC (q:C4):Prop:=wf1 q.a/\wf1 q.b/\wf1 q.c/\wf1 q.d
theorem wfC_ok {t:Bool} {q:C4} (h:okC t q=true):wfC q:=by
 obtain ⟨h0,h1,h2,h3,_⟩:=okC_bd h;refine ⟨?_,?_,?_,?_⟩<;>unfold wf1<;>omega
def At4 (w:World) (b o:Nat) (q:C4):Prop:=
 w.cell? ⟨b,o,none⟩=some (.int .i64 q.a)/\w.cell? ⟨b,o+1,none⟩=some (.int .i64 q.b)/\w.cell? ⟨b,o+2,none⟩=some (.int .i64 q.c)/\w.cell? ⟨b,o+3,none⟩=some (.int .i64 q.d)
theorem At4.same {w w1:World} {b o:Nat} {q:C4} (h:At4 w b o q) (k:w1.heap[b]?=w.heap[b]?):At4 w1 b o q:=
 ⟨(World.cell?_of_block k).trans h.1,(World.cell?_of_block k).trans h.2.1,(World.cell?_of_block k).trans h.2.2.1,(World.cell?_of_block k).trans h.2.2.2⟩
theorem At4.lt {w:World} {b o:Nat} {q:C4} (h:At4 w b o q):b<w.heap.size:=block_lt_of_cell h.1
theorem At4.below {w w1:World} {b o:Nat} {q:C4} (h:At4 w b o q) (k:Below w.heap.size w w1):At4 w1 b o q:=h.same (k.block b h.lt)
def RowC (w:World) (a:Option Addr) (cap:Nat) (l:List C4):Prop:=
 (∀q∈l,wfC q)/\l.length<=cap/\cap<=maxLen/\(l=[]\/∃b off,a=some ⟨b,off,none⟩/\∀i,i<l.length->At4 w b (off+i*4) (l.getD i c40))
theorem RowC.below {w w':World} {a:Option Addr} {cap:Nat} {l:List C4} (h:RowC w a cap l) (k:Below w.heap.size w w'):RowC w' a cap l:=by
 obtain ⟨h1,h2,h3,h4⟩:=h;refine ⟨h1,h2,h3,?_⟩;rcases h4 with h4|⟨b,off,ha,hc⟩
 ·exact .inl h4
 ·exact .inr ⟨b,off,ha,fun i hi=>(hc i hi).below k⟩
theorem RowC.some' {w:World} {a:Option Addr} {cap:Nat} {l:List C4} (h:RowC w a cap l) (hl:0<l.length):∃b off,a=some ⟨b,off,none⟩:=by
 rcases h.2.2.2 with h|⟨b,off,rfl,_⟩
 ·rw [h] at hl;exact absurd hl (by simp)
 ·exact ⟨b,off,rfl⟩
theorem RowC.cells {w:World} {b off cap:Nat} {l:List C4} (h:RowC w (some ⟨b,off,none⟩) cap l):∀i,i<l.length->At4 w b (off+i*4) (l.getD i c40):=by
 intro i hi;rcases h.2.2.2 with h|⟨b',off',e,hc⟩
 ·rw [h] at hi;exact absurd hi (by simp)
 ·simp only [jQ,Addr.mk.injEq,and_true] at e;obtain ⟨rfl,rfl⟩:=e;exact hc i hi
def vals4 (q:C4):List Value:=[.int .i64 q.a,.int .i64 q.b,.int .i64 q.c,.int .i64 q.d]
theorem vals_at:∀(l:List C4) (i j:Nat),i<l.length->j<4->(l.flatMap vals4)[i*4+j]?=some (.int .i64 (atC (l.getD i c40) j)):=by
 intro l
 induction l with
 |nil=>intro i j hi;exact absurd hi (by simp)
 |cons q l ih=>
  intro i j hi hj;rw [List.flatMap_cons];cases i with
  |zero=>
   rw [Nat.zero_mul,qT,qP (by simpa [vals4] using hj)];rcases four hj with rfl|rfl|rfl|rfl<;>rfl
  |succ i=>
   rw [qY (by simp [vals4];omega),show (i+1)*4+j-(vals4 q).length=i*4+j by simp [vals4];omega,ih i j (by simpa using hi) hj];rfl
def OwnC (ty base:Nat) (w:World) (v:Value) (l:List C4):Prop:=w.ownsRow base ty 4 v l.length (l.flatMap vals4)
theorem OwnC.row {ty base:Nat} {w:World} {v:Value} {l:List C4} (h:OwnC ty base w v l) (hw:∀q∈l,wfC q):∃a cap,v=.slice a l.length cap/\RowC w a cap l/\(a=none->cap=0):=by
 obtain ⟨_,⟨rfl,h0⟩|⟨g,cap,cur,rfl,hg,hc,hn,hm,hs,ht⟩⟩:=id h
 ·exact ⟨none,0,by rw [h0],⟨hw,by omega,by simp [maxLen],.inl (qE h0)⟩,fun _=>rfl⟩
 ·refine ⟨_,cap,rfl,⟨hw,hn,hm,.inr ⟨g,0,rfl,fun i hi=>?_⟩⟩,fun e=>by cases e⟩
  have key:∀j,j<4->w.cell? ⟨g,i*4+j,none⟩=some (.int .i64 (atC (l.getD i c40) j)):=fun j hj=>by
   have:=World.ownsRow.cells h (g:=g) rfl (i*4+j) _ (vals_at l i j hi hj)
   rwa [Addr.add_lit,qT] at this
  rw [qT];exact ⟨key 0 (by omega),key 1 (by omega),key 2 (by omega),key 3 (by omega)⟩
theorem OwnC.row' {ty base n cap:Nat} {a:Option Addr} {w:World} {l:List C4} (h:OwnC ty base w (.slice a n cap) l) (hw:∀q∈l,wfC q):n=l.length/\RowC w a cap l/\(a=none->cap=0):=by
 obtain ⟨a',cap',e,hr⟩:=h.row hw;simp only [Value.slice.injEq] at e;obtain ⟨rfl,rfl,rfl⟩:=e;exact ⟨rfl,hr⟩
end Go.Proofs.YtaijfhadecennaaGreat.Oct
