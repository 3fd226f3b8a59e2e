/- Part of a proof. -/
import Derived.Test.YtaijfhadecennaaGreatBf
namespace Go.Proofs.YtaijfhadecennaaGreat.Oct
open Go.RowKit
theorem kO {f:Int->Wk->Wk × S3} {l:List C4} {x:Wk × S3} (h:x.1.bad=true):kdGo f l x=x:=by
 cases l with
 |nil=>rfl
 |cons p l=>unfold kdGo;rw [if_pos h]
def kdQ (x:S3) (y:C4):Bool:=x.p==y.b&&(x.b==y.c&&x.l==y.d)
def kdW (x:Wk × S3) (y:C4):Wk:={x.1 with bad:=x.1.bad||!kdQ x.2 y}
def addS (s x:S3):S3:=⟨s.p+x.p,s.b+x.b,s.l+x.l⟩
theorem kdGo_cons {f:Int->Wk->Wk × S3} {y:C4} {l:List C4} {x:Wk × S3}:kdGo f (y::l) x=if x.1.bad then x else kdGo f l (kdW (f y.a x.1) y,addS x.2 (f y.a x.1).2):=by
 rw [kdGo];rfl
theorem JI {L:List Int} (h:Bys L) (n:Nat):Bys (pageOf L n):=fun z hz=>h z (jV (jU hz))
structure Tc where
 tp:List Nat
 pc:List C4
 s:S3
def tc0:Tc:=⟨[],[],s30⟩
def tcA (x y:Tc):Tc:=⟨x.tp++y.tp,x.pc++y.pc,addS x.s y.s⟩
def inR (N:Nat) (n:Int):Bool:=decide (2<=n)&&decide (n<(N:Int))
def sm3 (l:List C4):S3:=⟨l.length,(l.map (·.c)).sum,(l.map (·.d)).sum⟩
def tcK (f:Int->Option Tc):List C4->Option Tc
 |[]=>some tc0
 |k::l=>match f k.a with
  |none=>none
  |some x=>if kdQ x.s k=true then (match tcK f l with|none=>none|some y=>some (tcA x y)) else none
def tcT (L:List Int):Nat->Bool->Int->Option Tc
 |0,root,n=>if (inR (pgN L) n&&!lfB (pageOf L n.toNat) root)=true then some ⟨[n.toNat],reL false (pageOf L n.toNat),sm3 (reL false (pageOf L n.toNat))⟩ else none
 |lv+1,root,n=>if (inR (pgN L) n&&!inB3 (pageOf L n.toNat) (lv+1) root)=true then (match tcK (tcT L lv false) (reL true (pageOf L n.toNat)) with|none=>none|some y=>some ⟨n.toNat::y.tp,y.pc,y.s⟩) else none
def pgs (l:List C4):List Nat:=l.map (fun p=>p.a.toNat)
def pcK (L:List Int) (p:C4):Bool:=inR (pgN L) p.a&&(decide (teE (pageOf L p.a.toNat)=0)&&(decide (p.b+p.c<=((teL (pageOf L p.a.toNat)).length:Int))&&(lin (seg (teL (pageOf L p.a.toNat)) p)==p.d)))
def pcT (L:List Int) (p:C4):List Int:=seg (teL (pageOf L p.a.toNat)) p
def txs (L:List Int) (l:List C4):List Int:=l.flatMap (pcT L)
structure Vd (kd:List Int) (tp xs:List Nat):Prop where
 nd:tp.Nodup
 tr:∀n∈tp,kd.getD n 0=0
 tx:∀x∈xs,kd.getD x 0=0\/kd.getD x 0=120
 ap:∀n∈tp,¬n∈xs
def mkd (kd:List Int) (tp xs:List Nat):List Int:=kd.mapIdx fun i z=>if i∈tp then 116 else if i∈xs then 120 else z
theorem zK (kd:List Int) (tp xs:List Nat):(mkd kd tp xs).length=kd.length:=by simp [mkd]
theorem JZ {kd:List Int} {tp xs:List Nat} {i:Nat} (hi:i<kd.length):(mkd kd tp xs).getD i 0=if i∈tp then 116 else if i∈xs then 120 else kd.getD i 0:=by
 unfold mkd;simp only [jA,List.getElem?_mapIdx,jC hi,yN,qJ]
theorem mkd_nil (kd:List Int):mkd kd [] []=kd:=by
 refine yZ (zK ..) fun i hi=>?_
 rw [zK] at hi;rw [JZ hi];simp
theorem vd_two {kd:List Int} {tp xs tp2 xs2:List Nat} (hb:∀n∈tp++tp2,n<kd.length) (hx:∀n∈xs++xs2,n<kd.length):
  Vd kd (tp++tp2) (xs++xs2)↔(Vd kd tp xs/\Vd (mkd kd tp xs) tp2 xs2):=by
 constructor
 ·intro h;have hnd:=List.nodup_append.1 h.nd;refine ⟨⟨hnd.1,fun n hn=>h.tr n (qM _ hn),fun x hx=>h.tx x (qM _ hx),fun n hn hx=>h.ap n (qM _ hn) (qM _ hx)⟩,⟨hnd.2.1,fun n hn=>?_,fun x hx2=>?_,fun n hn hx=>h.ap n (qL _ hn) (qL _ hx)⟩⟩
  ·rw [JZ (hb n (qL _ hn)),if_neg (fun e=>hnd.2.2 n e n hn rfl),if_neg (fun e=>h.ap n (qL _ hn) (qM _ e))];exact h.tr n (qL _ hn)
  ·rw [JZ (hx x (qL _ hx2)),if_neg (fun e=>h.ap x (qM _ e) (qL _ hx2))];split
   ·exact .inr rfl
   ·exact h.tx x (qL _ hx2)
 ·rintro ⟨h,k⟩
  have key:∀n,n<kd.length->(mkd kd tp xs).getD n 0=0->¬n∈tp/\¬n∈xs/\kd.getD n 0=0:=fun n hn e=>by
   rw [JZ hn] at e;split at e
   ·simp at e
   ·split at e
    ·simp at e
    ·exact ⟨by assumption,by assumption,e⟩
  refine ⟨List.nodup_append.2 ⟨h.nd,k.nd,fun a ha b hb2 e=>?_⟩,fun n hn=>?_,fun x hx2=>?_,fun n hn hx2=>?_⟩
  ·subst e;exact (key a (hb a (qM _ ha)) (k.tr a hb2)).1 ha
  ·rcases List.mem_append.1 hn with hn|hn
   ·exact h.tr n hn
   ·exact (key n (hb n (qL _ hn)) (k.tr n hn)).2.2
  ·rcases List.mem_append.1 hx2 with h2|h2
   ·exact h.tx x h2
   ·have:=k.tx x h2;rw [JZ (hx x hx2)] at this;split at this
    ·simp at this
    ·split at this
     ·exact h.tx x (by assumption)
     ·exact this
  ·rcases List.mem_append.1 hn with hn|hn
   ·rcases List.mem_append.1 hx2 with h2|h2
    ·exact h.ap n hn h2
    ·have:=k.tx n h2;rw [JZ (hb n (qM _ hn)),if_pos hn] at this;simp at this
   ·rcases List.mem_append.1 hx2 with h2|h2
    ·exact (key n (hb n (qL _ hn)) (k.tr n hn)).2.1 h2
    ·exact k.ap n hn h2
theorem mkd_two {kd:List Int} {tp xs tp2 xs2:List Nat} (k:Vd (mkd kd tp xs) tp2 xs2):
  mkd (mkd kd tp xs) tp2 xs2=mkd kd (tp++tp2) (xs++xs2):=by
 refine yZ (by simp [zK]) fun i hi=>?_
 rw [zK,zK] at hi;rw [JZ (by rw [zK];exact hi),JZ hi,JZ hi];by_cases h1:i∈tp2
 ·rw [if_pos h1,if_pos (qL _ h1)]
 ·rw [if_neg h1];by_cases h2:i∈tp
  ·have:¬i∈xs2:=fun e=>by
    have:=k.tx i e;rw [JZ hi,if_pos h2] at this;simp at this
   rw [if_neg this,if_pos h2,if_pos (qM _ h2)]
  ·by_cases h3:i∈xs2
   ·simp [h1,h2,h3]
   ·by_cases h4:i∈xs
    ·simp [h1,h2,h3,h4]
    ·simp [h1,h2,h3,h4]
structure Fit (L:List Int) (W:Wk) (T:Tc):Prop where
 vd:Vd W.kd T.tp (pgs T.pc)
 pc:∀p∈T.pc,pcK L p=true
 ln:(W.tx++txs L T.pc).length<=1048576
def apW (L:List Int) (W:Wk) (T:Tc):Wk:=⟨mkd W.kd T.tp (pgs T.pc),W.pc++T.pc,W.tx++txs L T.pc,false⟩
def Goes (L:List Int) (W:Wk) (o:Option Tc) (x:Wk × S3):Prop:=(∃T,o=some T/\Fit L W T/\x=(apW L W T,T.s))\/(x.1.bad=true/\∀T,o=some T->¬Fit L W T)
def TcIn (N:Nat) (T:Tc):Prop:=(∀n∈T.tp,2<=n/\n<N)/\∀p∈T.pc,okC false p=true
theorem uJ (a b:List C4):pgs (a++b)=pgs a++pgs b:=by simp [pgs]
theorem txs_app (L:List Int) (a b:List C4):txs L (a++b)=txs L a++txs L b:=by simp [txs]
theorem YY {N:Nat} {n:Int} (h:inR N n=true):2<=n/\n<(N:Int):=by
 unfold inR at h
 simpa using h
theorem pcK_in {L:List Int} {p:C4} (h:pcK L p=true):2<=p.a.toNat/\p.a.toNat<pgN L:=by
 unfold pcK at h;rw [jO] at h;have:=YY h.1;omega
theorem QF {L:List Int} {W:Wk} {T U:Tc} (hl:W.kd.length=pgN L) (hT:TcIn (pgN L) T) (hU:TcIn (pgN L) U):Fit L W (tcA T U)↔(Fit L W T/\Fit L (apW L W T) U):=by
 have e:W.tx++txs L (T.pc++U.pc)=(W.tx++txs L T.pc)++txs L U.pc:=by rw [txs_app,jX]
 have hb:∀n∈T.tp++U.tp,n<W.kd.length:=fun n hn=>by
  rw [hl];rcases List.mem_append.1 hn with hn|hn
  ·exact (hT.1 n hn).2
  ·exact (hU.1 n hn).2
 have hx:∀(l:List C4),(∀p∈l,pcK L p=true)->∀n∈pgs l,n<W.kd.length:=fun l h n hn=>by
  obtain ⟨p,hp,rfl⟩:=List.mem_map.1 hn;rw [hl];exact (pcK_in (h p hp)).2
 constructor
 ·rintro ⟨h1,h2,h3⟩;have a1:∀p∈T.pc,pcK L p=true:=fun p hp=>h2 p (qM _ hp)
  have a2:∀p∈U.pc,pcK L p=true:=fun p hp=>h2 p (qL _ hp)
  have hv:=(vd_two hb (fun n hn=>by rw [<-uJ] at hn;exact hx _ h2 n hn)).1 (by rw [<-uJ];exact h1);refine ⟨⟨hv.1,a1,?_⟩,⟨hv.2,a2,?_⟩⟩
  ·simp only [tcA] at h3;rw [e,jN] at h3;omega
  ·simp only [tcA] at h3;rw [e] at h3;exact h3
 ·rintro ⟨⟨h1,h2,h3⟩,⟨k1,k2,k3⟩⟩
  have hall:∀p∈T.pc++U.pc,pcK L p=true:=fun p hp=>by
   rcases List.mem_append.1 hp with hp|hp
   ·exact h2 p hp
   ·exact k2 p hp
  refine ⟨?_,hall,?_⟩
  ·simp only [tcA];rw [uJ];exact (vd_two hb (fun n hn=>by rw [<-uJ] at hn;exact hx _ hall n hn)).2 ⟨h1,k1⟩
  ·simp only [tcA];rw [e];exact k3
theorem GU {L:List Int} {W:Wk} {T U:Tc} (h:Fit L (apW L W T) U):apW L (apW L W T) U=apW L W (tcA T U):=by
 have:=mkd_two h.vd;unfold apW tcA;simp only [uJ,txs_app,jX] at this ⊢;rw [this]
def t1 (p:C4):Tc:=⟨[],[p],sm3 [p]⟩
def tN (n:Nat):Tc:=⟨[n],[],s30⟩
theorem mkd_x (kd:List Int) (n:Nat):mkd kd [] [n]=kd.set n 120:=by
 refine yZ (by simp [zK]) fun i hi=>?_
 rw [zK] at hi;rw [JZ hi,jA,jA,yD];by_cases h:n=i
 ·subst h;simp [hi]
 ·have h':¬i=n:=fun e=>h e.symm
  simp [h,h']
theorem mkd_t (kd:List Int) (n:Nat):mkd kd [n] []=kd.set n 116:=by
 refine yZ (by simp [zK]) fun i hi=>?_
 rw [zK] at hi;rw [JZ hi,jA,jA,yD];by_cases h:n=i
 ·subst h;simp [hi]
 ·have h':¬i=n:=fun e=>h e.symm
  simp [h,h']
theorem addS_0 (s:S3):addS s30 s=s:=by cases s;simp [addS,s30]
theorem addS_1 (s:S3):addS s s30=s:=by cases s;simp [addS,s30]
theorem addS_a (a b c:S3):addS (addS a b) c=addS a (addS b c):=by simp [addS,Int.add_assoc]
theorem sm3_cons (p:C4) (l:List C4):sm3 (p::l)=addS (sm3 [p]) (sm3 l):=by
 simp only [sm3,addS,qN,yG,qQ,xR,List.sum_cons,List.sum_nil]
 congr 1
 ·omega
 ·omega
 ·omega
theorem wpc_goes {L:List Int} {W:Wk} {p:C4} (hl:W.kd.length=pgN L):(Fit L W (t1 p)/\wpc L W p=apW L W (t1 p))\/((wpc L W p).bad=true/\¬Fit L W (t1 p)):=by
 by_cases hk:kdB W p.a 120=true
 ·have hin:=GE hk
  have hr:inR (pgN L) p.a=true:=by
   unfold inR;rw [<-hl];simp only [jO,jR];exact hin
  have hkk:W.kd.getD p.a.toNat 0=0\/W.kd.getD p.a.toNat 0=120:=by
   unfold kdB at hk;simp only [jO,Bool.or_eq_true,yF] at hk;rcases hk.2.2 with h|h
   ·exact .inl h
   ·exact .inr h.2
  by_cases ht:teE (pageOf L p.a.toNat)=0/\p.b+p.c<=((teL (pageOf L p.a.toNat)).length:Int)
  ·have e:wpc L W p=⟨W.kd.set p.a.toNat 120,W.pc++[p],W.tx++seg (teL (pageOf L p.a.toNat)) p,!(lin (seg (teL (pageOf L p.a.toNat)) p)==p.d)||decide (1048576<(W.tx++seg (teL (pageOf L p.a.toNat)) p).length)⟩:=by unfold wpc;rw [if_pos hk,if_pos ht]
   have etx:txs L [p]=seg (teL (pageOf L p.a.toNat)) p:=by simp [txs,pcT]
   by_cases hd:lin (seg (teL (pageOf L p.a.toNat)) p)=p.d
   ·by_cases hm:(W.tx++seg (teL (pageOf L p.a.toNat)) p).length<=1048576
    ·left;refine ⟨⟨⟨List.nodup_nil,fun n hn=>(by cases hn),fun x hx=>?_,fun n hn=>(by cases hn)⟩,fun q hq=>?_,?_⟩,?_⟩
     ·simp only [t1,pgs,qQ,xR,yA] at hx;rw [hx];exact hkk
     ·simp only [t1,yA] at hq;subst hq;unfold pcK;rw [hr,jE ht.1,jE ht.2,hd];simp
     ·simp only [t1];rw [etx];exact hm
     ·rw [e,hd,jH (by omega)];unfold apW;simp only [t1];rw [etx];simp only [pgs,qQ,xR];rw [mkd_x];simp
    ·right;refine ⟨by rw [e];simp only;rw [jE (show 1048576<(W.tx++seg (teL (pageOf L p.a.toNat)) p).length by omega)];simp,fun h=>hm ?_⟩;have:=h.ln;simp only [t1] at this;rw [etx] at this;exact this
   ·right;have hd':(lin (seg (teL (pageOf L p.a.toNat)) p)==p.d)=false:=by simpa using hd
    refine ⟨by rw [e];simp only;rw [hd'];simp,fun h=>?_⟩;have:=h.pc p (by simp [t1]);unfold pcK at this;rw [hd'] at this;simp at this
  ·right;refine ⟨by unfold wpc;rw [if_pos hk,if_neg ht],fun h=>ht ?_⟩;have:=h.pc p (by simp [t1]);unfold pcK at this;simp only [jO,jR] at this;exact ⟨this.2.1,this.2.2.1⟩
 ·right;refine ⟨by unfold wpc;rw [if_neg hk],fun h=>hk ?_⟩;have h1:=h.pc p (by simp [t1]);have h2:=h.vd.tx p.a.toNat (by simp [t1,pgs]);unfold pcK at h1;rw [jO] at h1;have h3:=YY h1.1;unfold kdB;rw [hl,jE h3.1,jE h3.2];simp only [xP,Bool.or_eq_true,jO,yF];rcases h2 with h2|h2
  ·exact .inl h2
  ·exact .inr ⟨trivial,h2⟩
theorem GH {L:List Int} {W:Wk} (h:W.tx.length<=1048576) (s:S3):Fit L W ⟨[],[],s⟩:=⟨⟨List.nodup_nil,fun n hn=>(by cases hn),fun n hn=>(by cases hn),fun n hn=>(by cases hn)⟩,fun n hn=>(by cases hn),(by simpa [txs] using h)⟩
theorem ap_nil {L:List Int} {W:Wk} (h:W.bad=false) (s:S3):apW L W ⟨[],[],s⟩=W:=by
 unfold apW;simp only [pgs,xR,mkd_nil,xW,txs,List.flatMap_nil];cases W;simp only at h;subst h;rfl
theorem lf_goes {L:List Int}:∀(l:List C4) (W:Wk) (s:S3),(∀p∈l,okC false p=true)->W.bad=false->W.kd.length=pgN L->W.tx.length<=1048576->
  (Fit L W ⟨[],l,sm3 l⟩/\lfGo L l (W,s)=(apW L W ⟨[],l,sm3 l⟩,addS s (sm3 l)))\/((lfGo L l (W,s)).1.bad=true/\¬Fit L W ⟨[],l,sm3 l⟩):=by
 intro l
 induction l with
 |nil=>
  intro W s _ hb hl ht;exact .inl ⟨GH ht _,by rw [ap_nil hb];show (W,s)=_;rw [show sm3 []=s30 from rfl,addS_1]⟩
 |cons p l ih=>
  intro W s ho hb hl ht
  have e:lfGo L (p::l) (W,s)=lfGo L l (wpc L W p,addS s (sm3 [p])):=by
   rw [lfGo,if_neg (by rw [hb];simp)]
   congr 2
   simp [addS,sm3]
  have eT:(⟨[],p::l,sm3 (p::l)⟩:Tc)=tcA (t1 p) ⟨[],l,sm3 l⟩:=by
   unfold tcA t1;rw [sm3_cons];rfl
  have h1:TcIn (pgN L) (t1 p):=⟨fun n hn=>(by cases hn),fun q hq=>ho q (by simp [t1] at hq;rw [hq];simp)⟩;have h2:TcIn (pgN L) ⟨[],l,sm3 l⟩:=⟨fun n hn=>(by cases hn),fun q hq=>ho q (jM _ hq)⟩;rw [e,eT,QF hl h1 h2];rcases wpc_goes (p:=p) hl with ⟨f,g⟩|⟨f,g⟩
  ·rw [g];have hlen:(apW L W (t1 p)).kd.length=pgN L:=by unfold apW;rw [zK];exact hl
   rcases ih (apW L W (t1 p)) (addS s (sm3 [p])) (fun q hq=>ho q (jM _ hq)) rfl hlen f.ln with ⟨k1,k2⟩|⟨k1,k2⟩
   ·left;refine ⟨⟨f,k1⟩,?_⟩;rw [k2,GU k1,addS_a,<-sm3_cons]
   ·exact .inr ⟨k1,fun h=>k2 h.2⟩
  ·right;refine ⟨?_,fun h=>g h.1⟩;rw [lfGo_bad (x:=(wpc L W p,addS s (sm3 [p]))) f];exact f
theorem GZ {L:List Int} {W:Wk} {n:Int} (hW:W.bad=false) (hl:W.kd.length=pgN L) (ht:W.tx.length<=1048576):(inR (pgN L) n=true/\Fit L W (tN n.toNat)/\wpg W n 116=apW L W (tN n.toNat))\/((wpg W n 116).bad=true/\¬(inR (pgN L) n=true/\Fit L W (tN n.toNat))):=by
 by_cases hk:kdB W n 116=true
 ·left;have hin:=GE hk
  have h0:W.kd.getD n.toNat 0=0:=by
   unfold kdB at hk;simp only [jO,Bool.or_eq_true,yF] at hk;rcases hk.2.2 with h|h
   ·exact h
   ·exact absurd h.1 (by decide)
  refine ⟨by unfold inR;rw [<-hl];simp only [jO,jR];exact hin,⟨⟨?_,fun m hm=>?_,fun x hx=>(by cases hx),fun m hm hx=>(by cases hx)⟩,fun q hq=>(by cases hq),?_⟩,?_⟩
  ·simp [tN]
  ·simp only [tN,yA] at hm;rw [hm];exact h0
  ·simpa [tN,txs] using ht
  ·rw [FT hk];unfold apW tN;simp only [pgs,xR,mkd_t,xW,txs,List.flatMap_nil];cases W;simp only at hW;subst hW;rfl
 ·right;have hk':kdB W n 116=false:=by simpa using hk
  refine ⟨by rw [wpg_no hk'],fun ⟨h1,h2⟩=>hk ?_⟩;have h3:=YY h1;have h4:=h2.vd.tr n.toNat (by simp [tN]);unfold kdB;rw [hl,jE h3.1,jE h3.2,h4];simp
theorem ZF {N:Nat} {g:Int->Option Tc} (hg:∀n T,g n=some T->TcIn N T):∀(l:List C4) (T:Tc),tcK g l=some T->TcIn N T:=by
 intro l
 induction l with
 |nil=>
  intro T h;unfold tcK at h;simp only [jQ] at h;subst h;exact ⟨fun n hn=>(by cases hn),fun n hn=>(by cases hn)⟩
 |cons k l ih=>
  intro T h;unfold tcK at h;split at h
  ·cases h
  ·next x hx=>
   split at h
   ·split at h
    ·cases h
    ·next y hy=>
     simp only [jQ] at h;subst h;obtain ⟨a1,a2⟩:=hg _ _ hx;obtain ⟨b1,b2⟩:=ih _ hy;refine ⟨fun n hn=>?_,fun p hp=>?_⟩
     ·rcases List.mem_append.1 hn with hn|hn
      ·exact a1 n hn
      ·exact b1 n hn
     ·rcases List.mem_append.1 hp with hp|hp
      ·exact a2 p hp
      ·exact b2 p hp
   ·cases h
theorem tcT_in {L:List Int} (hL:Bys L):∀(lv:Nat) (root:Bool) (n:Int) (T:Tc),tcT L lv root n=some T->TcIn (pgN L) T:=by
 intro lv
 induction lv with
 |zero=>
  intro root n T h;unfold tcT at h;split at h
  ·next hc=>
   simp only [jQ] at h;subst h;rw [jO] at hc;have:=YY hc.1;refine ⟨fun m hm=>?_,(reL_bd (t:=false) (JI hL n.toNat)).2⟩;simp only [yA] at hm;omega
  ·cases h
 |succ lv ih=>
  intro root n T h;unfold tcT at h;split at h
  ·next hc=>
   split at h
   ·cases h
   ·next y hy=>
    simp only [jQ] at h;subst h;rw [jO] at hc;have:=YY hc.1;obtain ⟨b1,b2⟩:=ZF (fun n T=>ih false n T) _ _ hy;refine ⟨fun m hm=>?_,b2⟩;rcases List.mem_cons.1 hm with rfl|hm
    ·omega
    ·exact b1 m hm
  ·cases h
theorem kd_goes {L:List Int} {f:Int->Wk->Wk × S3} {g:Int->Option Tc} (hg:∀n T,g n=some T->TcIn (pgN L) T) (hf:∀n W,W.bad=false->W.kd.length=pgN L->W.tx.length<=1048576->Goes L W (g n) (f n W)):∀(l:List C4) (W:Wk) (s:S3),W.bad=false->W.kd.length=pgN L->W.tx.length<=1048576->
  (∃T,tcK g l=some T/\Fit L W T/\kdGo f l (W,s)=(apW L W T,addS s T.s))\/((kdGo f l (W,s)).1.bad=true/\∀T,tcK g l=some T->¬Fit L W T):=by
 intro l
 induction l with
 |nil=>
  intro W s hb hl ht;refine .inl ⟨tc0,rfl,GH ht _,?_⟩;rw [show tc0=⟨[],[],s30⟩ from rfl,ap_nil hb,addS_1];rfl
 |cons k l ih=>
  intro W s hb hl ht
  have e:kdGo f (k::l) (W,s)=kdGo f l (kdW (f k.a W) k,addS s (f k.a W).2):=by
   rw [kdGo_cons,if_neg (by rw [hb];simp)]
  rw [e];rcases hf k.a W hb hl ht with ⟨T,h1,h2,h3⟩|⟨h1,h2⟩
  ·have eK:tcK g (k::l)=if kdQ T.s k=true then (match tcK g l with|none=>none|some y=>some (tcA T y)) else none:=by
    first|(rw [tcK,h1];done)|(rw [tcK,h1];rfl)
   rw [eK,h3];by_cases hq:kdQ T.s k=true
   ·rw [if_pos hq]
    have eW:kdW (apW L W T,T.s) k=apW L W T:=by
     unfold kdW;rw [hq];simp [apW]
    rw [eW];have hlen:(apW L W T).kd.length=pgN L:=by unfold apW;rw [zK];exact hl
    rcases ih (apW L W T) (addS s T.s) rfl hlen h2.ln with ⟨U,k1,k2,k3⟩|⟨k1,k2⟩
    ·left;refine ⟨tcA T U,by rw [k1],(QF hl (hg _ _ h1) (ZF hg _ _ k1)).2 ⟨h2,k2⟩,?_⟩;rw [k3,GU k2,addS_a];rfl
    ·right;refine ⟨k1,fun V hV hF=>?_⟩;split at hV
     ·cases hV
     ·next U hU=>
      simp only [jQ] at hV;subst hV;exact k2 U hU ((QF hl (hg _ _ h1) (ZF hg _ _ hU)).1 hF).2
   ·rw [if_neg hq];right;refine ⟨?_,fun V hV=>(by cases hV)⟩;have hq':kdQ T.s k=false:=by simpa using hq
    have hbad:(kdW (apW L W T,T.s) k).bad=true:=by unfold kdW;rw [hq'];simp
    rw [kO (x:=(kdW (apW L W T,T.s) k,addS s T.s)) hbad];exact hbad
  ·right;have hbad:(kdW (f k.a W) k).bad=true:=by unfold kdW;rw [h1];simp
   refine ⟨?_,fun V hV hF=>?_⟩
   ·rw [kO (x:=(kdW (f k.a W) k,addS s (f k.a W).2)) hbad];exact hbad
   ·unfold tcK at hV;split at hV
    ·cases hV
    ·next T hT=>
     split at hV
     ·split at hV
      ·cases hV
      ·next U hU=>
       simp only [jQ] at hV;subst hV;exact h2 T hT ((QF hl (hg _ _ hT) (ZF hg _ _ hU)).1 hF).1
     ·cases hV
theorem fA (n:Nat) (y:Tc):tcA (tN n) y=⟨n::y.tp,y.pc,y.s⟩:=by
 unfold tcA tN;rw [addS_0];rfl
theorem fF {N:Nat} {n:Int} (h:inR N n=true):TcIn N (tN n.toNat):=by
 have:=YY h;refine ⟨fun m hm=>?_,fun p hp=>(by cases hp)⟩;simp only [tN,yA] at hm;omega
theorem wtr_goes {L:List Int} (hL:Bys L):∀(lv:Nat) (root:Bool) (n:Int) (W:Wk),W.bad=false->W.kd.length=pgN L->W.tx.length<=1048576->Goes L W (tcT L lv root n) (wtr L lv root n W):=by
 intro lv
 induction lv with
 |zero=>
  intro root n W hb hl ht;rcases GZ (n:=n) hb hl ht with ⟨h1,h2,h3⟩|⟨h1,h2⟩
  ·have hg:(wpg W n 116).bad=false:=by rw [h3];rfl
   have hlen:(apW L W (tN n.toNat)).kd.length=pgN L:=by unfold apW;rw [zK];exact hl
   unfold wtr tcT;rw [if_neg (c:=(wpg W n 116).bad=true) (by rw [hg];simp),h1,h3];unfold wlf;cases hlf:lfB (pageOf L n.toNat) root with
   |true=>
    right;rw [lfGo_bad (x:=({apW L W (tN n.toNat) with bad:=(apW L W (tN n.toNat)).bad||true},s30)) (by simp)];refine ⟨by simp,fun T hT=>by simp at hT⟩
   |false=>
    have hr:=reL_bd (t:=false) (JI hL n.toNat);have eb:({apW L W (tN n.toNat) with bad:=(apW L W (tN n.toNat)).bad||false}:Wk)=apW L W (tN n.toNat):=rfl;rw [eb];have hU:TcIn (pgN L) ⟨[],reL false (pageOf L n.toNat),sm3 (reL false (pageOf L n.toNat))⟩:=⟨fun n hn=>(by cases hn),hr.2⟩;have eA:=fA n.toNat ⟨[],reL false (pageOf L n.toNat),sm3 (reL false (pageOf L n.toNat))⟩;simp only at eA;rcases lf_goes (L:=L) (reL false (pageOf L n.toNat)) (apW L W (tN n.toNat)) s30 hr.2 rfl hlen h2.ln with ⟨k1,k2⟩|⟨k1,k2⟩
    ·left;refine ⟨⟨[n.toNat],reL false (pageOf L n.toNat),sm3 (reL false (pageOf L n.toNat))⟩,rfl,?_,?_⟩
     ·rw [<-eA];exact (QF hl (fF h1) hU).2 ⟨h2,k1⟩
     ·rw [k2,GU k1,eA,addS_0]
    ·right;refine ⟨k1,fun T hT hF=>?_⟩;simp only [Bool.not_false,Bool.and_self,if_true,jQ] at hT;subst hT;rw [<-eA] at hF;exact k2 ((QF hl (fF h1) hU).1 hF).2
  ·right;unfold wtr;rw [if_pos h1];refine ⟨h1,fun T hT hF=>h2 ?_⟩;unfold tcT at hT;split at hT
   ·next hc=>
    simp only [jQ] at hT;subst hT;rw [jO] at hc;have hr:=reL_bd (t:=false) (JI hL n.toNat);have hU:TcIn (pgN L) ⟨[],reL false (pageOf L n.toNat),sm3 (reL false (pageOf L n.toNat))⟩:=⟨fun n hn=>(by cases hn),hr.2⟩;have eA:=fA n.toNat ⟨[],reL false (pageOf L n.toNat),sm3 (reL false (pageOf L n.toNat))⟩;simp only at eA;rw [<-eA] at hF;exact ⟨hc.1,((QF hl (fF hc.1) hU).1 hF).1⟩
   ·cases hT
 |succ lv ih=>
  intro root n W hb hl ht;have hgi:∀n T,tcT L lv false n=some T->TcIn (pgN L) T:=fun n T=>tcT_in hL lv false n T
  rcases GZ (n:=n) hb hl ht with ⟨h1,h2,h3⟩|⟨h1,h2⟩
  ·have hg:(wpg W n 116).bad=false:=by rw [h3];rfl
   have hlen:(apW L W (tN n.toNat)).kd.length=pgN L:=by unfold apW;rw [zK];exact hl
   unfold wtr tcT;rw [if_neg (c:=(wpg W n 116).bad=true) (by rw [hg];simp),h1,h3];cases hlf:inB3 (pageOf L n.toNat) (lv+1) root with
   |true=>
    right;rw [kO (x:=({apW L W (tN n.toNat) with bad:=(apW L W (tN n.toNat)).bad||true},s30)) (by simp)];refine ⟨by simp,fun T hT=>by simp at hT⟩
   |false=>
    have eb:({apW L W (tN n.toNat) with bad:=(apW L W (tN n.toNat)).bad||false}:Wk)=apW L W (tN n.toNat):=rfl;rw [eb];rcases kd_goes (L:=L) hgi (fun n W=>ih false n W) (reL true (pageOf L n.toNat)) (apW L W (tN n.toNat)) s30 rfl hlen h2.ln with ⟨U,k0,k1,k2⟩|⟨k1,k2⟩
    ·left;refine ⟨⟨n.toNat::U.tp,U.pc,U.s⟩,by simp [k0],?_,?_⟩
     ·rw [<-fA];exact (QF hl (fF h1) (ZF hgi _ _ k0)).2 ⟨h2,k1⟩
     ·rw [k2,GU k1,fA,addS_0]
    ·right;refine ⟨k1,fun T hT hF=>?_⟩;simp only [Bool.not_false,Bool.and_self,if_true] at hT;split at hT
     ·cases hT
     ·next U hU=>
      simp only [jQ] at hT;subst hT;rw [<-fA] at hF;exact k2 U hU ((QF hl (fF h1) (ZF hgi _ _ hU)).1 hF).2
  ·right;unfold wtr;rw [if_pos h1];refine ⟨h1,fun T hT hF=>h2 ?_⟩;unfold tcT at hT;split at hT
   ·next hc=>
    rw [jO] at hc;split at hT
    ·cases hT
    ·next U hU=>
     simp only [jQ] at hT;subst hT;rw [<-fA] at hF;exact ⟨hc.1,((QF hl (fF hc.1) (ZF hgi _ _ hU)).1 hF).1⟩
   ·cases hT
theorem getI_bd {zs:List Int} (h:Bys zs) (p n:Int):0<=getI zs p n/\getI zs p n<=4611686018427387904:=by
 have:=ZJ h p.toNat n.toNat;unfold getI;split
 ·unfold capI;split
  ·omega
  ·omega
 ·omega
def rcB (R:List Bool) (n:Int):Bool:=decide (0<=n)&&(decide (n<(R.length:Int))&&!R.getD n.toNat false)
def cnt (R:List Bool):Nat:=R.count true
def mkR (R:List Bool) (l:List Nat):List Bool:=R.mapIdx fun i b=>b||decide (i∈l)
theorem QZ {R:List Bool} {n:Int} (h:rcB R n=true):0<=n/\n<(R.length:Int)/\R.getD n.toNat false=false:=by
 unfold rcB at h
 simpa using h
theorem JB (R:List Bool) (l:List Nat):(mkR R l).length=R.length:=by simp [mkR]
theorem kX {X Y:List Bool} (hl:X.length=Y.length) (h:∀i,i<X.length->X.getD i false=Y.getD i false):X=Y:=by
 refine List.ext_getElem hl fun i h1 h2=>?_
 have:=h i h1;rw [jA,jA,jC h1,jC h2] at this;exact this
theorem QA {R:List Bool} {l:List Nat} {i:Nat} (hi:i<R.length):(mkR R l).getD i false=(R.getD i false||decide (i∈l)):=by
 unfold mkR;simp only [jA,List.getElem?_mapIdx,jC hi,yN,qJ]
theorem YS {R:List Bool} {n i:Nat} {b:Bool} (hi:i<R.length):(R.set n b).getD i false=if i=n then b else R.getD i false:=by
 rw [jA,yD,jA];by_cases h:n=i
 ·subst h;simp [hi]
 ·have h':¬i=n:=fun e=>h e.symm
  simp [h,h']
theorem gY (R:List Bool):mkR R []=R:=by
 refine kX (JB ..) fun i hi=>?_
 rw [JB] at hi;rw [QA hi];simp
theorem mkR_set {R:List Bool} {n:Nat} {l:List Nat}:mkR (R.set n true) l=mkR R (n::l):=by
 refine kX (by simp [JB]) fun i hi=>?_
 rw [JB,jY] at hi;rw [QA (by rw [jY];exact hi),QA hi,YS hi];by_cases h:i=n
 ·subst h;simp
 ·simp [h]
theorem uV {R:List Bool} {n:Nat} (hn:n<R.length) (h:R.getD n false=false):cnt (R.set n true)=cnt R+1:=by
 unfold cnt
 have e:R[n]=false:=by
  rw [jA,jC hn] at h;exact h
 rw [List.count_set hn,e];simp
theorem XE (R:List Bool):cnt R<=R.length:=List.count_le_length
def chB (L:List Int):Nat->Int->List Bool->List Int->Option (List Bool × List Int)
 |0,_,_,_=>none
 |f+1,n,R,out=>if n=0 then some (R,out) else if (rcB R n&&decide (ptE (pageOf L n.toNat)=0))=true then chB L f (ptN (pageOf L n.toNat)) (R.set n.toNat true) (out++ptL (pageOf L n.toNat)) else none
theorem gM {z:List Int}:(ptL z).length<=244:=by
 unfold ptL;split
 ·next e=>
  unfold ptE at e;split at e
  ·split at e
   ·next hb=>
    unfold ptB at hb;simp only [jO,jR] at hb;have:=hb.2.2.1;rw [qG];omega
   ·cases e
  ·contradiction
 ·simp
theorem ptN_in {z:List Int} (hz:Bys z):(ptN z=0\/2<=ptN z):=by
 unfold ptN;split
 ·next e=>
  unfold ptE at e;split at e
  ·split at e
   ·next hb=>
    unfold ptB at hb;simp only [jO,jR] at hb;have h1:=hb.2.2.2.1.1;have h0:0<=nx (opP z):=by unfold nx;exact (getI_bd (XA hz) 0 4).1
    omega
   ·cases e
  ·contradiction
 ·exact .inl rfl
def kR (kd:List Int):List Bool:=kd.map fun z=>!(z==0)
theorem JO (kd:List Int):(kR kd).length=kd.length:=by simp [kR]
theorem kR_at {kd:List Int} {i:Nat} (hi:i<kd.length):(kR kd).getD i false=!(kd.getD i 0==0):=by
 unfold kR;rw [jA,qH,jC hi,jA,jC hi];rfl
theorem kR_set {kd:List Int} {n:Nat} {y:Int} (hy:y≠0):kR (kd.set n y)=(kR kd).set n true:=by
 unfold kR;rw [List.map_set]
 congr 1
 simpa using hy
theorem kR_mkd (kd:List Int) (tp xs:List Nat):kR (mkd kd tp xs)=mkR (kR kd) (tp++xs):=by
 refine kX (by rw [JO,zK,JB,JO]) fun i hi=>?_
 rw [JO,zK] at hi;rw [kR_at (by rw [zK];exact hi),JZ hi,QA (by rw [JO];exact hi),kR_at hi];by_cases h1:i∈tp
 ·simp [h1]
 ·by_cases h2:i∈xs
  ·simp [h1,h2]
  ·simp [h1,h2]
theorem kdB_kR {W:Wk} {n kd:Int} (hk:(kd==120)=false) (h2:2<=n):kdB W n kd=rcB (kR W.kd) n:=by
 unfold kdB rcB;rw [JO,hk,jE h2,jE (show (0:Int)<=n by omega)];by_cases h:n<(W.kd.length:Int)
 ·rw [kR_at (by omega)];simp
 ·rw [jH h];simp
theorem ch_goes {L:List Int} (hL:Bys L) {kd:Int} (hk:(kd==120)=false) (hk0:kd≠0):∀(f:Nat) (n:Int) (W:Wk) (out:List Int),W.bad=false->(n=0\/2<=n)->W.kd.length<=4096->W.kd.length<f+cnt (kR W.kd)->out.length<=244*cnt (kR W.kd)->
  (∃W' R' out',chB L f n (kR W.kd) out=some (R',out')/\chGo L kd f n W out=(W',out')/\W'.bad=false/\kR W'.kd=R'/\W'.kd.length=W.kd.length/\W'.pc=W.pc/\W'.tx=W.tx/\out'.length<=244*cnt R')\/(chB L f n (kR W.kd) out=none/\(chGo L kd f n W out).1.bad=true):=by
 intro f
 induction f with
 |zero=>
  intro n W out _ _ _ h;have:=XE (kR W.kd);rw [JO] at this;omega
 |succ f ih=>
  intro n W out hb hn h4 hf ho;have e1:chB L (f+1) n (kR W.kd) out=if n=0 then some (kR W.kd,out) else if (rcB (kR W.kd) n&&decide (ptE (pageOf L n.toNat)=0))=true then chB L f (ptN (pageOf L n.toNat)) ((kR W.kd).set n.toNat true) (out++ptL (pageOf L n.toNat)) else none:=rfl
  have e2:chGo L kd (f+1) n W out=if n=0\/W.bad=true then (W,out) else if (wpg W n kd).bad=true then (wpg W n kd,out) else
   chGo L kd f (ptN (pageOf L n.toNat)) {wpg W n kd with bad:=!(ptE (pageOf L n.toNat)==0)||decide (1048576<out.length+(ptL (pageOf L n.toNat)).length)} (out++ptL (pageOf L n.toNat)):=rfl
  by_cases h0:n=0
  ·left;rw [if_pos h0] at e1;rw [if_pos (.inl h0)] at e2;exact ⟨W,_,out,e1,e2,hb,rfl,rfl,rfl,rfl,ho⟩
  ·have hn2:2<=n:=by omega
   rw [if_neg h0] at e1;rw [if_neg (by rw [hb];simpa using h0)] at e2;have hkk:=kdB_kR (W:=W) hk hn2;cases hr:rcB (kR W.kd) n with
   |false=>
    right;rw [hr] at hkk e1;rw [wpg_no hkk,if_pos rfl] at e2;rw [e1,e2];exact ⟨by simp,rfl⟩
   |true=>
    rw [hr] at hkk e1;obtain ⟨r1,r2,r3⟩:=QZ hr;rw [JO] at r2;rw [FT hkk] at e2;have hw1:({W with kd:=W.kd.set n.toNat kd}:Wk).bad=false:=hb;rw [if_neg (by rw [hw1];simp)] at e2;have hcs:=uV (R:=kR W.kd) (n:=n.toNat) (by rw [JO];omega) r3;have hcl:=XE ((kR W.kd).set n.toNat true);rw [jY,JO] at hcl;have hpl:=gM (z:=pageOf L n.toNat);have hno:¬1048576<out.length+(ptL (pageOf L n.toNat)).length:=by omega
    rw [jH hno,Bool.or_false] at e2;rw [e1,e2];by_cases he:ptE (pageOf L n.toNat)=0
    ·rw [he,jE rfl];simp only [Bool.and_self,if_true,beq_self_eq_true,Bool.not_true];have hks:=kR_set (kd:=W.kd) (n:=n.toNat) hk0;rcases ih (ptN (pageOf L n.toNat)) {W with kd:=W.kd.set n.toNat kd,bad:=false} (out++ptL (pageOf L n.toNat)) rfl (ptN_in (JI hL _)) (by simp only [jY];exact h4) (by simp only [jY,hks];omega) (by simp only [hks,jN];omega) with ⟨W',R',out',i1,i2,i3,i4,i5,i6,i7,i8⟩|⟨i1,i2⟩
     ·left;simp only [hks] at i1;refine ⟨W',R',out',i1,i2,i3,i4,?_,i6,i7,i8⟩;rw [i5];simp
     ·right;simp only [hks] at i1;exact ⟨i1,i2⟩
    ·right;have he':(ptE (pageOf L n.toNat)==0)=false:=by simpa using he
     rw [jH he,he'];refine ⟨by simp,?_⟩;cases f with
     |zero=>rfl
     |succ f=>
      unfold chGo;rw [if_pos (.inr rfl)];rfl
end Go.Proofs.YtaijfhadecennaaGreat.Oct
