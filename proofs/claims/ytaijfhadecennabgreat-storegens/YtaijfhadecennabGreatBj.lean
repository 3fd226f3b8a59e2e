/- Part of a proof. -/
import Derived.Test.YtaijfhadecennabGreatBb
import Derived.BigRegion
namespace Go.Proofs.YtaijfhadecennabGreat.Oct
open Go.RowKit
section
variable {w wr w2 w5:World} {p ic rb sb k:Nat} {F F' F2:Nat->Prop} {ia g:Option Addr} {L:List Int} {q:Nat->Value} {W W':Wk} {l:List C4} {s':S3} {fin:Wk × S3}
theorem Step.notin (h:Step F F2 w w2) {b:Nat} (hb:b<w.heap.size) (hn:¬F b):¬F2 b:=fun e=>by
 rcases h.2 b e with h|h
 ·exact hn h
 ·omega
end
theorem VH {f:Int->Wk->Wk × S3} {l:List C4} {x:Wk × S3} (h:x.1.bad=true):kdGo f l x=x:=by
 cases l with
 |nil=>rfl
 |cons p l=>unfold kdGo;rw [if_pos h]
def kdQ (x:S3) (y:C4):Bool:=x.p==y.b&&(x.b==y.c&&x.l==y.d)
def kdW (x:Wk × S3) (y:C4):Wk:={x.1 with bad:=x.1.bad||!kdQ x.2 y}
def addS (s x:S3):S3:=⟨s.p+x.p,s.b+x.b,s.l+x.l⟩
theorem kdGo_cons {f:Int->Wk->Wk × S3} {y:C4} {l:List C4} {x:Wk × S3}:kdGo f (y::l) x=if x.1.bad then x else kdGo f l (kdW (f y.a x.1) y,addS x.2 (f y.a x.1).2):=by
 rw [kdGo];rfl
theorem JE {L:List Int} (h:Bys L) (n:Nat):Bys (pageOf L n):=fun z hz=>h z (jY (jT hz))
structure Tc where
 tp:List Nat
 pc:List C4
 s:S3
def tc0:Tc:=⟨[],[],s30⟩
def tcA (x y:Tc):Tc:=⟨x.tp++y.tp,x.pc++y.pc,addS x.s y.s⟩
def inR (N:Nat) (n:Int):Bool:=decide (2<=n)&&decide (n<(N:Int))
def sm3 (l:List C4):S3:=⟨l.length,(l.map (·.c)).sum,(l.map (·.d)).sum⟩
def tcK (f:Int->Option Tc):List C4->Option Tc
 |[]=>some tc0
 |k::l=>match f k.a with
  |none=>none
  |some x=>if kdQ x.s k=true then (match tcK f l with|none=>none|some y=>some (tcA x y)) else none
def tcT (L:List Int):Nat->Bool->Int->Option Tc
 |0,root,n=>if (inR (pgN L) n&&!lfB (pageOf L n.toNat) root)=true then some ⟨[n.toNat],reL false (pageOf L n.toNat),sm3 (reL false (pageOf L n.toNat))⟩ else none
 |lv+1,root,n=>if (inR (pgN L) n&&!inB3 (pageOf L n.toNat) (lv+1) root)=true then (match tcK (tcT L lv false) (reL true (pageOf L n.toNat)) with|none=>none|some y=>some ⟨n.toNat::y.tp,y.pc,y.s⟩) else none
def pgs (l:List C4):List Nat:=l.map (fun p=>p.a.toNat)
def pcK (L:List Int) (p:C4):Bool:=inR (pgN L) p.a&&(decide (teE (pageOf L p.a.toNat)=0)&&(decide (p.b+p.c<=((teL (pageOf L p.a.toNat)).length:Int))&&(lin (seg (teL (pageOf L p.a.toNat)) p)==p.d)))
def pcT (L:List Int) (p:C4):List Int:=seg (teL (pageOf L p.a.toNat)) p
def txs (L:List Int) (l:List C4):List Int:=l.flatMap (pcT L)
structure Vd (kd:List Int) (tp xs:List Nat):Prop where
 nd:tp.Nodup
 tr:∀n∈tp,kd.getD n 0=0
 tx:∀x∈xs,kd.getD x 0=0\/kd.getD x 0=120
 ap:∀n∈tp,¬n∈xs
def mkd (kd:List Int) (tp xs:List Nat):List Int:=kd.mapIdx fun i z=>if i∈tp then 116 else if i∈xs then 120 else z
theorem zD (kd:List Int) (tp xs:List Nat):(mkd kd tp xs).length=kd.length:=by simp [mkd]
theorem JK {kd:List Int} {tp xs:List Nat} {i:Nat} (hi:i<kd.length):(mkd kd tp xs).getD i 0=if i∈tp then 116 else if i∈xs then 120 else kd.getD i 0:=by
 unfold mkd;simp only [jA,List.getElem?_mapIdx,jC hi,yI,qG]
theorem mkd_nil (kd:List Int):mkd kd [] []=kd:=by
 refine yV (zD ..) fun i hi=>?_
 rw [zD] at hi;rw [JK hi];simp
theorem vd_two {kd:List Int} {tp xs tp2 xs2:List Nat} (hb:∀n∈tp++tp2,n<kd.length) (hx:∀n∈xs++xs2,n<kd.length):
  Vd kd (tp++tp2) (xs++xs2)↔(Vd kd tp xs/\Vd (mkd kd tp xs) tp2 xs2):=by
 constructor
 ·intro h;have hnd:=List.nodup_append.1 h.nd;refine ⟨⟨hnd.1,fun n hn=>h.tr n (qK _ hn),fun x hx=>h.tx x (qK _ hx),fun n hn hx=>h.ap n (qK _ hn) (qK _ hx)⟩,⟨hnd.2.1,fun n hn=>?_,fun x hx2=>?_,fun n hn hx=>h.ap n (qI _ hn) (qI _ hx)⟩⟩
  ·rw [JK (hb n (qI _ hn)),if_neg (fun e=>hnd.2.2 n e n hn rfl),if_neg (fun e=>h.ap n (qI _ hn) (qK _ e))];exact h.tr n (qI _ hn)
  ·rw [JK (hx x (qI _ hx2)),if_neg (fun e=>h.ap x (qK _ e) (qI _ hx2))];split
   ·exact .inr rfl
   ·exact h.tx x (qI _ hx2)
 ·rintro ⟨h,k⟩
  have key:∀n,n<kd.length->(mkd kd tp xs).getD n 0=0->¬n∈tp/\¬n∈xs/\kd.getD n 0=0:=fun n hn e=>by
   rw [JK hn] at e;split at e
   ·simp at e
   ·split at e
    ·simp at e
    ·exact ⟨by assumption,by assumption,e⟩
  refine ⟨List.nodup_append.2 ⟨h.nd,k.nd,fun a ha b hb2 e=>?_⟩,fun n hn=>?_,fun x hx2=>?_,fun n hn hx2=>?_⟩
  ·subst e;exact (key a (hb a (qK _ ha)) (k.tr a hb2)).1 ha
  ·rcases List.mem_append.1 hn with hn|hn
   ·exact h.tr n hn
   ·exact (key n (hb n (qI _ hn)) (k.tr n hn)).2.2
  ·rcases List.mem_append.1 hx2 with h2|h2
   ·exact h.tx x h2
   ·have:=k.tx x h2;rw [JK (hx x hx2)] at this;split at this
    ·simp at this
    ·split at this
     ·exact h.tx x (by assumption)
     ·exact this
  ·rcases List.mem_append.1 hn with hn|hn
   ·rcases List.mem_append.1 hx2 with h2|h2
    ·exact h.ap n hn h2
    ·have:=k.tx n h2;rw [JK (hb n (qK _ hn)),if_pos hn] at this;simp at this
   ·rcases List.mem_append.1 hx2 with h2|h2
    ·exact (key n (hb n (qI _ hn)) (k.tr n hn)).2.1 h2
    ·exact k.ap n hn h2
theorem mkd_two {kd:List Int} {tp xs tp2 xs2:List Nat} (k:Vd (mkd kd tp xs) tp2 xs2):
  mkd (mkd kd tp xs) tp2 xs2=mkd kd (tp++tp2) (xs++xs2):=by
 refine yV (by simp [zD]) fun i hi=>?_
 rw [zD,zD] at hi;rw [JK (by rw [zD];exact hi),JK hi,JK hi];by_cases h1:i∈tp2
 ·rw [if_pos h1,if_pos (qI _ h1)]
 ·rw [if_neg h1];by_cases h2:i∈tp
  ·have:¬i∈xs2:=fun e=>by
    have:=k.tx i e;rw [JK hi,if_pos h2] at this;simp at this
   rw [if_neg this,if_pos h2,if_pos (qK _ h2)]
  ·by_cases h3:i∈xs2
   ·simp [h1,h2,h3]
   ·by_cases h4:i∈xs
    ·simp [h1,h2,h3,h4]
    ·simp [h1,h2,h3,h4]
structure Fit (L:List Int) (W:Wk) (T:Tc):Prop where
 vd:Vd W.kd T.tp (pgs T.pc)
 pc:∀p∈T.pc,pcK L p=true
 ln:(W.tx++txs L T.pc).length<=1048576
def apW (L:List Int) (W:Wk) (T:Tc):Wk:=⟨mkd W.kd T.tp (pgs T.pc),W.pc++T.pc,W.tx++txs L T.pc,false⟩
def Goes (L:List Int) (W:Wk) (o:Option Tc) (x:Wk × S3):Prop:=(∃T,o=some T/\Fit L W T/\x=(apW L W T,T.s))\/(x.1.bad=true/\∀T,o=some T->¬Fit L W T)
def TcIn (N:Nat) (T:Tc):Prop:=(∀n∈T.tp,2<=n/\n<N)/\∀p∈T.pc,okC false p=true
theorem ZL (a b:List C4):pgs (a++b)=pgs a++pgs b:=by simp [pgs]
theorem txs_app (L:List Int) (a b:List C4):txs L (a++b)=txs L a++txs L b:=by simp [txs]
theorem YI {N:Nat} {n:Int} (h:inR N n=true):2<=n/\n<(N:Int):=by
 unfold inR at h
 simpa using h
theorem pcK_in {L:List Int} {p:C4} (h:pcK L p=true):2<=p.a.toNat/\p.a.toNat<pgN L:=by
 unfold pcK at h;rw [jN] at h;have:=YI h.1;omega
theorem JS {L:List Int} {W:Wk} {T U:Tc} (hl:W.kd.length=pgN L) (hT:TcIn (pgN L) T) (hU:TcIn (pgN L) U):Fit L W (tcA T U)↔(Fit L W T/\Fit L (apW L W T) U):=by
 have e:W.tx++txs L (T.pc++U.pc)=(W.tx++txs L T.pc)++txs L U.pc:=by rw [txs_app,jU]
 have hb:∀n∈T.tp++U.tp,n<W.kd.length:=fun n hn=>by
  rw [hl];rcases List.mem_append.1 hn with hn|hn
  ·exact (hT.1 n hn).2
  ·exact (hU.1 n hn).2
 have hx:∀(l:List C4),(∀p∈l,pcK L p=true)->∀n∈pgs l,n<W.kd.length:=fun l h n hn=>by
  obtain ⟨p,hp,rfl⟩:=List.mem_map.1 hn;rw [hl];exact (pcK_in (h p hp)).2
 constructor
 ·rintro ⟨h1,h2,h3⟩;have a1:∀p∈T.pc,pcK L p=true:=fun p hp=>h2 p (qK _ hp)
  have a2:∀p∈U.pc,pcK L p=true:=fun p hp=>h2 p (qI _ hp)
  have hv:=(vd_two hb (fun n hn=>by rw [<-ZL] at hn;exact hx _ h2 n hn)).1 (by rw [<-ZL];exact h1);refine ⟨⟨hv.1,a1,?_⟩,⟨hv.2,a2,?_⟩⟩
  ·simp only [tcA] at h3;rw [e,jO] at h3;omega
  ·simp only [tcA] at h3;rw [e] at h3;exact h3
 ·rintro ⟨⟨h1,h2,h3⟩,⟨k1,k2,k3⟩⟩
  have hall:∀p∈T.pc++U.pc,pcK L p=true:=fun p hp=>by
   rcases List.mem_append.1 hp with hp|hp
   ·exact h2 p hp
   ·exact k2 p hp
  refine ⟨?_,hall,?_⟩
  ·simp only [tcA];rw [ZL];exact (vd_two hb (fun n hn=>by rw [<-ZL] at hn;exact hx _ hall n hn)).2 ⟨h1,k1⟩
  ·simp only [tcA];rw [e];exact k3
theorem FR {L:List Int} {W:Wk} {T U:Tc} (h:Fit L (apW L W T) U):apW L (apW L W T) U=apW L W (tcA T U):=by
 have:=mkd_two h.vd;unfold apW tcA;simp only [ZL,txs_app,jU] at this ⊢;rw [this]
def t1 (p:C4):Tc:=⟨[],[p],sm3 [p]⟩
def tN (n:Nat):Tc:=⟨[n],[],s30⟩
theorem mkd_x (kd:List Int) (n:Nat):mkd kd [] [n]=kd.set n 120:=by
 refine yV (by simp [zD]) fun i hi=>?_
 rw [zD] at hi;rw [JK hi,jA,jA,xX];by_cases h:n=i
 ·subst h;simp [hi]
 ·have h':¬i=n:=fun e=>h e.symm
  simp [h,h']
theorem mkd_t (kd:List Int) (n:Nat):mkd kd [n] []=kd.set n 116:=by
 refine yV (by simp [zD]) fun i hi=>?_
 rw [zD] at hi;rw [JK hi,jA,jA,xX];by_cases h:n=i
 ·subst h;simp [hi]
 ·have h':¬i=n:=fun e=>h e.symm
  simp [h,h']
theorem addS_0 (s:S3):addS s30 s=s:=by cases s;simp [addS,s30]
theorem addS_1 (s:S3):addS s s30=s:=by cases s;simp [addS,s30]
theorem addS_a (a b c:S3):addS (addS a b) c=addS a (addS b c):=by simp [addS,Int.add_assoc]
theorem gF (p:C4) (l:List C4):sm3 (p::l)=addS (sm3 [p]) (sm3 l):=by
 simp only [sm3,addS,qL,yB,qO,xN,List.sum_cons,List.sum_nil]
 congr 1
 ·omega
 ·omega
 ·omega
theorem wpc_goes {L:List Int} {W:Wk} {p:C4} (hl:W.kd.length=pgN L):(Fit L W (t1 p)/\wpc L W p=apW L W (t1 p))\/((wpc L W p).bad=true/\¬Fit L W (t1 p)):=by
 by_cases hk:kdB W p.a 120=true
 ·have hin:=kdB_in hk
  have hr:inR (pgN L) p.a=true:=by
   unfold inR;rw [<-hl];simp only [jN,jQ];exact hin
  have hkk:W.kd.getD p.a.toNat 0=0\/W.kd.getD p.a.toNat 0=120:=by
   unfold kdB at hk;simp only [jN,Bool.or_eq_true,beq_iff_eq] at hk;rcases hk.2.2 with h|h
   ·exact .inl h
   ·exact .inr h.2
  by_cases ht:teE (pageOf L p.a.toNat)=0/\p.b+p.c<=((teL (pageOf L p.a.toNat)).length:Int)
  ·have e:wpc L W p=⟨W.kd.set p.a.toNat 120,W.pc++[p],W.tx++seg (teL (pageOf L p.a.toNat)) p,!(lin (seg (teL (pageOf L p.a.toNat)) p)==p.d)||decide (1048576<(W.tx++seg (teL (pageOf L p.a.toNat)) p).length)⟩:=by unfold wpc;rw [if_pos hk,if_pos ht]
   have etx:txs L [p]=seg (teL (pageOf L p.a.toNat)) p:=by simp [txs,pcT]
   by_cases hd:lin (seg (teL (pageOf L p.a.toNat)) p)=p.d
   ·by_cases hm:(W.tx++seg (teL (pageOf L p.a.toNat)) p).length<=1048576
    ·left;refine ⟨⟨⟨List.nodup_nil,fun n hn=>(by cases hn),fun x hx=>?_,fun n hn=>(by cases hn)⟩,fun q hq=>?_,?_⟩,?_⟩
     ·simp only [t1,pgs,qO,xN,xT] at hx;rw [hx];exact hkk
     ·simp only [t1,xT] at hq;subst hq;unfold pcK;rw [hr,jF ht.1,jF ht.2,hd];simp
     ·simp only [t1];rw [etx];exact hm
     ·rw [e,hd,jM (by omega)];unfold apW;simp only [t1];rw [etx];simp only [pgs,qO,xN];rw [mkd_x];simp
    ·right;refine ⟨by rw [e];simp only;rw [jF (show 1048576<(W.tx++seg (teL (pageOf L p.a.toNat)) p).length by omega)];simp,fun h=>hm ?_⟩;have:=h.ln;simp only [t1] at this;rw [etx] at this;exact this
   ·right;have hd':(lin (seg (teL (pageOf L p.a.toNat)) p)==p.d)=false:=by simpa using hd
    refine ⟨by rw [e];simp only;rw [hd'];simp,fun h=>?_⟩;have:=h.pc p (by simp [t1]);unfold pcK at this;rw [hd'] at this;simp at this
  ·right;refine ⟨by unfold wpc;rw [if_pos hk,if_neg ht],fun h=>ht ?_⟩;have:=h.pc p (by simp [t1]);unfold pcK at this;simp only [jN,jQ] at this;exact ⟨this.2.1,this.2.2.1⟩
 ·right;refine ⟨by unfold wpc;rw [if_neg hk],fun h=>hk ?_⟩;have h1:=h.pc p (by simp [t1]);have h2:=h.vd.tx p.a.toNat (by simp [t1,pgs]);unfold pcK at h1;rw [jN] at h1;have h3:=YI h1.1;unfold kdB;rw [hl,jF h3.1,jF h3.2];simp only [yE,Bool.or_eq_true,jN,beq_iff_eq];rcases h2 with h2|h2
  ·exact .inl h2
  ·exact .inr ⟨trivial,h2⟩
theorem FC {L:List Int} {W:Wk} (h:W.tx.length<=1048576) (s:S3):Fit L W ⟨[],[],s⟩:=⟨⟨List.nodup_nil,fun n hn=>(by cases hn),fun n hn=>(by cases hn),fun n hn=>(by cases hn)⟩,fun n hn=>(by cases hn),(by simpa [txs] using h)⟩
theorem ap_nil {L:List Int} {W:Wk} (h:W.bad=false) (s:S3):apW L W ⟨[],[],s⟩=W:=by
 unfold apW;simp only [pgs,xN,mkd_nil,xZ,txs,List.flatMap_nil];cases W;simp only at h;subst h;rfl
theorem lf_goes {L:List Int}:∀(l:List C4) (W:Wk) (s:S3),(∀p∈l,okC false p=true)->W.bad=false->W.kd.length=pgN L->W.tx.length<=1048576->
  (Fit L W ⟨[],l,sm3 l⟩/\lfGo L l (W,s)=(apW L W ⟨[],l,sm3 l⟩,addS s (sm3 l)))\/((lfGo L l (W,s)).1.bad=true/\¬Fit L W ⟨[],l,sm3 l⟩):=by
 intro l
 induction l with
 |nil=>
  intro W s _ hb hl ht;exact .inl ⟨FC ht _,by rw [ap_nil hb];show (W,s)=_;rw [show sm3 []=s30 from rfl,addS_1]⟩
 |cons p l ih=>
  intro W s ho hb hl ht
  have e:lfGo L (p::l) (W,s)=lfGo L l (wpc L W p,addS s (sm3 [p])):=by
   rw [lfGo,if_neg (by rw [hb];simp)]
   congr 2
   simp [addS,sm3]
  have eT:(⟨[],p::l,sm3 (p::l)⟩:Tc)=tcA (t1 p) ⟨[],l,sm3 l⟩:=by
   unfold tcA t1;rw [gF];rfl
  have h1:TcIn (pgN L) (t1 p):=⟨fun n hn=>(by cases hn),fun q hq=>ho q (by simp [t1] at hq;rw [hq];simp)⟩;have h2:TcIn (pgN L) ⟨[],l,sm3 l⟩:=⟨fun n hn=>(by cases hn),fun q hq=>ho q (jL _ hq)⟩;rw [e,eT,JS hl h1 h2];rcases wpc_goes (p:=p) hl with ⟨f,g⟩|⟨f,g⟩
  ·rw [g];have hlen:(apW L W (t1 p)).kd.length=pgN L:=by unfold apW;rw [zD];exact hl
   rcases ih (apW L W (t1 p)) (addS s (sm3 [p])) (fun q hq=>ho q (jL _ hq)) rfl hlen f.ln with ⟨k1,k2⟩|⟨k1,k2⟩
   ·left;refine ⟨⟨f,k1⟩,?_⟩;rw [k2,FR k1,addS_a,<-gF]
   ·exact .inr ⟨k1,fun h=>k2 h.2⟩
  ·right;refine ⟨?_,fun h=>g h.1⟩;rw [GD (x:=(wpc L W p,addS s (sm3 [p]))) f];exact f
theorem FV {L:List Int} {W:Wk} {n:Int} (hW:W.bad=false) (hl:W.kd.length=pgN L) (ht:W.tx.length<=1048576):(inR (pgN L) n=true/\Fit L W (tN n.toNat)/\wpg W n 116=apW L W (tN n.toNat))\/((wpg W n 116).bad=true/\¬(inR (pgN L) n=true/\Fit L W (tN n.toNat))):=by
 by_cases hk:kdB W n 116=true
 ·left;have hin:=kdB_in hk
  have h0:W.kd.getD n.toNat 0=0:=by
   unfold kdB at hk;simp only [jN,Bool.or_eq_true,beq_iff_eq] at hk;rcases hk.2.2 with h|h
   ·exact h
   ·exact absurd h.1 (by decide)
  refine ⟨by unfold inR;rw [<-hl];simp only [jN,jQ];exact hin,⟨⟨?_,fun m hm=>?_,fun x hx=>(by cases hx),fun m hm hx=>(by cases hx)⟩,fun q hq=>(by cases hq),?_⟩,?_⟩
  ·simp [tN]
  ·simp only [tN,xT] at hm;rw [hm];exact h0
  ·simpa [tN,txs] using ht
  ·rw [wpg_yes hk];unfold apW tN;simp only [pgs,xN,mkd_t,xZ,txs,List.flatMap_nil];cases W;simp only at hW;subst hW;rfl
 ·right;have hk':kdB W n 116=false:=by simpa using hk
  refine ⟨by rw [wpg_no hk'],fun ⟨h1,h2⟩=>hk ?_⟩;have h3:=YI h1;have h4:=h2.vd.tr n.toNat (by simp [tN]);unfold kdB;rw [hl,jF h3.1,jF h3.2,h4];simp
theorem YP {N:Nat} {g:Int->Option Tc} (hg:∀n T,g n=some T->TcIn N T):∀(l:List C4) (T:Tc),tcK g l=some T->TcIn N T:=by
 intro l
 induction l with
 |nil=>
  intro T h;unfold tcK at h;simp only [jP] at h;subst h;exact ⟨fun n hn=>(by cases hn),fun n hn=>(by cases hn)⟩
 |cons k l ih=>
  intro T h;unfold tcK at h;split at h
  ·cases h
  ·next x hx=>
   split at h
   ·split at h
    ·cases h
    ·next y hy=>
     simp only [jP] at h;subst h;obtain ⟨a1,a2⟩:=hg _ _ hx;obtain ⟨b1,b2⟩:=ih _ hy;refine ⟨fun n hn=>?_,fun p hp=>?_⟩
     ·rcases List.mem_append.1 hn with hn|hn
      ·exact a1 n hn
      ·exact b1 n hn
     ·rcases List.mem_append.1 hp with hp|hp
      ·exact a2 p hp
      ·exact b2 p hp
   ·cases h
theorem tcT_in {L:List Int} (hL:Bys L):∀(lv:Nat) (root:Bool) (n:Int) (T:Tc),tcT L lv root n=some T->TcIn (pgN L) T:=by
 intro lv
 induction lv with
 |zero=>
  intro root n T h;unfold tcT at h;split at h
  ·next hc=>
   simp only [jP] at h;subst h;rw [jN] at hc;have:=YI hc.1;refine ⟨fun m hm=>?_,(reL_bd (t:=false) (JE hL n.toNat)).2⟩;simp only [xT] at hm;omega
  ·cases h
 |succ lv ih=>
  intro root n T h;unfold tcT at h;split at h
  ·next hc=>
   split at h
   ·cases h
   ·next y hy=>
    simp only [jP] at h;subst h;rw [jN] at hc;have:=YI hc.1;obtain ⟨b1,b2⟩:=YP (fun n T=>ih false n T) _ _ hy;refine ⟨fun m hm=>?_,b2⟩;rcases List.mem_cons.1 hm with rfl|hm
    ·omega
    ·exact b1 m hm
  ·cases h
theorem kd_goes {L:List Int} {f:Int->Wk->Wk × S3} {g:Int->Option Tc} (hg:∀n T,g n=some T->TcIn (pgN L) T) (hf:∀n W,W.bad=false->W.kd.length=pgN L->W.tx.length<=1048576->Goes L W (g n) (f n W)):∀(l:List C4) (W:Wk) (s:S3),W.bad=false->W.kd.length=pgN L->W.tx.length<=1048576->
  (∃T,tcK g l=some T/\Fit L W T/\kdGo f l (W,s)=(apW L W T,addS s T.s))\/((kdGo f l (W,s)).1.bad=true/\∀T,tcK g l=some T->¬Fit L W T):=by
 intro l
 induction l with
 |nil=>
  intro W s hb hl ht;refine .inl ⟨tc0,rfl,FC ht _,?_⟩;rw [show tc0=⟨[],[],s30⟩ from rfl,ap_nil hb,addS_1];rfl
 |cons k l ih=>
  intro W s hb hl ht
  have e:kdGo f (k::l) (W,s)=kdGo f l (kdW (f k.a W) k,addS s (f k.a W).2):=by
   rw [kdGo_cons,if_neg (by rw [hb];simp)]
  rw [e];rcases hf k.a W hb hl ht with ⟨T,h1,h2,h3⟩|⟨h1,h2⟩
  ·have eK:tcK g (k::l)=if kdQ T.s k=true then (match tcK g l with|none=>none|some y=>some (tcA T y)) else none:=by
    first|(rw [tcK,h1];done)|(rw [tcK,h1];rfl)
   rw [eK,h3];by_cases hq:kdQ T.s k=true
   ·rw [if_pos hq]
    have eW:kdW (apW L W T,T.s) k=apW L W T:=by
     unfold kdW;rw [hq];simp [apW]
    rw [eW];have hlen:(apW L W T).kd.length=pgN L:=by unfold apW;rw [zD];exact hl
    rcases ih (apW L W T) (addS s T.s) rfl hlen h2.ln with ⟨U,k1,k2,k3⟩|⟨k1,k2⟩
    ·left;refine ⟨tcA T U,by rw [k1],(JS hl (hg _ _ h1) (YP hg _ _ k1)).2 ⟨h2,k2⟩,?_⟩;rw [k3,FR k2,addS_a];rfl
    ·right;refine ⟨k1,fun V hV hF=>?_⟩;split at hV
     ·cases hV
     ·next U hU=>
      simp only [jP] at hV;subst hV;exact k2 U hU ((JS hl (hg _ _ h1) (YP hg _ _ hU)).1 hF).2
   ·rw [if_neg hq];right;refine ⟨?_,fun V hV=>(by cases hV)⟩;have hq':kdQ T.s k=false:=by simpa using hq
    have hbad:(kdW (apW L W T,T.s) k).bad=true:=by unfold kdW;rw [hq'];simp
    rw [VH (x:=(kdW (apW L W T,T.s) k,addS s T.s)) hbad];exact hbad
  ·right;have hbad:(kdW (f k.a W) k).bad=true:=by unfold kdW;rw [h1];simp
   refine ⟨?_,fun V hV hF=>?_⟩
   ·rw [VH (x:=(kdW (f k.a W) k,addS s (f k.a W).2)) hbad];exact hbad
   ·unfold tcK at hV;split at hV
    ·cases hV
    ·next T hT=>
     split at hV
     ·split at hV
      ·cases hV
      ·next U hU=>
       simp only [jP] at hV;subst hV;exact h2 T hT ((JS hl (hg _ _ hT) (YP hg _ _ hU)).1 hF).1
     ·cases hV
theorem kL (n:Nat) (y:Tc):tcA (tN n) y=⟨n::y.tp,y.pc,y.s⟩:=by
 unfold tcA tN;rw [addS_0];rfl
theorem kP {N:Nat} {n:Int} (h:inR N n=true):TcIn N (tN n.toNat):=by
 have:=YI h;refine ⟨fun m hm=>?_,fun p hp=>(by cases hp)⟩;simp only [tN,xT] at hm;omega
theorem wtr_goes {L:List Int} (hL:Bys L):∀(lv:Nat) (root:Bool) (n:Int) (W:Wk),W.bad=false->W.kd.length=pgN L->W.tx.length<=1048576->Goes L W (tcT L lv root n) (wtr L lv root n W):=by
 intro lv
 induction lv with
 |zero=>
  intro root n W hb hl ht;rcases FV (n:=n) hb hl ht with ⟨h1,h2,h3⟩|⟨h1,h2⟩
  ·have hg:(wpg W n 116).bad=false:=by rw [h3];rfl
   have hlen:(apW L W (tN n.toNat)).kd.length=pgN L:=by unfold apW;rw [zD];exact hl
   unfold wtr tcT;rw [if_neg (c:=(wpg W n 116).bad=true) (by rw [hg];simp),h1,h3];unfold wlf;cases hlf:lfB (pageOf L n.toNat) root with
   |true=>
    right;rw [GD (x:=({apW L W (tN n.toNat) with bad:=(apW L W (tN n.toNat)).bad||true},s30)) (by simp)];refine ⟨by simp,fun T hT=>by simp at hT⟩
   |false=>
    have hr:=reL_bd (t:=false) (JE hL n.toNat);have eb:({apW L W (tN n.toNat) with bad:=(apW L W (tN n.toNat)).bad||false}:Wk)=apW L W (tN n.toNat):=rfl;rw [eb];have hU:TcIn (pgN L) ⟨[],reL false (pageOf L n.toNat),sm3 (reL false (pageOf L n.toNat))⟩:=⟨fun n hn=>(by cases hn),hr.2⟩;have eA:=kL n.toNat ⟨[],reL false (pageOf L n.toNat),sm3 (reL false (pageOf L n.toNat))⟩;simp only at eA;rcases lf_goes (L:=L) (reL false (pageOf L n.toNat)) (apW L W (tN n.toNat)) s30 hr.2 rfl hlen h2.ln with ⟨k1,k2⟩|⟨k1,k2⟩
    ·left;refine ⟨⟨[n.toNat],reL false (pageOf L n.toNat),sm3 (reL false (pageOf L n.toNat))⟩,rfl,?_,?_⟩
     ·rw [<-eA];exact (JS hl (kP h1) hU).2 ⟨h2,k1⟩
     ·rw [k2,FR k1,eA,addS_0]
    ·right;refine ⟨k1,fun T hT hF=>?_⟩;simp only [Bool.not_false,Bool.and_self,if_true,jP] at hT;subst hT;rw [<-eA] at hF;exact k2 ((JS hl (kP h1) hU).1 hF).2
  ·right;unfold wtr;rw [if_pos h1];refine ⟨h1,fun T hT hF=>h2 ?_⟩;unfold tcT at hT;split at hT
   ·next hc=>
    simp only [jP] at hT;subst hT;rw [jN] at hc;have hr:=reL_bd (t:=false) (JE hL n.toNat);have hU:TcIn (pgN L) ⟨[],reL false (pageOf L n.toNat),sm3 (reL false (pageOf L n.toNat))⟩:=⟨fun n hn=>(by cases hn),hr.2⟩;have eA:=kL n.toNat ⟨[],reL false (pageOf L n.toNat),sm3 (reL false (pageOf L n.toNat))⟩;simp only at eA;rw [<-eA] at hF;exact ⟨hc.1,((JS hl (kP hc.1) hU).1 hF).1⟩
   ·cases hT
 |succ lv ih=>
  intro root n W hb hl ht;have hgi:∀n T,tcT L lv false n=some T->TcIn (pgN L) T:=fun n T=>tcT_in hL lv false n T
  rcases FV (n:=n) hb hl ht with ⟨h1,h2,h3⟩|⟨h1,h2⟩
  ·have hg:(wpg W n 116).bad=false:=by rw [h3];rfl
   have hlen:(apW L W (tN n.toNat)).kd.length=pgN L:=by unfold apW;rw [zD];exact hl
   unfold wtr tcT;rw [if_neg (c:=(wpg W n 116).bad=true) (by rw [hg];simp),h1,h3];cases hlf:inB3 (pageOf L n.toNat) (lv+1) root with
   |true=>
    right;rw [VH (x:=({apW L W (tN n.toNat) with bad:=(apW L W (tN n.toNat)).bad||true},s30)) (by simp)];refine ⟨by simp,fun T hT=>by simp at hT⟩
   |false=>
    have eb:({apW L W (tN n.toNat) with bad:=(apW L W (tN n.toNat)).bad||false}:Wk)=apW L W (tN n.toNat):=rfl;rw [eb];rcases kd_goes (L:=L) hgi (fun n W=>ih false n W) (reL true (pageOf L n.toNat)) (apW L W (tN n.toNat)) s30 rfl hlen h2.ln with ⟨U,k0,k1,k2⟩|⟨k1,k2⟩
    ·left;refine ⟨⟨n.toNat::U.tp,U.pc,U.s⟩,by simp [k0],?_,?_⟩
     ·rw [<-kL];exact (JS hl (kP h1) (YP hgi _ _ k0)).2 ⟨h2,k1⟩
     ·rw [k2,FR k1,kL,addS_0]
    ·right;refine ⟨k1,fun T hT hF=>?_⟩;simp only [Bool.not_false,Bool.and_self,if_true] at hT;split at hT
     ·cases hT
     ·next U hU=>
      simp only [jP] at hT;subst hT;rw [<-kL] at hF;exact k2 U hU ((JS hl (kP h1) (YP hgi _ _ hU)).1 hF).2
  ·right;unfold wtr;rw [if_pos h1];refine ⟨h1,fun T hT hF=>h2 ?_⟩;unfold tcT at hT;split at hT
   ·next hc=>
    rw [jN] at hc;split at hT
    ·cases hT
    ·next U hU=>
     simp only [jP] at hT;subst hT;rw [<-kL] at hF;exact ⟨hc.1,((JS hl (kP hc.1) (YP hgi _ _ hU)).1 hF).1⟩
   ·cases hT
end Go.Proofs.YtaijfhadecennabGreat.Oct
