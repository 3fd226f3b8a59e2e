/- Part of a proof. -/
import Derived.Test.YtaijfhadecennabGreatSj
import Derived.Test.YtaijfhadecennabGreatKo
import Derived.Test.YtaijfhadecennabGreatIb
import Derived.Laws.IdiomRangeMap
import Derived.Test.YtaijfhadecennabGreatRn
open Go.Proofs.Tryz
set_option maxHeartbeats 4000000
namespace Go.Proofs.YtaijfhadecennabGreat.Oct.Sx
open Go.RowKit
theorem check_ok (w:World):Calls prog 88 #[.int .i64 0] w fun e w'=>e=.returned (.tuple #[])/\w=w':=by
 go_enter func88,ntmps88
 go_wp2;go_end0
 exact ⟨rfl,rfl⟩
theorem check_no (k:Int) (hk:¬k=0) (w:World):Calls prog 88 #[.int .i64 k] w fun e w'=>e=thrown k/\w=w':=by
 have h1:(k==0)=false:=by simpa using hk
 have h2:(k !=0)=true:=by unfold bne;rw [h1];rfl
 go_enter func88,ntmps88
 go_wp2;exact ⟨rfl,rfl,rfl⟩
theorem held_nil (w:World) (s:Nat) (h:w.cell? ⟨s,15,none⟩=some (.map none)):Calls prog 130 #[.pointer (some ⟨s,0,none⟩)] w fun e w'=>e=.returned (.slice none 0 0)/\Below w.heap.size w w':=by
 have hrg:∀wx:World,(Instr.range 89 (.map none)).run prog wx=_:=fun wx=>run_range_nilMap wx 89 _ _ underlying89
 have hnx:=fun ty=>run_next_nilMap (P:=prog) w ty 0 0 #[]
 go_enter func130,ntmps130
 go_wp2_with fail
 refine wp_loop_rounds 1 ?_;rw [rounds_succ];go_wp2;go_ret
 exact ⟨rfl,(Below.refl _ w).alloc (jB _) _⟩
set_option maxRecDepth 20000 in
theorem XR {w:World} {q:Nat} {F:Nat->Prop} {P:List Int} (h:Sps.Spa w q F P) (a:Option Addr) (cap n:Nat) (l:List Int) (hl:RowI w a cap l) (hn:l.length=n) (hz:∀z∈l,0<=z/\z<=4096) (ha:∀k,obl a k->k<w.heap.size/\¬F k):
  Calls prog 94 #[.pointer (some ⟨q,0,none⟩),.slice a n cap] w fun e w'=>e=.returned (.tuple #[])/\∃F',Sps.Spa w' q F' (gvA P l)/\Step F F' w w':=by
 have hcap:=hl.1;have hmx:=hl.2.1;unfold maxLen at hmx;have HL:Hid (RowI w a cap l/\(∀z∈l,0<=z/\z<=4096)/\∀k,obl a k->k<w.heap.size/\¬F k):=⟨hl,hz,ha⟩;have HN:Hid (l.length=n):=hn;have H0:Hid (Sps.Spa w q F P):=h;rw [hn] at hcap;clear h hl hz ha hn;go_enter func94,ntmps94
 go_wp2_with fail
 go_loopg [8] n (fun gh i wr=>∃k:Nat,k<=n/\gh=n-k/\i=.int .i64 (k:Int)/\Hid (∃F',Sps.Spa wr q F' (gvA P (l.take k))/\Step F F' w wr))
 case atStart=>exact ⟨0,jW _,rfl,rfl,F,by rw [List.take_zero];exact H0.out,Step.refl F w⟩
 case round=>
  clear H0;obtain ⟨k,hk,hgk,rfl,HI⟩:=hrel;have HGK:Hid (gk=n-k):=hgk;clear hgk;by_cases hlt:k<n
  ·obtain ⟨F',hI,st⟩:=HI.out;obtain ⟨b,off,rfl,hc⟩:=HL.out.1.at' k (by rw [HN.out];exact hlt);have hb:=HL.out.2.2 b ⟨_,rfl,rfl⟩;have hc':wr.cell? ⟨b,off+k,none⟩=some (.int .i64 (l.getD k 0)):=(st.1.cell (p:=⟨b,off+k,none⟩) hb.1 hb.2).trans hc;obtain ⟨z,hz⟩:∃z,l.getD k 0=z:=⟨_,rfl⟩;rw [hz] at hc';have hgv:=Sps.give_any hI z;have hzm:0<=z/\z<=4096:=HL.out.2.1 z (by rw [<-hz,jA,jC (by rw [HN.out];exact hlt)];exact qA _)
   have HZ:Hid (l.take (k+1)=l.take k++[z]):=by
    show _=_;rw [xK,<-hz,jA,jC (by rw [HN.out];exact hlt)];rfl
   have HST:Hid (Step F F' w wr):=st;clear hI st hc hb hz HI;go_wp2_with fail
   refine hgv.mono ?_;clear hgv;rintro e w1 ⟨rfl,F2,h2,st2⟩;have H2:Hid (∃F',Sps.Spa w1 q F' (gvA P (l.take (k+1)))/\Step F F' w w1):=⟨F2,by rw [HZ.out];unfold gvA;rw [List.foldl_append];exact h2,HST.out.trans st2⟩;clear h2 st2;go_wp2;go_roundg (n-(k+1))
   case rel=>exact ⟨k+1,by omega,rfl,by go_num,H2.out⟩
   case measure=>have:=HGK.out;omega
  ·obtain rfl:k=n:=by omega
   have HE:Hid (∃F',Sps.Spa wr q F' (gvA P l)/\Step F F' w wr):=by
    have:=HI.out;rw [qP (by rw [HN.out];exact jB _)] at this;exact this
   clear HI;go_wp2;go_end0
   exact ⟨rfl,HE.out⟩
def TkI (w wr:World) (q:Nat) (F:Nat->Prop) (P:List Int) (k:Nat) (v:Value):Prop:=
 ∃F',Sps.Spa wr q F' (tkS k P)/\Step F F' w wr/\OwnI w.heap.size wr v (tkG k P)/\(∀g,v.ownBlock=some g->¬F' g)/\k<=P.count 0
theorem TkI.app {w w1 w5:World} {q:Nat} {F F2:Nat->Prop} {P:List Int} {k:Nat} {v:Value} {o:Obj} {g cap:Nat} {z:Int} (hs:Sps.Spa w1 q F2 (tkS (k+1) P)) (st:Step F F2 w w1) (hown:OwnI w.heap.size w1 v (tkG k P)) (hn:∀g,v.ownBlock=some g->¬F2 g) (hk:k<P.count 0) (hz:z=alN (tkS k P))
  (ho:OwnI 0 w5 (.slice (some ⟨g,0,none⟩) ((tkG k P).length+1) cap) (tkG k P++[z])) (hgr:(w1.alloc o).grownBy w5 v.ownBlock) (hat:v.ownBlock=some g\/g=w1.heap.size+1):TkI w w5 q F P (k+1) (.slice (some ⟨g,0,none⟩) ((tkG k P).length+1) cap):=by
 have hlt:=zM hs;have c1:Ch w1.heap.size (fun x=>v.ownBlock=some x) w1 w5:=((Ch.refl _ _ w1).alloc (jB _) o).grown hgr (by rw [JX];omega) (fun x hx=>.inr hx);have hbase:∀x,v.ownBlock=some x->w.heap.size<=x:=fun x hx=>(World.ownsRow.lt hown x hx).1
 have hsz:=st.1.size;refine ⟨F2,yZ hs c1.size (fun x hx=>c1.block x (hlt x hx) (fun e=>hn x e hx)),⟨st.1.trans (c1.mono hsz (fun x hx e=>absurd hx (Nat.not_lt.2 (hbase x e)))),st.2⟩,?_,?_,hk⟩
 ·rw [tkG,<-hz];refine yS ho (fun x hx=>?_);have e:g=x:=by simpa [Value.ownBlock] using hx
  subst e;rcases hat with e|e
  ·exact hbase _ e
  ·omega
 ·intro x hx e2;have e:g=x:=by simpa [Value.ownBlock] using hx
  subst e;rcases hat with e|e
  ·exact hn _ e e2
  ·have:=hlt _ e2;omega
set_option maxRecDepth 20000 in
theorem take_any {w:World} {q:Nat} {F:Nat->Prop} {P:List Int} (h:Sps.Spa w q F P) (n:Nat) (hn:n<=5000):
  Calls prog 123 #[.pointer (some ⟨q,0,none⟩),.int .i64 n] w fun e w'=>(∃F',(∃P',Sps.Spa w' q F' P')/\Step F F' w w')/\
   ((n<=P.count 0/\∃a c,e=.returned (.tuple #[.slice a n c,.int .i64 0])/\OwnI w.heap.size w' (.slice a n c) (tkG n P)/\∃F',Sps.Spa w' q F' (tkS n P)/\Step F F' w w'/\∀k,obl a k->¬F' k)\/
    (¬n<=P.count 0/\e=.returned (.tuple #[.slice none 0 0,.int .i64 6]))):=by
 obtain ⟨i0,hi0,hz0,hz1,hz2⟩:=info_parts info3;have H0:Hid (Sps.Spa w q F P):=h;have HFl:Hid (∀k,F k->k<w.heap.size):=zM h;clear h;go_enter func123,ntmps123
 go_wp2_with (at_make;refine wpList_make_own _ rfl _ _ 38 rfl w.heap.size 3 i0 (.int .i64 0) 1 underlying38 hi0 hz0 hz1 .i64 .i64 _ n rfl rfl rfl (by rw [hz2];omega) (by unfold maxLen;omega) (jB _) ?_;intro w1 hown1 hgrow1;have HO:Hid (_/\_):=⟨hown1,hgrow1⟩;clear hown1 hgrow1)
 have HT0:Hid (TkI w w1 q F P 0 (.slice (some ⟨w.heap.size,0,none⟩) 0 n)):=by
  obtain ⟨h1,h2⟩:=HO.out;have hb:Below w.heap.size w w1:=(Below.refl _ w).grown h2 (jB _) (fun x hx=>(by cases hx));refine ⟨F,yZ H0.out hb.size (fun x hx=>hb.block x (HFl.out x hx)),Step.ofB hb,h1,fun x hx e=>?_,jW _⟩;have e2:w.heap.size=x:=by simpa [Value.ownBlock] using hx
  have:=HFl.out x e;omega
 clear HO;go_loopg [6,12] n (fun gh v i wr=>∃k:Nat,k<=n/\gh=n-k/\i=.int .i64 (k:Int)/\Hid (TkI w wr q F P k v))
 case atStart=>exact ⟨0,jW _,rfl,rfl,HT0.out⟩
 case round=>
  clear HT0;obtain ⟨k,hk,hgk,rfl,HI⟩:=hrel;have HGK:Hid (gk=n-k):=hgk;clear hgk;obtain ⟨oa,oc,hv,hrow⟩:∃a cap,u6=.slice a (tkG k P).length cap/\RowI wr a cap (tkG k P):=by obtain ⟨F',h1,h2,h3,h4⟩:=HI.out;exact h3.row
  rw [yU] at hv;subst hv;have hoc:=hrow.2.1;have hoc2:=hrow.1;rw [yU] at hoc2;unfold maxLen at hoc;by_cases hlt:k<n
  ·obtain ⟨F',h1,h2,h3,h4,h5⟩:=HI.out;have hal:=Sps.alloc_any h1;have H1:Hid (Sps.Spa wr q F' (tkS k P)/\Step F F' w wr/\OwnI w.heap.size wr (.slice oa k oc) (tkG k P)/\(∀g,(Value.slice oa k oc).ownBlock=some g->¬F' g)):=⟨h1,h2,h3,h4⟩;have HE:Hid (alE (tkS k P)=if k<P.count 0 then 0 else 6):=tk_room h5;obtain ⟨z,hz⟩:∃z,alN (tkS k P)=z:=⟨_,rfl⟩;obtain ⟨x,hx⟩:∃x,alE (tkS k P)=x:=⟨_,rfl⟩;rw [hz,hx] at hal;rw [hx] at HE;have HZ:Hid (z=alN (tkS k P)):=hz.symm;clear h1 h2 h3 h4 hz hx HI hrow;by_cases hroom:k<P.count 0
   ·obtain rfl:x=0:=by have:=HE.out;rw [if_pos hroom] at this;exact this
    go_wp2_with (first|(go_at_call 166;refine hal.mono ?_;rintro e w2 ⟨rfl,hF2⟩;have H2:Hid (∃F2,Sps.Spa w2 q F2 (alL (tkS k P))/\Step F' F2 wr w2):=hF2;clear hF2 hal;have HO2:Hid (OwnI w.heap.size w2 (.slice oa k oc) (tkG k P)):=(by obtain ⟨F2,s1,s2⟩:=H2.out;exact yN H1.out.2.2.1 (fun g hg=>s2.1.block g (World.ownsRow.lt H1.out.2.2.1 g hg).2 (H1.out.2.2.2 g hg))))|(at_builtin;refine appL w2 rfl _ _ rfl (.slice oa k oc) (tkG k P) z rfl (yS HO2.out (fun _ _=>jW _)) rfl (by rw [yU];omega) ?_;intro g5 cap5 w5 ho5 hg5 ht5 hl5;rw [yU] at ho5;have H5:Hid (OwnI 0 w5 (.slice (some ⟨g5,0,none⟩) (k+1) cap5) (tkG k P++[z])/\(w2.alloc (.cells #[.int .i64 z] 3)).grownBy w5 (Value.slice oa k oc).ownBlock/\((Value.slice oa k oc).ownBlock=some g5\/g5=w2.heap.size+1)):=⟨ho5,hg5,ht5⟩;clear ho5 hg5 ht5 hl5;have hgl:(tkG k P).length=k:=yU k P;rw [hgl];clear hgl))
    go_roundg (n-(k+1))
    case rel=>
     refine ⟨k+1,by omega,rfl,by go_num,?_⟩;obtain ⟨F2,s1,s2⟩:=H2.out;obtain ⟨t1,t2,t3,t4⟩:=H1.out;obtain ⟨o5,g5',a5⟩:=H5.out;have o6:=TkI.app (v:=.slice oa k oc) (z:=z) (cap:=cap5) (g:=g5) (P:=P) (k:=k) s1 (t2.trans s2) HO2.out (fun g hg=>s2.notin (World.ownsRow.lt t3 g hg).2 (t4 g hg)) hroom HZ.out (by rw [yU];exact o5) g5' a5;rw [yU] at o6;exact o6
    case measure=>have:=HGK.out;omega
   ·obtain rfl:x=6:=by have:=HE.out;rw [if_neg hroom] at this;exact this
    go_wp2_with (first|(go_at_call 166;refine hal.mono ?_;rintro e w2 ⟨rfl,hF2⟩;have H2:Hid (∃F2,Sps.Spa w2 q F2 (alL (tkS k P))/\Step F' F2 wr w2):=hF2;clear hF2 hal))
    go_ret2
    obtain ⟨F2,s1,s2⟩:=H2.out;exact ⟨⟨F2,⟨_,s1⟩,H1.out.2.1.trans s2⟩,.inr ⟨by omega,rfl⟩⟩
  ·obtain rfl:k=n:=by omega
   have HE:Hid (TkI w wr q F P k (.slice oa k oc)):=HI.out;clear HI hrow;go_wp2_with fail
   go_ret2
   obtain ⟨F',h1,h2,h3,h4,h5⟩:=HE.out;exact ⟨⟨F',⟨_,h1⟩,h2⟩,.inl ⟨h5,oa,oc,rfl,h3,F',h1,h2,fun k hk=>h4 k (zC hk)⟩⟩
end Go.Proofs.YtaijfhadecennabGreat.Oct.Sx
namespace Go.Proofs.YtaijfhadecennabGreat.Oct.Sx
open Go.RowKit
def Agr (B:Nat) (lab lab':Nat->Nat):Prop:=∀k,k<B->lab' k=lab k
theorem Agr.relab (B i:Nat) (lab:Nat->Nat):Agr B lab (relab lab B i):=fun _ h=>yW h
def SpaL (w:World) (q:Nat) (P:List Int) (lab:Nat->Nat) (i:Nat):Prop:=∃F,Sps.Spa w q F P/\∀k,F k->lab k=i
def RowL (w:World) (a:Option Addr) (n c:Nat) (zs:List Int) (lab:Nat->Nat) (i:Nat):Prop:=OwnI 0 w (.slice a n c) zs/\∀k,obl a k->lab k=i
def UsR (w:World) (a:Option Addr) (c:Nat) (zs:List Int) (lab:Nat->Nat):Prop:=Row w a c zs/\(zs=[]\/∃x,a=some x/\10<=lab x.block/\x.block<w.heap.size)
section
variable {w w' w0:World} {lab lab':Nat->Nat} {i j:Nat}
theorem SpaL.keep {q:Nat} {P:List Int} (h:SpaL w q P lab i) (t:Trn lab j w w') (hne:i≠j) (g:Agr w.heap.size lab lab'):SpaL w' q P lab' i:=by
 obtain ⟨F,h1,h2⟩:=h;have hl:=zM h1;exact ⟨F,yZ h1 t.size (fun k hk=>t.block (hl k hk) (by rw [h2 k hk];exact hne)),fun k hk=>by rw [g k (hl k hk)];exact h2 k hk⟩
theorem RowL.keep {a:Option Addr} {n c:Nat} {zs:List Int} (h:RowL w a n c zs lab i) (t:Trn lab j w w') (hne:i≠j) (g:Agr w.heap.size lab lab'):RowL w' a n c zs lab' i:=by
 have hl:∀k,obl a k->k<w.heap.size:=fun k hk=>(World.ownsRow.lt h.1 k (zC hk)).2
 exact ⟨OwnI.keepO h.1 (fun k hk=>t.block (hl k hk) (by rw [h.2 k hk];exact hne)),fun k hk=>by rw [g k (hl k hk)];exact h.2 k hk⟩
theorem UsR.keep {a:Option Addr} {c:Nat} {zs:List Int} (h:UsR w a c zs lab) (t:Trn lab j w w') (hj:j<=9) (g:Agr w.heap.size lab lab'):UsR w' a c zs lab':=by
 obtain ⟨h1,h2⟩:=h;rcases h2 with e|⟨x,e,h3,h4⟩
 ·exact ⟨⟨h1.1,h1.2.1,h1.2.2.1,.inl e⟩,.inl e⟩
 ·refine ⟨⟨h1.1,h1.2.1,h1.2.2.1,?_⟩,.inr ⟨x,e,by rw [g _ h4];exact h3,jV h4 t.size⟩⟩;rcases h1.2.2.2 with e2|⟨b,off,e2,hc⟩
  ·exact .inl e2
  ·rw [e] at e2;cases e2;exact .inr ⟨b,off,e,fun k hk=>(World.cell?_of_block (w:=w) (t.block (k:=b) h4 (by simp only at h3;omega))).trans (hc k hk)⟩
structure LbC (w0 w:World) (F0:Nat->Prop) (lab:Nat->Nat):Prop where
 old:∀k,lab k<=9->F0 k\/w0.heap.size<=k
 ch:Ch w0.heap.size F0 w0 w
theorem LbC.turn {F0:Nat->Prop} (h:LbC w0 w F0 lab) (t:Trn lab j w w') (hj:j<=9) (g:Agr w.heap.size lab lab'):LbC w0 w' F0 lab':=by
 have hs:=h.ch.size;refine ⟨fun k hk=>?_,h.ch.trans (t.mono hs (fun k hk e=>?_))⟩
 ·by_cases hlt:k<w.heap.size
  ·rw [g k hlt] at hk;exact h.old k hk
  ·exact .inr (by omega)
 ·rcases h.old k (by omega) with e2|e2
  ·exact e2
  ·omega
theorem LbC.base {w1:World} {F0:Nat->Prop} (h:LbC w1 w (fun k=>lab' k<=9) lab) (h0:LbC w0 w1 F0 lab'):LbC w0 w F0 lab:=by
 have hs:=h0.ch.size;refine ⟨fun k hk=>?_,h0.ch.trans (h.ch.mono hs (fun k hk e=>?_))⟩
 ·rcases h.old k hk with e|e
  ·exact h0.old k e
  ·exact .inr (by omega)
 ·rcases h0.old k e with e2|e2
  ·exact e2
  ·omega
section
variable {s d p sp c cC:Nat} {aC:Option Addr} {X:St}
theorem StoC.keepL (h:StoC w s d p sp aC cC lab X) (hi:4<=i) (t:Trn lab i w w') (g:Agr w.heap.size lab lab'):StoC w' s d p sp aC cC lab' X:=by
 obtain ⟨F1,p1,p2⟩:=h.pool;obtain ⟨F2,q1,q2⟩:=h.space;have l1:=p1.lt;have l2:=zM q1;have kp:∀k,k<w.heap.size->lab k<=3->w'.heap[k]?=w.heap[k]?:=fun k hk hl=>t.block hk (by omega)
 have hlt:=h.lt;have hcl:∀k,obl aC k->k<w.heap.size:=fun k hk=>(World.ownsRow.lt h.ch k (zC hk)).2
 exact ⟨(kp s hlt (by rw [h.l0];omega)).trans h.cells,by rw [g _ hlt];exact h.l0,⟨F1,p1.keep t.size (fun k hk=>kp k (l1 k hk) (by rw [p2 k hk];omega)),fun k hk=>by rw [g _ (l1 k hk)];exact p2 k hk⟩,
  ⟨F2,yZ q1 t.size (fun k hk=>kp k (l2 k hk) (by rw [q2 k hk];omega)),fun k hk=>by rw [g _ (l2 k hk)];exact q2 k hk⟩,
  yN h.ch (fun k hk=>kp k (hcl k (yX hk)) (by rw [h.lc k (yX hk)];omega)),fun k hk=>by rw [g _ (hcl k hk)];exact h.lc k hk⟩
def cmC (s:Nat) (vS:Value) (S:Sp) (vC vT vB:Value) (bg:Bool):Array Value:= #[.pointer (some ⟨s,0,none⟩),vS,.int .i64 S.g,.int .i64 S.p,.int .i64 S.r,.int .i64 S.h,.int .i64 S.b,.int .i64 S.l,.int .i64 S.s,.int .i64 S.f,vC,vT,vB,.bool bg]
structure CmC (w0 w:World) (F0:Nat->Prop) (s d p sp c:Nat) (aC:Option Addr) (cC:Nat) (lab:Nat->Nat) (X:St) (aS:Option Addr) (cS:Nat) (zs:List Int) (S:Sp) (vC vT vB:Value) (bg:Bool):Prop where
 sto:StoC w s d p sp aC cC lab X
 lb:LbC w0 w F0 lab
 us:UsR w aS cS zs lab
 cm:w.heap[c]?=some (.cells (cmC s (.slice aS zs.length cS) S vC vT vB bg) 107 (0,0))
 lc:lab c=4
variable {F0:Nat->Prop} {aS:Option Addr} {cS:Nat} {zs:List Int} {S:Sp} {vC vT vB:Value} {bg:Bool}
theorem CmC.keep (h:CmC w0 w F0 s d p sp c aC cC lab X aS cS zs S vC vT vB bg) (h5:5<=i) (h9:i<=9) (t:Trn lab i w w') (g:Agr w.heap.size lab lab'):CmC w0 w' F0 s d p sp c aC cC lab' X aS cS zs S vC vT vB bg:=
 have hl:=yO h.cm
 ⟨h.sto.keepL (by omega) t g,h.lb.turn t h9 g,h.us.keep t h9 g,(t.block hl (by rw [h.lc];omega)).trans h.cm,by rw [g _ hl];exact h.lc⟩
theorem CmC.cell (h:CmC w0 w F0 s d p sp c aC cC lab X aS cS zs S vC vT vB bg) (k:Nat):w.cell? ⟨c,k,none⟩=(cmC s (.slice aS zs.length cS) S vC vT vB bg)[k]?:=cell_of_row w _ _ _ _ (0,0) h.cm
theorem CmC.frz (h:CmC w0 w F0 s d p sp c aC cC lab X aS cS zs S vC vT vB bg) (k:Nat):w.frozen? ⟨c,k,none⟩=false:=by unfold World.frozen?;rw [h.cm];simp
theorem CmC.at (h:CmC w0 w F0 s d p sp c aC cC lab X aS cS zs S vC vT vB bg):w.cell? ⟨c,0,none⟩=some (.pointer (some ⟨s,0,none⟩))/\w.cell? ⟨c,1,none⟩=some (.slice aS zs.length cS)/\w.cell? ⟨c,10,none⟩=some vC/\w.cell? ⟨c,11,none⟩=some vT/\w.cell? ⟨c,12,none⟩=some vB/\w.cell? ⟨c,13,none⟩=some (.bool bg):=by
 refine ⟨?_,?_,?_,?_,?_,?_⟩
 all_goals (rw [h.cell];rfl)
theorem CmC.set (h:CmC w0 w F0 s d p sp c aC cC lab X aS cS zs S vC vT vB bg) (hc:Ch w.heap.size (fun k=>k=c) w w') (g:Agr w.heap.size lab lab') {S':Sp} {vC' vT' vB':Value} {bg':Bool} (hb:w'.heap[c]?=some (.cells (cmC s (.slice aS zs.length cS) S' vC' vT' vB' bg') 107 (0,0))):CmC w0 w' F0 s d p sp c aC cC lab' X aS cS zs S' vC' vT' vB' bg':=
 have hl:=yO h.cm;have t:Trn lab 4 w w':=Trn.ch hc (fun k hk=>by rw [hk];exact h.lc)
 ⟨h.sto.keepL (by omega) t g,h.lb.turn t (by omega) g,h.us.keep t (by omega) g,hb,by rw [g _ hl];exact h.lc⟩
end
end
end Go.Proofs.YtaijfhadecennabGreat.Oct.Sx
namespace Go.Proofs.YtaijfhadecennabGreat.Oct.Sx
open Go.RowKit
structure CmT (w0 w:World) (F0:Nat->Prop) (s d p sp c:Nat) (aC:Option Addr) (cC:Nat) (lab:Nat->Nat) (X:St) (aS:Option Addr) (cS:Nat) (zs:List Int) (S:Sp) (bg:Bool) (q1:Nat) (P1:List Int) (q2:Nat) (P2:List Int) (aP:Option Addr) (cP:Nat) (pgs:List Int):Prop where
 cm:CmC w0 w F0 s d p sp c aC cC lab X aS cS zs S (.slice aP pgs.length cP) (.pointer (some ⟨q1,0,none⟩)) (.pointer (some ⟨q2,0,none⟩)) bg
 tk:SpaL w q1 P1 lab 5
 bh:SpaL w q2 P2 lab 6
 pg:RowL w aP pgs.length cP pgs lab 7
def RoE (w0:World) (F0:Nat->Prop) (s d p sp c:Nat) (aC:Option Addr) (cC:Nat) (X:St) (aS:Option Addr) (cS:Nat) (zs:List Int) (g n:Int) (e:Ending) (w':World):Prop:=
 let a:=ned zs.length
 let m:=a+ned ((X.P.length+7)/8)
 (m<=X.P.count 0/\e=.returned (.int .i64 0)/\∃lab q1 q2 aP cP,CmT w0 w' F0 s d p sp c aC cC lab X aS cS zs (sup g n (hd0 ((tkG m X.P).take a)) (hd0 ((tkG m X.P).drop a))) false q1 (tkS m X.P) q2 (gvA (tkS m X.P) X.C) aP cP (tkG m X.P))\/
 (¬m<=X.P.count 0/\e=.returned (.int .i64 6)/\∃lab,CmC w0 w' F0 s d p sp c aC cC lab X aS cS zs (sup g n 0 0) (.slice none 0 0) (.pointer none) (.pointer none) false)
theorem QR {w:World} {base n c:Nat} {a:Option Addr} {zs:List Int} (h:OwnI base w (.slice a n c) zs) (hz:0<zs.length):∃g,a=some ⟨g,0,none⟩:=by
 obtain ⟨h1,⟨h',_⟩|⟨g',cap',cur,h',_⟩⟩:=h
 ·simp at h1;simp at h';omega
 ·simp only [Value.slice.injEq] at h';exact ⟨g',h'.1⟩
def rel2 (lab:Nat->Nat) (B g i j:Nat) (k:Nat):Nat:=if k<B then lab k else if k=g then i else j
theorem Agr.rel2 (B g i j:Nat) (lab:Nat->Nat):Agr B lab (rel2 lab B g i j):=fun _ h=>if_pos h
section
variable {w0 w:World} {F0:Nat->Prop} {s d p sp c cC cS:Nat} {aC aS:Option Addr} {X:St} {zs:List Int} {lab:Nat->Nat}
set_option maxRecDepth 20000 in
theorem fF {g n:Int} (h:CmC w0 w F0 s d p sp c aC cC lab X aS cS zs (sup g n 0 0) (.slice none 0 0) (.pointer none) (.pointer none) false) (hz:zs.length<=1048576) (hC:∀z∈X.C,0<=z/\z<=4096):
  Calls prog 83 #[.pointer (some ⟨c,0,none⟩)] w (RoE w0 F0 s d p sp c aC cC X aS cS zs g n):=by
 obtain ⟨c0,c1,c10,c11,c12,c13⟩:=h.at;obtain ⟨Fs,hs1,hs2⟩:=h.sto.space;have s2:=h.sto.at.2.2.1;have hcl:=Sps.clone_any hs1;have H0:Hid (CmC w0 w F0 s d p sp c aC cC lab X aS cS zs (sup g n 0 0) (.slice none 0 0) (.pointer none) (.pointer none) false/\(∀z∈X.C,0<=z/\z<=4096)):=⟨h,hC⟩;have hN:8<=X.P.length/\X.P.length<=4096:=⟨(UH hs1).lo,(UH hs1).hi⟩;clear h hC hs1 hs2 c10 c11 c12 c13;have hnd1:=fun (wx:World)=>Chs.Need_v (zs.length:Int) wx (by omega) (by omega)
 have hnd2:=fun (wx:World)=>Chs.Need_v (((X.P.length+7)/8:Nat):Int) wx (by omega) (by omega)
 rw [XP] at hnd1 hnd2;obtain ⟨a,ha⟩:∃a,ned zs.length=a:=⟨_,rfl⟩;obtain ⟨b,hb⟩:∃b,ned ((X.P.length+7)/8)=b:=⟨_,rfl⟩;have ha1:a<=4300:=by rw [<-ha];unfold ned;omega
 have hb1:b<=3/\0<b:=by rw [<-hb];unfold ned;omega
 rw [ha] at hnd1;rw [hb] at hnd2;have HA:Hid (ned zs.length=a/\ned ((X.P.length+7)/8)=b):=⟨ha,hb⟩;clear ha hb;go_enter func83,ntmps83
 go_wp2_with (first
  |(go_at_call 129;refine hcl.mono ?_;rintro e w1 ⟨q1,F1,rfl,k1,k2,k3⟩
    have H1:Hid (CmC w0 w1 F0 s d p sp c aC cC (relab lab w.heap.size 5) X aS cS zs (sup g n 0 0) (.slice none 0 0) (.pointer none) (.pointer none) false/\SpaL w1 q1 X.P (relab lab w.heap.size 5) 5):=⟨H0.out.1.keep (i:=5) (by decide) (by decide) (Trn.below k2) (Agr.relab _ _ _),F1,k1,fun k hk=>zY (k3 k hk)⟩;have c1':=H1.out.1.at.2.1;have hbt:=Sps.bits_any k1;clear hcl k1 k2 k3 c0 c1 s2)
  |(go_at_call 124;first|(refine (hnd1 _).mono ?_;rintro e w' ⟨rfl,rfl⟩;clear hnd1)|(refine (hnd2 _).mono ?_;rintro e w' ⟨rfl,rfl⟩;clear hnd2))
  |(go_at_call 125;refine hbt.mono ?_;rintro e w2 ⟨g2,cb2,rfl,-,k2⟩
    have H2:Hid (∃lab,CmC w0 w2 F0 s d p sp c aC cC lab X aS cS zs (sup g n 0 0) (.slice none 0 0) (.pointer none) (.pointer none) false/\SpaL w2 q1 X.P lab 5):=⟨_,H1.out.1.keep (i:=9) (by decide) (by decide) (Trn.below k2) (Agr.relab _ 9 _),H1.out.2.keep (j:=9) (Trn.below k2) (by decide) (Agr.relab _ _ _)⟩;obtain ⟨lab2,hc2,hsp2⟩:=H2.out;obtain ⟨F2,hF2,hl2⟩:=hsp2;have htk:=take_any hF2 (a+b) (by omega);rw [Int.natCast_add] at htk;have HF2:Hid (CmC w0 w2 F0 s d p sp c aC cC lab2 X aS cS zs (sup g n 0 0) (.slice none 0 0) (.pointer none) (.pointer none) false/\Sps.Spa w2 q1 F2 X.P/\∀k,F2 k->lab2 k=5):=⟨hc2,hF2,hl2⟩;clear hbt c1' k2 hc2 hF2 hl2))
 refine htk.mono ?_;clear htk;rintro e w3 ⟨⟨F3a,⟨P3,hs3a⟩,st3a⟩,⟨hm,aP,cP,rfl,ho,F3,h3,st3,hn3⟩|⟨hm,rfl⟩⟩
 ·obtain ⟨gp,rfl⟩:=QR ho (by rw [yU];omega);obtain ⟨m,hmm⟩:∃m,a+b=m:=⟨_,rfl⟩;rw [hmm] at hm ho h3;have hgp:=(World.ownsRow.lt ho gp rfl).1;obtain ⟨_,hF2,hl2⟩:=HF2.out;have t3:Trn lab2 5 w2 w3:=Trn.of st3 hl2
  have H3:Hid (∃lab,CmC w0 w3 F0 s d p sp c aC cC lab X aS cS zs (sup g n 0 0) (.slice none 0 0) (.pointer none) (.pointer none) false/\SpaL w3 q1 (tkS m X.P) lab 5/\RowL w3 (some ⟨gp,0,none⟩) m cP (tkG m X.P) lab 7):=by
   refine ⟨rel2 lab2 w2.heap.size gp 7 5,HF2.out.1.keep (by decide) (by decide) t3 (Agr.rel2 _ _ _ _ _),⟨F3,h3,fun k hk=>?_⟩,yS ho (fun _ _=>jW _),fun k hk=>?_⟩
   ·unfold rel2;by_cases hlt:k<w2.heap.size
    ·rw [if_pos hlt];rcases st3.2 k hk with e|e
     ·exact hl2 k e
     ·omega
    ·rw [if_neg hlt,if_neg (fun e=>hn3 k ⟨_,rfl,e.symm⟩ hk)]
   ·obtain ⟨x,e,hx⟩:=hk;cases e;subst hx;unfold rel2;rw [if_neg (Nat.not_lt.2 hgp),if_pos rfl]
  have HM:Hid (a+b=m/\m<=X.P.count 0):=⟨hmm,hm⟩;clear HF2 hs3a st3a ho h3 st3 hn3 hF2 hl2 t3 hgp hm hmm H1 H2;obtain ⟨lab3,a3,b3,c3⟩:=H3.out;have hhp:=held_nil w3 s (by rw [a3.sto.cell];rfl);have HL3:Hid (_/\_/\_):=⟨a3,b3,c3⟩;clear H3 a3 b3 c3
  go_wp2_with (first
   |(go_at_call 130;refine hhp.mono ?_;rintro e w4 ⟨rfl,k4⟩
     have H4:Hid (∃lab,CmC w0 w4 F0 s d p sp c aC cC lab X aS cS zs (sup g n 0 0) (.slice none 0 0) (.pointer none) (.pointer none) false/\SpaL w4 q1 (tkS m X.P) lab 5/\RowL w4 (some ⟨gp,0,none⟩) m cP (tkG m X.P) lab 7):=⟨_,HL3.out.1.keep (i:=9) (by decide) (by decide) (Trn.below k4) (Agr.relab _ 9 _),HL3.out.2.1.keep (j:=9) (Trn.below k4) (by decide) (Agr.relab _ _ _),HL3.out.2.2.keep (j:=9) (Trn.below k4) (by decide) (Agr.relab _ _ _)⟩;obtain ⟨lab4,a4,⟨F4,b4,l4⟩,c4⟩:=H4.out;have hga:=XR b4 none 0 0 [] ⟨jB _,by decide,.inl rfl⟩ rfl (fun _ h=>(by cases h)) (fun k ⟨x,e,_⟩=>(by cases e));have HL4:Hid (_/\_/\_/\_):=⟨a4,l4,c4,zM b4⟩;clear H4 HL3 hhp k4 a4 b4 c4 l4)
   |(go_at_call 94;refine hga.mono ?_;rintro e w5 ⟨rfl,F5,h5,st5⟩
     have H5:Hid (∃lab,CmC w0 w5 F0 s d p sp c aC cC lab X aS cS zs (sup g n 0 0) (.slice none 0 0) (.pointer none) (.pointer none) false/\SpaL w5 q1 (tkS m X.P) lab 5/\RowL w5 (some ⟨gp,0,none⟩) m cP (tkG m X.P) lab 7):=⟨_,HL4.out.1.keep (i:=5) (by decide) (by decide) (Trn.of st5 HL4.out.2.1) (Agr.relab _ 5 _),⟨F5,h5,Trn.foot st5 HL4.out.2.1 HL4.out.2.2.2⟩,HL4.out.2.2.1.keep (j:=5) (Trn.of st5 HL4.out.2.1) (by decide) (Agr.relab _ _ _)⟩;obtain ⟨lab5,a5,b5,c5⟩:=H5.out;have b6:=b5;obtain ⟨F5b,b7,l5⟩:=b6;have hcl:=Sps.clone_any b7;have HL5:Hid (_/\_/\_):=⟨a5,b5,c5⟩;clear H5 HL4 hga h5 st5 a5 b5 c5 l5 b7)
   |(go_at_call 129;refine hcl.mono ?_;rintro e w6 ⟨q2,F6,rfl,h6,k6,l6⟩
     have H6:Hid (∃lab,CmC w0 w6 F0 s d p sp c aC cC lab X aS cS zs (sup g n 0 0) (.slice none 0 0) (.pointer none) (.pointer none) false/\SpaL w6 q1 (tkS m X.P) lab 5/\SpaL w6 q2 (tkS m X.P) lab 6/\RowL w6 (some ⟨gp,0,none⟩) m cP (tkG m X.P) lab 7):=⟨_,HL5.out.1.keep (i:=6) (by decide) (by decide) (Trn.below k6) (Agr.relab _ 6 _),HL5.out.2.1.keep (j:=6) (Trn.below k6) (by decide) (Agr.relab _ _ _),⟨F6,h6,fun k hk=>zY (l6 k hk)⟩,HL5.out.2.2.keep (j:=6) (Trn.below k6) (by decide) (Agr.relab _ _ _)⟩;obtain ⟨lab6,a6,b6,d6,c6⟩:=H6.out;obtain ⟨_,_,x10,x11,x12,_⟩:=a6.at;have fz:=a6.frz;have HL6:Hid (_/\_/\_/\_):=⟨a6,b6,d6,c6⟩;clear H6 HL5 hcl h6 k6 l6 a6 b6 d6 c6))
  obtain ⟨w7,hw7⟩:∃w7,((w6.setCell ⟨c,10,none⟩ (.slice (some ⟨gp,0,none⟩) (a+b) cP)).setCell ⟨c,11,none⟩ (.pointer (some ⟨q1,0,none⟩))).setCell ⟨c,12,none⟩ (.pointer (some ⟨q2,0,none⟩))=w7:=⟨_,rfl⟩;rw [hw7]
  have H7:Hid (∃lab,CmC w0 w7 F0 s d p sp c aC cC lab X aS cS zs (sup g n 0 0) (.slice (some ⟨gp,0,none⟩) m cP) (.pointer (some ⟨q1,0,none⟩)) (.pointer (some ⟨q2,0,none⟩)) false/\SpaL w7 q1 (tkS m X.P) lab 5/\SpaL w7 q2 (tkS m X.P) lab 6/\RowL w7 (some ⟨gp,0,none⟩) m cP (tkG m X.P) lab 7):=by
   obtain ⟨a6,b6,d6,c6⟩:=HL6.out
   have hc7:Ch w6.heap.size (fun k=>k=c) w6 w7:=by
    rw [<-hw7];exact (((Ch.refl w6.heap.size (fun k=>k=c) w6).setCell (p:=⟨c,10,none⟩) (.inr rfl) _).setCell (p:=⟨c,11,none⟩) (.inr rfl) _).setCell (p:=⟨c,12,none⟩) (.inr rfl) _
   have hb7:w7.heap[c]?=some (.cells (cmC s (.slice aS zs.length cS) (sup g n 0 0) (.slice (some ⟨gp,0,none⟩) m cP) (.pointer (some ⟨q1,0,none⟩)) (.pointer (some ⟨q2,0,none⟩)) false) 107 (0,0)):=by
    rw [<-hw7,yK _ _ _ _ _ _ _ (yK _ _ _ _ _ _ _ (yK _ _ _ _ _ _ _ a6.cm)),HM.out.1];rfl
   have t7:Trn lab6 4 w6 w7:=Trn.ch hc7 (fun k hk=>by rw [hk];exact a6.lc);exact ⟨lab6,a6.set hc7 (fun _ _=>rfl) hb7,b6.keep t7 (by decide) (fun _ _=>rfl),d6.keep t7 (by decide) (fun _ _=>rfl),c6.keep t7 (by decide) (fun _ _=>rfl)⟩
  clear HL6 hw7 x10 x11 x12 fz;obtain ⟨lab7,a7,b7,⟨F7,d7,l7⟩,c7⟩:=H7.out;have x12:=a7.at.2.2.2.2.1;have y12:=a7.sto.at.2.2.2.2.1
  have hrw:RowI w7.drew aC cC X.C:=by
   obtain ⟨a',c',e,hr⟩:=a7.sto.ch.row;simp only [Value.slice.injEq,true_and] at e;obtain ⟨rfl,rfl⟩:=e;exact hr
  have d7':Sps.Spa w7.drew q2 F7 (tkS m X.P):=yZ d7 (jB _) (fun _ _=>rfl);have hl7:=zM d7;have hga:=XR d7' aC cC X.C.length X.C hrw rfl H0.out.2 (fun k hk=>⟨(World.ownsRow.lt a7.sto.ch k (zC hk)).2,fun e=>by have h1:=l7 k e;have h2:=a7.sto.lc k hk;omega⟩);have HL7:Hid (_/\_/\_/\_/\_):=⟨a7,b7,c7,l7,hl7⟩;clear H7 a7 b7 c7 l7 hl7 d7 d7' hrw
  go_region_held3 (fun w'=>w'.cell? ⟨c,12,none⟩=some (.pointer (some ⟨q2,0,none⟩))/\w'.cell? ⟨s,12,none⟩=some (.slice aC X.C.length cC)) (first|go_keep|exact ⟨by assumption,by assumption⟩) (first
   |(go_at_call 94;refine hga.mono ?_;rintro e w8 ⟨rfl,F8,h8,st8'⟩
     have st8:=st8'.undrew;have t8:=Trn.of st8 HL7.out.2.2.2.1;have H8:Hid (∃lab,CmC w0 w8 F0 s d p sp c aC cC lab X aS cS zs (sup g n 0 0) (.slice (some ⟨gp,0,none⟩) m cP) (.pointer (some ⟨q1,0,none⟩)) (.pointer (some ⟨q2,0,none⟩)) false/\SpaL w8 q1 (tkS m X.P) lab 5/\SpaL w8 q2 (gvA (tkS m X.P) X.C) lab 6/\RowL w8 (some ⟨gp,0,none⟩) m cP (tkG m X.P) lab 7):=⟨_,HL7.out.1.keep (i:=6) (by decide) (by decide) t8 (Agr.relab _ 6 _),HL7.out.2.1.keep t8 (by decide) (Agr.relab _ _ _),⟨F8,h8,Trn.foot st8 HL7.out.2.2.2.1 HL7.out.2.2.2.2⟩,HL7.out.2.2.1.keep t8 (by decide) (Agr.relab _ _ _)⟩;obtain ⟨lab8,a8,b8,d8,c8⟩:=H8.out;have x12':=a8.at.2.2.2.2.1;have y12':=a8.sto.at.2.2.2.2.1;have HL8:Hid (_/\_/\_/\_):=⟨a8,b8,d8,c8⟩;clear H8 HL7 hga h8 st8 st8' t8 a8 b8 d8 c8))
  obtain ⟨a8,b8,d8,c8⟩:=HL8.out
  have hcell:∀i,i<m->w8.cell? ⟨gp,i,none⟩=some (.int .i64 ((tkG m X.P).getD i 0)):=fun i hi=>by
   obtain ⟨a',c',e,hr⟩:=OwnI.row (base:=0) (w:=w8) (v:=.slice (some ⟨gp,0,none⟩) m cP) c8.1;simp only [Value.slice.injEq] at e;obtain ⟨rfl,_,rfl⟩:=e;obtain ⟨b',off',e2,hc⟩:=hr.at' i (by rw [yU];exact hi);simp only [jP,Addr.mk.injEq,and_true] at e2;obtain ⟨rfl,rfl⟩:=e2;rw [xE] at hc;exact hc
  have hm1:=HM.out.1;have r0:=hcell 0 (by omega);have ra:=hcell a (by omega);have y8:w8.cell? ⟨c,8,none⟩=some (.int .i64 0):=by rw [a8.cell];rfl
  have y9:w8.cell? ⟨c,9,none⟩=some (.int .i64 0):=by rw [a8.cell];rfl
  have fz:=a8.frz
  have hcg:¬gp=c:=fun e=>by
   have h1:=c8.2 gp ⟨_,rfl,rfl⟩;have h2:=a8.lc;rw [e] at h1;omega
  obtain ⟨z0,hz0⟩:∃z,(tkG m X.P).getD 0 0=z:=⟨_,rfl⟩;obtain ⟨za,hza⟩:∃z,(tkG m X.P).getD a 0=z:=⟨_,rfl⟩;rw [hz0] at r0;rw [hza] at ra
  have HZ:Hid (hd0 ((tkG m X.P).drop a)=za/\(0<a->hd0 ((tkG m X.P).take a)=z0)/\(a=0->hd0 ((tkG m X.P).take a)=0)):=by
   refine ⟨?_,fun h=>?_,fun h=>by rw [h];rfl⟩
   ·unfold hd0;rw [jA,qY,<-jA];exact hza
   ·unfold hd0;rw [jA,List.getElem?_take_of_lt h,<-jA];exact hz0
  have hi0:(0:Int)<((a+b:Nat):Int):=by omega
  have hia:(a:Int)<((a+b:Nat):Int):=by omega
  clear a8 b8 d8 c8 hcell hz0 hza x12 y12 x12' y12' hm1
  have HFin:Hid (∀w9,Ch w8.heap.size (fun k=>k=c) w8 w9->w9.heap[c]?=some (.cells (cmC s (.slice aS zs.length cS) (sup g n (hd0 ((tkG m X.P).take a)) (hd0 ((tkG m X.P).drop a))) (.slice (some ⟨gp,0,none⟩) m cP) (.pointer (some ⟨q1,0,none⟩)) (.pointer (some ⟨q2,0,none⟩)) false) 107 (0,0))->RoE w0 F0 s d p sp c aC cC X aS cS zs g n (.returned (.int .i64 0)) w9):=by
   intro w9 hc9 hb9;obtain ⟨a8,b8,d8,c8⟩:=HL8.out;have t9:Trn lab8 4 w8 w9:=Trn.ch hc9 (fun k hk=>by rw [hk];exact a8.lc);have k1:=a8.set hc9 (fun _ _=>rfl) hb9;have k2:=b8.keep t9 (by decide) (fun _ _=>rfl);have k3:=d8.keep t9 (by decide) (fun _ _=>rfl);have k4:=c8.keep t9 (by decide) (fun _ _=>rfl);obtain ⟨hA,hB⟩:=HA.out;obtain ⟨hM,hle⟩:=HM.out;refine .inl ⟨by rw [hA,hB,hM];exact hle,rfl,lab8,q1,q2,some ⟨gp,0,none⟩,cP,?_⟩;rw [hA,hB,hM];refine ⟨?_,k2,k3,?_⟩
   ·rw [yU];exact k1
   ·rw [yU];exact k4
  have HCM:Hid (w8.heap[c]?=some (.cells (cmC s (.slice aS zs.length cS) (sup g n 0 0) (.slice (some ⟨gp,0,none⟩) m cP) (.pointer (some ⟨q1,0,none⟩)) (.pointer (some ⟨q2,0,none⟩)) false) 107 (0,0))):=HL8.out.1.cm;clear HL8;by_cases ha0:0<a
  ·have hgt:decide ((a:Int)>0)=true:=jF (by omega);go_wp2_with fail
   go_ret
   refine HFin.out _ (((Ch.refl w8.heap.size (fun k=>k=c) w8).setCell (p:=⟨c,8,none⟩) (.inr rfl) _).setCell (p:=⟨c,9,none⟩) (.inr rfl) _) ?_;rw [yK _ _ _ _ _ _ _ (yK _ _ _ _ _ _ _ HCM.out),HZ.out.1,HZ.out.2.1 ha0];rfl
  ·have hgt:decide ((a:Int)>0)=false:=jM (by omega);go_wp2_with fail
   go_ret
   refine HFin.out _ ((Ch.refl w8.heap.size (fun k=>k=c) w8).setCell (p:=⟨c,9,none⟩) (.inr rfl) _) ?_;rw [yK _ _ _ _ _ _ _ HCM.out,HZ.out.1,HZ.out.2.2 (by omega)];rfl
 ·have HE:Hid (∃lab,CmC w0 w3 F0 s d p sp c aC cC lab X aS cS zs (sup g n 0 0) (.slice none 0 0) (.pointer none) (.pointer none) false):=⟨_,HF2.out.1.keep (by decide) (by decide) (Trn.of st3a HF2.out.2.2) (Agr.relab _ 5 _)⟩;clear HF2 hs3a st3a H1 H2;go_wp2_with fail
  go_ret
  refine .inr ⟨?_,rfl,HE.out⟩;rw [HA.out.1,HA.out.2];exact hm
end
end Go.Proofs.YtaijfhadecennabGreat.Oct.Sx
namespace Go.Proofs.YtaijfhadecennabGreat.Oct.Sx
open Go.RowKit
section
variable {w0 w:World} {F0:Nat->Prop} {s d p sp c cC cS:Nat} {aC aS:Option Addr} {X:St} {zs:List Int} {lab:Nat->Nat} {S:Sp} {vC vT vB:Value} {bg:Bool}
theorem kX (c s:Nat) (pl:Int) (w:World) (h0:w.cell? ⟨c,0,none⟩=some (.pointer (some ⟨s,0,none⟩))) (h1:w.cell? ⟨s,11,none⟩=some (.int .i64 pl)) (hp:0<=pl/\pl<=1):
  Calls prog 91 #[.pointer (some ⟨c,0,none⟩)] w fun e w'=>e=.returned (.int .i64 (1-pl))/\w=w':=by
 go_enter func91,ntmps91
 go_wp2;go_ret
 exact ⟨rfl,rfl⟩
theorem VT (h:CmC w0 w F0 s d p sp c aC cC lab X aS cS zs S vC vT vB bg) (hz:zs.length<=1000000000):
  Calls prog 82 #[.pointer (some ⟨c,0,none⟩)] w fun e w'=>e=.returned (.int .i64 (if zs.length<=1048576 then 0 else 3))/\w=w':=by
 obtain ⟨c0,c1,_⟩:=h.at;by_cases hl:zs.length<=1048576
 ·have h1:decide ((zs.length:Int)>1048576)=false:=jM (by omega);rw [if_pos hl];go_enter func82,ntmps82
  go_wp2;go_ret
  exact ⟨rfl,rfl⟩
 ·have h1:decide ((zs.length:Int)>1048576)=true:=jF (by omega);rw [if_neg hl];go_enter func82,ntmps82
  go_wp2;go_ret
  exact ⟨rfl,rfl⟩
theorem VS (h:CmC w0 w F0 s d p sp c aC cC lab X aS cS zs S vC vT vB bg) (E:Int) (hE:enE S=E):
  Calls prog 81 #[.pointer (some ⟨c,0,none⟩)] w fun e w'=>e=.returned (.int .i64 E)/\Below w.heap.size w w':=by
 have c2:w.cell? ⟨c,2,none⟩=some (.int .i64 S.g):=by rw [h.cell];rfl
 have c3:w.cell? ⟨c,3,none⟩=some (.int .i64 S.p):=by rw [h.cell];rfl
 have c4:w.cell? ⟨c,4,none⟩=some (.int .i64 S.r):=by rw [h.cell];rfl
 have c5:w.cell? ⟨c,5,none⟩=some (.int .i64 S.h):=by rw [h.cell];rfl
 have c6:w.cell? ⟨c,6,none⟩=some (.int .i64 S.b):=by rw [h.cell];rfl
 have c7:w.cell? ⟨c,7,none⟩=some (.int .i64 S.l):=by rw [h.cell];rfl
 have c8:w.cell? ⟨c,8,none⟩=some (.int .i64 S.s):=by rw [h.cell];rfl
 have c9:w.cell? ⟨c,9,none⟩=some (.int .i64 S.f):=by rw [h.cell];rfl
 have hc:=vV S w E hE;clear h;go_enter func81,ntmps81
 go_wp2_with (go_at_call 103;refine hc.mono ?_;rintro e w' ⟨rfl,hb⟩)
 go_ret
 exact ⟨rfl,hb⟩
theorem settle_any (s q:Nat) (cs:Array Value) (w:World) (h:w.heap[s]?=some (.cells cs 91 (0,0))) (hs:cs.size=16):
  Calls prog 90 #[.pointer (some ⟨s,0,none⟩),.pointer (some ⟨q,0,none⟩)] w fun e w'=>e=.returned (.tuple #[])/\w'=((w.setCell ⟨s,2,none⟩ (.pointer (some ⟨q,0,none⟩))).setCell ⟨s,14,none⟩ (.pointer none)).setCell ⟨s,15,none⟩ (.map none):=by
 have cc:∀i,w.cell? ⟨s,i,none⟩=cs[i]?:=fun i=>cell_of_row w _ _ _ _ (0,0) h
 have fz:∀i,w.frozen? ⟨s,i,none⟩=false:=fun i=>by unfold World.frozen?;rw [h];simp
 obtain ⟨v2,h2⟩:∃v,w.cell? ⟨s,2,none⟩=some v:=⟨_,(cc 2).trans (qX (by omega))⟩;obtain ⟨v14,h14⟩:∃v,w.cell? ⟨s,14,none⟩=some v:=⟨_,(cc 14).trans (qX (by omega))⟩;obtain ⟨v15,h15⟩:∃v,w.cell? ⟨s,15,none⟩=some v:=⟨_,(cc 15).trans (qX (by omega))⟩;clear cc h;go_enter func90,ntmps90
 go_wp2;go_end0
 exact ⟨rfl,rfl⟩
end
end Go.Proofs.YtaijfhadecennabGreat.Oct.Sx
