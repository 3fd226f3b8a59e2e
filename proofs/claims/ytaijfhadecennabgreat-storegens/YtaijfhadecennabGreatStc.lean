/- Part of a proof. -/
import Derived.Test.YtaijfhadecennabGreatVc
import Derived.Test.YtaijfhadecennabGreatZo
import Derived.Test.YtaijfhadecennabGreatR
import Derived.Deep.AppendLies
import Derived.Test.YtaijfhadecennabGreatZb
import Derived.Laws.AppendOwnNone
import Derived.Laws.EntriesVeiled
import Derived.Lib.SliceRun
open Go.Proofs.Tryz
set_option maxHeartbeats 1000000
namespace Go.Proofs.YtaijfhadecennabGreat.Oct
open Go.RowKit
def Othr (S:Sp) (T:List (Sp × Rp)) (z:List Int):Prop:=Sbz z/\(deE z≠0\/(∃S0,okS S0=true/\S0.g<S.g/\z=enZ S0)\/∃y∈T,z=enZ y.1)
structure Jv (D:Dv) (S:Sp) (pl:Nat) (r:Rp) (T:List (Sp × Rp)):Prop where
 ok:D.ok
 now:D.now=fallK D.sure D.since [] D.since.length
 p2:pl<2
 sp:okS S=true
 su:Su D.sure S r
 at_:pageOf D.sure pl=enZ S
 nop:∀x∈D.since,x.1≠pl
 nor:∀x∈D.since,¬(x.1:Int)∈r.pg
 oth:Othr S T (pageOf D.sure (1-pl))
 ots:∀x∈D.since,x.1=1-pl->∃y∈T,x.2=enZ y.1
 trd:∀y∈T,okS y.1=true/\S.g<y.1.g/\Su D.sure y.1 y.2/\∀x∈D.since,¬(x.1:Int)∈y.2.pg
theorem su_in {L:List Int} {S:Sp} {r:Rp} (h:Su L S r):∀z∈r.pg,∃k:Nat,z=(k:Int)/\k<pgN L:=by
 obtain ⟨_,T,R2,st,R3,fr,_,_,_,_,rfl⟩:=h;exact rsB_all _
theorem YZ {D:Dv} (ok:D.ok) {S:Sp} {r:Rp} (h:Su D.sure S r) (hn:∀x∈D.since,¬(x.1:Int)∈r.pg) (ch:List Int):Su (fallK D.sure D.since ch D.since.length) S r:=by
 refine su_loc ok.bsure h (zX ..) fun k hk=>?_
 obtain ⟨j,e,hj⟩:=su_in h k hk;have hkj:k=j:=by omega
 subst hkj;have hs:=ok.sure;unfold pgN at hj;exact UU ch (by omega) (fun x hx e=>hn x hx (by rw [e];exact hk)) _ (jB _)
theorem othr_mix {S:Sp} {T:List (Sp × Rp)} {a b:List Int} (ha:Othr S T a) (hb:Othr S T b) (c:Int):Othr S T (mixP a b c):=by
 rw [mix_sbz ha.1 hb.1];split
 ·exact hb
 ·exact ha
theorem Jv.pages {D:Dv} {S:Sp} {pl:Nat} {r:Rp} {T:List (Sp × Rp)} (h:Jv D S pl r T) (ch:List Int):
  pageOf (fallK D.sure D.since ch D.since.length) pl=enZ S/\Othr S T (pageOf (fallK D.sure D.since ch D.since.length) (1-pl)):=by
 have hs:=h.ok.sure;have h8:=h.ok.n8;have hp:=h.p2;refine ⟨?_,?_⟩
 ·rw [UU ch (by omega) h.nop _ (jB _)];exact h.at_
 ·refine pg_fall (Q:=Othr S T) ch (by omega) h.oth (fun a b c=>fun ha hb=>othr_mix ha hb c) (fun x hx e=>?_) _ (jB _);obtain ⟨y,hy,e⟩:=h.ots x hx e;rw [e];exact ⟨uM (h.trd y hy).1,.inr (.inr ⟨y,hy,rfl⟩)⟩
theorem oa_at {L:List Int} (hL:Bys L) (hN:pgN L<=4096) {S:Sp} {r:Rp} {pl:Nat} (hp:pl<2) (ho:okS S=true) (hs:Su L S r) (ha:pageOf L pl=enZ S) (hb:deE (pageOf L (1-pl))≠0\/(deE (pageOf L (1-pl))=0/\(deS (pageOf L (1-pl))).g<S.g)):
  oaE L=0/\oaR L={r with pl:=(pl:Int)}:=by
 obtain ⟨d1,d2⟩:=en_dec ho
 have hwa:waE L S=0/\waR L S=r:=by
  rcases su_wa hL hN ho with h|h
  ·exact ⟨h.1,by
    have h2:=h.2;obtain ⟨_,T,R2,st,R3,fr,h1,h2,h3,_,e⟩:=h2;obtain ⟨_,T',R2',st',R3',fr',h1',h2',h3',_,rfl⟩:=hs;rw [e];have e1:T=T':=yC (h1.t.symm.trans h1'.t);subst e1;have e2:=yC (h2.symm.trans h2');rw [xW] at e2;obtain ⟨rfl,rfl⟩:=e2;have e3:=yC (h3.symm.trans h3');rw [xW] at e3;obtain ⟨rfl,rfl⟩:=e3;rfl⟩
  ·exact absurd hs (h.2 _)
 have hc:chE (pageOf L 0) (pageOf L 1)=0/\chS (pageOf L 0) (pageOf L 1)=S/\chP (pageOf L 0) (pageOf L 1)=(pl:Int):=by
  rcases (show pl=0\/pl=1 by omega) with e|e
  ·subst e;rw [ha];unfold chE chS chP
   have hcnd:deE (enZ S)=0/\(deE (pageOf L 1)≠0\/(deS (pageOf L 1)).g<=(deS (enZ S)).g):=by
    refine ⟨d1,?_⟩;rw [d2];rcases hb with hb|hb
    ·exact .inl hb
    ·exact .inr (Int.le_of_lt hb.2)
   rw [if_pos hcnd,if_pos hcnd,d1,d2,if_neg (by simp)];exact ⟨rfl,rfl,rfl⟩
  ·subst e;rw [ha];unfold chE chS chP
   have hcnd:¬(deE (pageOf L 0)=0/\(deE (enZ S)≠0\/(deS (enZ S)).g<=(deS (pageOf L 0)).g)):=by
    rw [d1,d2];rintro ⟨x,y⟩;rcases hb with hb|hb
    ·exact hb x
    ·rcases y with y|y
     ·exact y rfl
     ·have hb2:(deS (pageOf L 0)).g<S.g:=hb.2;omega
   rw [if_neg hcnd,if_neg hcnd,d1,d2,if_neg (by simp),if_pos rfl];exact ⟨rfl,rfl,rfl⟩
 have ho:oaE L=0:=by
  unfold oaE opX;rw [if_pos hc.1,hc.2.1,if_pos hwa.1]
 refine ⟨ho,?_⟩;unfold oaR;rw [if_pos ho,hc.2.1,hc.2.2,hwa.2]
theorem Jv.crash {D:Dv} {S:Sp} {pl:Nat} {r:Rp} {T:List (Sp × Rp)} (h:Jv D S pl r T) (ch:List Int):
  oaE (fallK D.sure D.since ch D.since.length)=0/\(oaR (fallK D.sure D.since ch D.since.length)={r with pl:=(pl:Int)}\/∃y∈T,oaR (fallK D.sure D.since ch D.since.length)={y.2 with pl:=((1-pl:Nat):Int)}):=by
 obtain ⟨pa,po⟩:=h.pages ch;have hb:Bys (fallK D.sure D.since ch D.since.length):=uL ch h.ok.bsure (fun x hx=>(h.ok.since x hx).2.2) _
 have hN:pgN (fallK D.sure D.since ch D.since.length)<=4096:=by
  unfold pgN;rw [zX,h.ok.sure];have:=h.ok.n4;omega
 have hs:=YZ h.ok h.su h.nor ch;rcases po.2 with hd|⟨S0,h1,h2,h3⟩|⟨y,hy,e⟩
 ·obtain ⟨a,b⟩:=oa_at hb hN h.p2 h.sp hs pa (.inl hd);exact ⟨a,.inl b⟩
 ·obtain ⟨d1,d2⟩:=en_dec h1;obtain ⟨a,b⟩:=oa_at hb hN h.p2 h.sp hs pa (.inr (by rw [h3];exact ⟨d1,by rw [d2];exact h2⟩));exact ⟨a,.inl b⟩
 ·obtain ⟨t1,t2,t3,t4⟩:=h.trd y hy;obtain ⟨d1,d2⟩:=en_dec h.sp;have hp:=h.p2
  obtain ⟨a,b⟩:=oa_at (pl:=1-pl) hb hN (by omega) t1 (YZ h.ok t3 t4 ch) e (.inr (by
   rw [show 1-(1-pl)=pl by omega,pa];exact ⟨d1,by rw [d2];exact t2⟩))
  exact ⟨a,.inr ⟨y,hy,b⟩⟩
theorem Jv.nowOpen {D:Dv} {S:Sp} {pl:Nat} {r:Rp} {T:List (Sp × Rp)} (h:Jv D S pl r T):
  oaE D.now=0/\(oaR D.now={r with pl:=(pl:Int)}\/∃y∈T,oaR D.now={y.2 with pl:=((1-pl:Nat):Int)}):=by
 rw [h.now];exact h.crash []
theorem Jv.same {D E:Dv} {S:Sp} {pl:Nat} {r:Rp} {T:List (Sp × Rp)} (h:Jv D S pl r T) (ok:E.ok) (h1:E.now=D.now) (h2:E.sure=D.sure) (h3:E.since=D.since):Jv E S pl r T:=
 ⟨ok,by rw [h1,h2,h3];exact h.now,h.p2,h.sp,by rw [h2];exact h.su,by rw [h2];exact h.at_,by rw [h3];exact h.nop,by rw [h3];exact h.nor,by rw [h2];exact h.oth,by rw [h3];exact h.ots,by rw [h2,h3];exact h.trd⟩
theorem Jv.opD {D:Dv} {S:Sp} {pl:Nat} {r:Rp} {T:List (Sp × Rp)} (h:Jv D S pl r T):Jv (Oct.opD D) S pl r T:=h.same (uI h.ok) rfl rfl rfl
theorem Jv.dieD {D:Dv} {S:Sp} {pl:Nat} {r:Rp} {T:List (Sp × Rp)} (h:Jv D S pl r T):Jv (Oct.dieD D) S pl r T:=h.same (vR h.ok) rfl rfl rfl
theorem Jv.readD {D:Dv} {S:Sp} {pl:Nat} {r:Rp} {T:List (Sp × Rp)} (h:Jv D S pl r T):Jv (Oct.readD D) S pl r T:=by
 unfold Oct.readD;split
 ·exact h
 ·split
  ·exact h.dieD
  ·exact h.opD
theorem now_wr {D:Dv} (h:D.now=fallK D.sure D.since [] D.since.length) (pg:Nat) (b:List Int):(wrD D pg b).now=fallK (wrD D pg b).sure (wrD D pg b).since [] (wrD D pg b).since.length:=by
 show onto D.now pg b 15=fallK D.sure (D.since++[(pg,b)]) [] (D.since++[(pg,b)]).length;rw [jO,List.length_singleton];unfold fallK;rw [fall_app _ (jB _),<-h]
 have e:(D.since++[(pg,b)]).getD D.since.length (0,[])=(pg,b):=by
  rw [jA,xH (jB _),Nat.sub_self];rfl
 rw [e];rfl
def Apart (r:Rp) (T:List (Sp × Rp)) (k:Nat):Prop:=2<=k/\¬(k:Int)∈r.pg/\∀y∈T,¬(k:Int)∈y.2.pg
theorem Jv.wrD {D:Dv} {S:Sp} {pl:Nat} {r:Rp} {T:List (Sp × Rp)} (h:Jv D S pl r T) {k:Nat} {b:List Int} (hk:k<D.n) (ha:Apart r T k) (hb:b.length=256) (hy:Bys b):Jv (Oct.wrD D k b) S pl r T:=by
 have hp:=h.p2
 have hm:∀x∈(Oct.wrD D k b).since,x∈D.since\/x=(k,b):=fun x hx=>by
  rcases List.mem_append.1 hx with h|h
  ·exact .inl h
  ·exact .inr (by simpa using h)
 refine ⟨vZ h.ok hk hb hy,now_wr h.now k b,hp,h.sp,h.su,h.at_,fun x hx=>?_,fun x hx=>?_,h.oth,fun x hx e=>?_,fun y hy=>?_⟩
 ·rcases hm x hx with hx|rfl
  ·exact h.nop x hx
  ·have:=ha.1;show k≠pl;omega
 ·rcases hm x hx with hx|rfl
  ·exact h.nor x hx
  ·exact ha.2.1
 ·rcases hm x hx with hx|rfl
  ·exact h.ots x hx e
  ·have:=ha.1;have e:k=1-pl:=e;omega
 ·obtain ⟨t1,t2,t3,t4⟩:=h.trd y hy;refine ⟨t1,t2,t3,fun x hx=>?_⟩;rcases hm x hx with hx|rfl
  ·exact t4 x hx
  ·exact ha.2.2 y hy
theorem Jv.writeD {D:Dv} {S:Sp} {pl:Nat} {r:Rp} {T:List (Sp × Rp)} (h:Jv D S pl r T) {k:Nat} {b:List Int} (hk:k<D.n) (ha:Apart r T k) (hb:b.length=256) (hy:Bys b):Jv (Oct.writeD D k b) S pl r T:=by
 unfold Oct.writeD;split
 ·exact h
 ·split
  ·exact h.dieD.wrD hk ha hb hy
  ·split
   ·exact h.opD
   ·exact h.opD.wrD hk ha hb hy
theorem Jv.wrS {D:Dv} {S:Sp} {pl:Nat} {r:Rp} {T:List (Sp × Rp)} (h:Jv D S pl r T) {S1:Sp} {r1:Rp} (ho:okS S1=true) (hg:S.g<S1.g) (hs:Su D.sure S1 r1) (hn:∀x∈D.since,¬(x.1:Int)∈r1.pg) (h2:∀z∈r1.pg,2<=z)
  (h2r:∀z∈r.pg,2<=z) (h2t:∀y∈T,∀z∈y.2.pg,2<=z):Jv (Oct.wrD D (1-pl) (enZ S1)) S pl r ((S1,r1)::T):=by
 have hp:=h.p2;have h8:=h.ok.n8
 have hm:∀x∈(Oct.wrD D (1-pl) (enZ S1)).since,x∈D.since\/x=(1-pl,enZ S1):=fun x hx=>by
  rcases List.mem_append.1 hx with h|h
  ·exact .inl h
  ·exact .inr (by simpa using h)
 have hlow:∀{l:List Int},(∀z∈l,(2:Int)<=z)->¬((1-pl:Nat):Int)∈l:=fun hl hz=>by have:=hl _ hz;omega
 refine ⟨vZ h.ok (by omega) (uM ho).1 (YL S1),now_wr h.now _ _,hp,h.sp,h.su,h.at_,fun x hx=>?_,fun x hx=>?_,?_,fun x hx e=>?_,fun y hy=>?_⟩
 ·rcases hm x hx with hx|rfl
  ·exact h.nop x hx
  ·show 1-pl≠pl;omega
 ·rcases hm x hx with hx|rfl
  ·exact h.nor x hx
  ·exact hlow h2r
 ·refine ⟨h.oth.1,?_⟩;rcases h.oth.2 with a|a|⟨y,hy,e⟩
  ·exact .inl a
  ·exact .inr (.inl a)
  ·exact .inr (.inr ⟨y,jL _ hy,e⟩)
 ·rcases hm x hx with hx|rfl
  ·obtain ⟨y,hy,e⟩:=h.ots x hx e;exact ⟨y,jL _ hy,e⟩
  ·exact ⟨(S1,r1),by simp,rfl⟩
 ·rcases List.mem_cons.1 hy with rfl|hy
  ·refine ⟨ho,hg,hs,fun x hx=>?_⟩;rcases hm x hx with hx|rfl
   ·exact hn x hx
   ·exact hlow h2
  ·obtain ⟨t1,t2,t3,t4⟩:=h.trd y hy;refine ⟨t1,t2,t3,fun x hx=>?_⟩;rcases hm x hx with hx|rfl
   ·exact t4 x hx
   ·exact hlow (h2t y hy)
theorem Jv.setD {D:Dv} {S:Sp} {pl:Nat} {r:Rp} {T:List (Sp × Rp)} (h:Jv D S pl r T):Jv (Oct.setD D) S pl r T:=by
 obtain ⟨pa,po⟩:=h.pages [];refine ⟨fI h.ok,rfl,h.p2,h.sp,?_,?_,fun x hx=>by simp [Oct.setD] at hx,fun x hx=>by simp [Oct.setD] at hx,?_,fun x hx=>by simp [Oct.setD] at hx,fun y hy=>?_⟩
 ·show Su D.now S r;rw [h.now];exact YZ h.ok h.su h.nor []
 ·show pageOf D.now pl=enZ S;rw [h.now];exact pa
 ·show Othr S T (pageOf D.now (1-pl));rw [h.now];exact po
 ·obtain ⟨t1,t2,t3,t4⟩:=h.trd y hy;refine ⟨t1,t2,?_,fun x hx=>by simp [Oct.setD] at hx⟩;show Su D.now y.1 y.2;rw [h.now];exact YZ h.ok t3 t4 []
theorem Jv.syncD {D:Dv} {S:Sp} {pl:Nat} {r:Rp} {T:List (Sp × Rp)} (h:Jv D S pl r T):Jv (Oct.syncD D) S pl r T:=by
 unfold Oct.syncD;split
 ·exact h
 ·split
  ·exact h.dieD
  ·split
   ·exact h.opD
   ·exact h.opD.setD
theorem Jv.turn {D:Dv} {S:Sp} {pl:Nat} {r:Rp} {T:List (Sp × Rp)} (h:Jv D S pl r T) {y:Sp × Rp} (hy:y∈T) (hq:pageOf D.sure (1-pl)=enZ y.1) (hd:D.since=[]):Jv D y.1 (1-pl) y.2 []:=by
 obtain ⟨t1,t2,t3,t4⟩:=h.trd y hy;have hp:=h.p2;have hx:∀x∈D.since,False:=fun x hx=>by rw [hd] at hx;cases hx
 refine ⟨h.ok,h.now,by omega,t1,t3,hq,fun x h=>(hx x h).elim,t4,?_,fun x h=>(hx x h).elim,fun y hy=>by cases hy⟩;rw [show 1-(1-pl)=pl by omega,h.at_];exact ⟨uM h.sp,.inr (.inl ⟨S,h.sp,t2,rfl⟩)⟩
def OutAt (w:World) (v:Value) (zs:List Int):Prop:=
 (v=.slice none 0 0/\zs=[])\/∃g off cap cur,v=.slice (some ⟨g,off,none⟩) zs.length cap/\w.heap[g]?=some (.cells cur 5 (0,0))/\zs.length<=cap/\cap<=maxLen/\off+cap<=cur.size/\
  ∀i,i<zs.length->cur[off+i]?=some (.int .u8 (zs.getD i 0))
theorem OutAt.keep {w w':World} {v:Value} {zs:List Int} (h:OutAt w v zs) (k:∀g,v.ownBlock=some g->w'.heap[g]?=w.heap[g]?):OutAt w' v zs:=by
 rcases h with h|⟨g,off,cap,cur,rfl,hg,rest⟩
 ·exact .inl h
 ·exact .inr ⟨g,off,cap,cur,rfl,(k g rfl).trans hg,rest⟩
def wcells (x:Nat × List Int):List Value:=.int .i64 x.1::x.2.map (Value.int .u8)
def scells (l:List (Nat × List Int)):List Value:=l.flatMap wcells
structure DevC (w:World) (p gN gL cN cL:Nat) (vS vO:Value) (f:Int) (D:Dv):Prop where
 cells:w.heap[p]?=some (.cells #[.slice (some ⟨gN,0,none⟩) D.now.length cN,.slice (some ⟨gL,0,none⟩) D.sure.length cL,vS,vO,.int .i64 f,.int .i64 D.ops,.bool D.dead] 103 (0,0))
 now:Own 0 w (.slice (some ⟨gN,0,none⟩) D.now.length cN) D.now
 sure:Own 0 w (.slice (some ⟨gL,0,none⟩) D.sure.length cL) D.sure
 since:w.ownsRow 0 111 257 vS D.since.length (scells D.since)
 out:OutAt w vO D.out
 f1: -9223372036854775808<=f
 f2:f<=9223372036854775807
 fuse:max f (-1)=D.fuse
 pN:p≠gN
 pL:p≠gL
 NL:gN≠gL
 pS:vS.ownBlock≠some p
 NS:vS.ownBlock≠some gN
 LS:vS.ownBlock≠some gL
 pO:vO.ownBlock≠some p
 NO:vO.ownBlock≠some gN
 LO:vO.ownBlock≠some gL
 SO:∀g,vS.ownBlock=some g->vO.ownBlock≠some g
def foot (p gN gL:Nat) (vS vO:Value) (k:Nat):Prop:=k=p\/k=gN\/k=gL\/vS.ownBlock=some k\/vO.ownBlock=some k
def Dev (w:World) (p:Nat) (F:Nat->Prop) (D:Dv):Prop:=
 D.ok/\(∀k,F k->k<w.heap.size)/\∃gN gL cN cL vS vO f,DevC w p gN gL cN cL vS vO f D/\∀k,foot p gN gL vS vO k->F k
theorem DevC.keep {w w':World} {p gN gL cN cL:Nat} {vS vO:Value} {f:Int} {D:Dv} (h:DevC w p gN gL cN cL vS vO f D) (k:∀g,foot p gN gL vS vO g->w'.heap[g]?=w.heap[g]?):DevC w' p gN gL cN cL vS vO f D:=
 {h with
  cells:=(k p (.inl rfl)).trans h.cells
  now:=yN h.now (fun g hg=>k g (by simp [Value.ownBlock] at hg;exact .inr (.inl hg.symm)))
  sure:=yN h.sure (fun g hg=>k g (by simp [Value.ownBlock] at hg;exact .inr (.inr (.inl hg.symm))))
  since:=yN h.since (fun g hg=>k g (.inr (.inr (.inr (.inl hg)))))
  out:=h.out.keep (fun g hg=>k g (.inr (.inr (.inr (.inr hg)))))}
theorem Dev.keep {w w':World} {p:Nat} {F:Nat->Prop} {D:Dv} (h:Dev w p F D) (hs:w.heap.size<=w'.heap.size) (k:∀g,F g->w'.heap[g]?=w.heap[g]?):Dev w' p F D:=by
 obtain ⟨h1,h2,gN,gL,cN,cL,vS,vO,f,h3,h4⟩:=h;exact ⟨h1,fun g hg=>jV (h2 g hg) hs,gN,gL,cN,cL,vS,vO,f,h3.keep (fun g hg=>k g (h4 g hg)),h4⟩
theorem Dev.ch {w w':World} {p:Nat} {F G:Nat->Prop} {D:Dv} (h:Dev w p F D) (hc:Ch w.heap.size G w w') (hd:∀k,F k->¬G k):Dev w' p F D:=
 h.keep hc.size (fun g hg=>hc.block g (h.2.1 g hg) (hd g hg))
theorem Dev.below {w w':World} {p:Nat} {F:Nat->Prop} {D:Dv} (h:Dev w p F D) (hc:Below w.heap.size w w'):Dev w' p F D:=
 h.ch (Ch.of (fun _=>False) hc) (fun _ _ h=>h)
theorem Dev.p {w:World} {p:Nat} {F:Nat->Prop} {D:Dv} (h:Dev w p F D):F p/\p<w.heap.size:=by
 obtain ⟨_,h2,gN,gL,cN,cL,vS,vO,f,h3,h4⟩:=h;exact ⟨h4 p (.inl rfl),h2 p (h4 p (.inl rfl))⟩
theorem DevC.at {w:World} {p gN gL cN cL:Nat} {vS vO:Value} {f:Int} {D:Dv} (h:DevC w p gN gL cN cL vS vO f D):
  w.cell? ⟨p,0,none⟩=some (.slice (some ⟨gN,0,none⟩) D.now.length cN)/\w.cell? ⟨p,1,none⟩=some (.slice (some ⟨gL,0,none⟩) D.sure.length cL)/\w.cell? ⟨p,2,none⟩=some vS/\w.cell? ⟨p,3,none⟩=some vO/\
  w.cell? ⟨p,4,none⟩=some (.int .i64 f)/\w.cell? ⟨p,5,none⟩=some (.int .i64 D.ops)/\w.cell? ⟨p,6,none⟩=some (.bool D.dead)/\∀i,w.frozen? ⟨p,i,none⟩=false:=by
 have hc:=h.cells;refine ⟨?_,?_,?_,?_,?_,?_,?_,fun i=>?_⟩
 all_goals first|(rw [cell_of_row w p _ _ _ (0,0) hc];rfl)|skip
 unfold World.frozen?;rw [hc];simp
def aB (n:Int):Bool:=decide (8<=n/\n<=4096)
theorem allowed_any (n:Int) (w:World):Calls prog 34 #[.int .i64 n] w fun e w'=>e=.returned (.bool (aB n))/\w=w':=by
 have ht:∀(b:Bool),b=aB n->Ending.returned (.bool b)=.returned (.bool (aB n)):=fun b h=>by rw [h]
 by_cases h1:8<=n
 ·by_cases h2:n<=4096
  ·go_enter func34,ntmps34
   go_wp2;go_ret
   exact ⟨ht _ (by simp [aB];omega),rfl⟩
  ·go_enter func34,ntmps34
   go_wp2;go_ret
   exact ⟨ht _ (by simp [aB];omega),rfl⟩
 ·go_enter func34,ntmps34
  go_wp2;go_ret
  exact ⟨ht _ (by simp [aB];omega),rfl⟩
theorem newDev {w0 w:World} {p gN gL cN cL:Nat} {zs:List Int} (hw:w0.heap.size<=w.heap.size) (h1:Own w0.heap.size w (.slice (some ⟨gN,0,none⟩) zs.length cN) zs) (h2:Own w0.heap.size w (.slice (some ⟨gL,0,none⟩) zs.length cL) zs) (hNL:gN≠gL) (hp:p=w.heap.size)
  (hb:Bys zs) (n:Nat) (hl:zs.length=n*256) (h8:8<=n) (h4:n<=4096):
  Dev (w.alloc (.cells #[.slice (some ⟨gN,0,none⟩) zs.length cN,.slice (some ⟨gL,0,none⟩) zs.length cL,.slice none 0 0,.slice none 0 0,.int .i64 (-1),.int .i64 0,.bool false] 103)) p (fun k=>w0.heap.size<=k/\k<=w.heap.size) (newD zs):=by
 subst hp;have l1:=h1.lt2;have l2:=h2.lt2;refine ⟨newD_ok hb n hl h8 h4,fun k hk=>by simp;omega,gN,gL,cN,cL,_,_,-1,⟨heap_alloc_new w _,(h1.kept (Below.heap_alloc w _ gN l1.2)).zero,(h2.kept (Below.heap_alloc w _ gL l2.2)).zero,World.ownsRow_nil _ _ _ _,.inl ⟨rfl,rfl⟩,by decide,by decide,rfl,by omega,by omega,hNL,by simp [Value.ownBlock],by simp [Value.ownBlock],by simp [Value.ownBlock],by simp [Value.ownBlock],by simp [Value.ownBlock],by simp [Value.ownBlock],fun g hg=>by simp [Value.ownBlock] at hg⟩,fun k hk=>?_⟩;rcases hk with rfl|rfl|rfl|hk|hk
 ·exact ⟨hw,jB _⟩
 ·omega
 ·omega
 ·simp [Value.ownBlock] at hk
 ·simp [Value.ownBlock] at hk
theorem vA (ad:Addr) (cap:Nat) (zs:List Int) (w:World) (h:Row w (some ad) cap zs) (n:Nat) (hl:zs.length=n*256) (h8:8<=n) (h4:n<=4096):
  Calls prog 35 #[.slice (some ad) zs.length cap] w fun e w'=>∃p F,e=.returned (.pointer (some ⟨p,0,none⟩))/\Dev w' p F (newD zs)/\Below w.heap.size w w'/\∀k,F k->w.heap.size<=k:=by
 have hsz:zs.length<=140737488355328:=by omega
 have c1:=JO ad cap zs w h hsz;have c2:∀w1,Below w.heap.size w w1->Calls prog 48 #[.slice (some ad) zs.length cap] w1 fun e w'=>∃g c,e=.returned (.slice (some ⟨g,0,none⟩) zs.length c)/\Own w1.heap.size w' (.slice (some ⟨g,0,none⟩) zs.length c) zs/\Below w1.heap.size w1 w':=fun w1 hb=>JO ad cap zs w1 (h.below hb) hsz
 have hby:=h.1;have HL:Hid (zs.length=n*256):=hl;clear h hl;go_enter func35,ntmps35
 go_wp2_with fail
 refine c1.mono ?_;clear c1;rintro e w1 ⟨g1,k1,rfl,ho1,hb1⟩;go_wp2_with fail
 refine (c2 w1 hb1).mono ?_;clear c2;rintro e w2 ⟨g2,k2,rfl,ho2,hb2⟩;have l1:=ho1.lt2;have l2:=ho2.lt2;have s1:=hb1.size;have s2:=hb2.size;have HD:=newDev (p:=w2.heap.size) (w0:=w) (w:=w2) (by omega) (ho1.kept (hb2.block g1 l1.2)) (yS ho2 (fun g hg=>by simp [Value.ownBlock] at hg;omega)) (by omega) rfl hby n HL.out h8 h4;have HB:Hid (Below w.heap.size w (w2.alloc (.cells #[.slice (some ⟨g1,0,none⟩) zs.length k1,.slice (some ⟨g2,0,none⟩) zs.length k2,.slice none 0 0,.slice none 0 0,.int .i64 (-1),.int .i64 0,.bool false] 103))):=(hb1.trans (hb2.mono s1)).alloc (by omega) _;have H2:=HD;clear ho1 ho2 hb1 hb2 HL HD;have HD:Hid _:=H2;clear H2;go_wp2;go_ret
 exact ⟨w2.heap.size,_,rfl,HD.out,HB.out,fun k hk=>hk.1⟩
theorem new_no (n:Int) (w:World) (h:aB n=false):Calls prog 49 #[.int .i64 n] w fun e w'=>e=.returned (.tuple #[.pointer none,.int .i64 1])/\w=w':=by
 go_enter func49,ntmps49
 go_wp2_with (go_at_call 34;refine (allowed_any _ _).mono ?_;rintro e w' ⟨rfl,rfl⟩)
 go_ret2
 exact ⟨rfl,rfl⟩
theorem new_yes (n:Nat) (w:World) (h8:8<=n) (h4:n<=4096):
  Calls prog 49 #[.int .i64 n] w fun e w'=>∃p F,e=.returned (.tuple #[.pointer (some ⟨p,0,none⟩),.int .i64 0])/\Dev w' p F (newD (List.replicate (n*256) 0))/\Below w.heap.size w w'/\∀k,F k->w.heap.size<=k:=by
 obtain ⟨i0,hi0,hz0,hz1,hz2⟩:=info_parts info5;have ha:aB n=true:=by simp [aB];omega
 have c1:∀(ad:Addr) (cap:Nat) (w1:World),Row w1 (some ad) cap (List.replicate (n*256) 0)->Calls prog 35 #[.slice (some ad) (n*256) cap] w1 fun e w'=>∃p F,e=.returned (.pointer (some ⟨p,0,none⟩))/\Dev w' p F (newD (List.replicate (n*256) 0))/\Below w1.heap.size w1 w'/\∀k,F k->w1.heap.size<=k:=fun ad cap w1 hr=>by
  have:=vA ad cap _ w1 hr n (by simp) h8 h4
  rwa [jJ] at this
 have hm:n*256<=maxLen:=by unfold maxLen;omega
 have hk:((n:Int)*256)=((n*256:Nat):Int):=by omega
 obtain ⟨N,hN⟩:∃N,n*256=N:=⟨_,rfl⟩;have h8':2048<=N:=by omega
 have h4':N<=1048576:=by omega
 rw [hN] at c1 hk hm;have HN:Hid (n*256=N):=hN;clear hN;rw [show n*256=N from HN.out];go_enter func49,ntmps49
 go_wp2_with (first|(go_at_call 34;refine (allowed_any _ _).mono ?_;rintro e w' ⟨rfl,rfl⟩)|(at_make;refine wpList_make_full _ rfl _ _ 22 rfl w.heap.size 5 i0 (.int .u8 0) 1 underlying22 hi0 hz0 hz1 .i64 .i64 _ _ N rfl rfl rfl rfl (by rw [hz2];omega) hm (jB _) ?_;intro w1 hown1 hgrow1))
 have hb1:Below w.heap.size w w1:=(Below.refl _ w).grown hgrow1 (jB _) (by simp)
 have hrow:Row w1 (some ⟨w.heap.size,0,none⟩) N (List.replicate N 0):=by
  exact ((JG hown1).row' (QK _)).2
 refine (c1 _ _ _ hrow).mono ?_;clear c1 hown1 hgrow1 hrow;rintro e w2 ⟨p,F,rfl,hd,hb2,hF⟩;have s1:=hb1.size;have HD:Hid (Dev w2 p F (newD (List.replicate N 0))):=hd;have HB:Hid (Below w.heap.size w w2):=hb1.trans (hb2.mono s1);clear hd hb1 hb2;go_wp2;go_ret2
 exact ⟨p,F,rfl,HD.out,HB.out,fun k hk=>jR s1 (hF k hk)⟩
theorem made_any {w:World} {p:Nat} {F:Nat->Prop} {D:Dv} (h:Dev w p F D):Calls prog 47 #[.pointer (some ⟨p,0,none⟩)] w fun e w'=>e=.returned (.bool true)/\w=w':=by
 obtain ⟨ok,_,gN,gL,cN,cL,vS,vO,f,hc,_⟩:=h;have c0:=hc.at.1;have hl:0<D.now.length:=by have:=ok.now;have:=ok.n8;omega
 clear ok hc;go_enter func47,ntmps47
 go_wp2;go_ret
 exact ⟨rfl,rfl⟩
theorem YB {w:World} {p:Nat} {F:Nat->Prop} {D:Dv} (h:Dev w p F D):Calls prog 39 #[.pointer (some ⟨p,0,none⟩)] w fun e w'=>e=.returned (.int .i64 D.n)/\w=w':=by
 have hm:=made_any h;obtain ⟨ok,_,gN,gL,cN,cL,vS,vO,f,hc,_⟩:=h;have c0:=hc.at.1;have e:(D.now.length:Int)/256=D.n:=by have:=ok.now;omega
 have hl:D.now.length<=1048576:=by have:=ok.now;have:=ok.n4;omega
 clear ok hc;go_enter func39,ntmps39
 go_wp2_with (go_at_call 47;refine hm.mono ?_;rintro e w' ⟨rfl,rfl⟩)
 go_ret
 exact ⟨rfl,rfl⟩
def hasB (D:Dv) (pg:Int):Bool:=decide (0<=pg/\pg<D.n)
theorem has_any {w:World} {p:Nat} {F:Nat->Prop} {D:Dv} (h:Dev w p F D) (pg:Int):Calls prog 98 #[.pointer (some ⟨p,0,none⟩),.int .i64 pg] w fun e w'=>e=.returned (.bool (hasB D pg))/\w=w':=by
 have hm:=YB h;have ht:∀(b:Bool),b=hasB D pg->Ending.returned (.bool b)=.returned (.bool (hasB D pg)):=fun b h=>by rw [h]
 clear h;by_cases h0:0<=pg
 ·by_cases h1:pg<D.n
  ·go_enter func98,ntmps98
   go_wp2_with (go_at_call 39;refine hm.mono ?_;rintro e w' ⟨rfl,rfl⟩)
   go_ret
   exact ⟨ht _ (by simp [hasB];omega),rfl⟩
  ·go_enter func98,ntmps98
   go_wp2_with (go_at_call 39;refine hm.mono ?_;rintro e w' ⟨rfl,rfl⟩)
   go_ret
   exact ⟨ht _ (by simp [hasB];omega),rfl⟩
 ·go_enter func98,ntmps98
  go_wp2_with (go_at_call 39;refine hm.mono ?_;rintro e w' ⟨rfl,rfl⟩)
  go_ret
  exact ⟨ht _ (by simp [hasB];omega),rfl⟩
end Go.Proofs.YtaijfhadecennabGreat.Oct
