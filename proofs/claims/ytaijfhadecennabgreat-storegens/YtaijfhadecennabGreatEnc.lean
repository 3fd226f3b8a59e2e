/- Part of a proof. -/
import Derived.Test.YtaijfhadecennabGreatEml
import Derived.Test.YtaijfhadecennabGreatEmt
import Derived.Test.YtaijfhadecennabGreatKo
import Derived.Test.YtaijfhadecennabGreatRn
import Derived.Laws.ResultCell
import Derived.Laws.Tables
import Derived.Test.YtaijfhadecennabGreatAua
import Derived.Deep.DeepCutAuto
import Derived.Deep.CutBlock
namespace Go.Proofs.YtaijfhadecennabGreat.Oct.Sx
open Go.RowKit
section
variable {w w':World} {s d:Nat} {F:Nat->Prop} {X:St}
theorem Sto.dev (h:Sto w s d F X):∃Fd,Dev w d Fd X.D/\(∀k,Fd k->F k)/\∀(w':World) (D':Dv) (Fd':Nat->Prop),Dev w' d Fd' D'->D'.n=X.D.n->Step Fd Fd' w w'->∃F',Sto w' s d F' {X with D:=D'}/\Step F F' w w':=by
 obtain ⟨p,sp,aC,cC,lab,hS,hlab,hlt⟩:=h;obtain ⟨F1,hp,hF1⟩:=hS.pool;obtain ⟨Fd,h1,h2,h3⟩:=hp.dev;refine ⟨Fd,h1,fun k hk=>hlab k (by have:=hF1 k (h2 k hk);omega),fun w' D' Fd' hd hn st=>?_⟩;obtain ⟨F1',hp',st'⟩:=h3 w' D' Fd' hd hn st;have hs:=hS.pool' hF1 hp.lt hp' st'
 exact StoO.out ⟨p,sp,aC,cC,_,hs,fun k hk=>by
  by_cases hlt:k<w.heap.size
  ·rw [yW hlt] at hk;exact .inl (hlab k hk)
  ·exact .inr (by omega),st'.1.mono (jB _) (fun k _ e=>hlab k (by have:=hF1 k e;omega))⟩
theorem Sto.lt (h:Sto w s d F X):∀k,F k->k<w.heap.size:=by
 obtain ⟨_,_,_,_,_,_,_,h⟩:=h;exact h
theorem Sto.keep (h:Sto w s d F X) (hs:w.heap.size<=w'.heap.size) (k:∀g,F g->w'.heap[g]?=w.heap[g]?):Sto w' s d F X:=by
 obtain ⟨p,sp,aC,cC,lab,hS,hlab,hlt⟩:=h;obtain ⟨F1,p1,p2⟩:=hS.pool;obtain ⟨F2,q1,q2⟩:=hS.space;have kk:∀g,lab g<=3->w'.heap[g]?=w.heap[g]?:=fun g hg=>k g (hlab g hg)
 exact ⟨p,sp,aC,cC,lab,⟨(kk s (by rw [hS.l0];omega)).trans hS.cells,hS.l0,⟨F1,p1.keep hs (fun g hg=>kk g (by rw [p2 g hg];omega)),p2⟩,⟨F2,yZ q1 hs (fun g hg=>kk g (by rw [q2 g hg];omega)),q2⟩,
  yN hS.ch (fun g hg=>kk g (by rw [hS.lc g (yX hg)];omega)),hS.lc⟩,hlab,fun g hg=>jV (hlt g hg) hs⟩
theorem Sto.ch (h:Sto w s d F X) {G:Nat->Prop} (hc:Ch w.heap.size G w w') (hd:∀k,F k->¬G k):Sto w' s d F X:=h.keep hc.size (fun g hg=>hc.block g (h.lt g hg) (hd g hg))
theorem Sto.below (h:Sto w s d F X) (hb:Below w.heap.size w w'):Sto w' s d F X:=h.keep hb.size (fun g hg=>hb.block g (h.lt g hg))
end
theorem pin_un {D:Dv} {N:Nat} {L:List Fr} {x:Nat} {Y:List Fr} {f:Fr} (hE:usE D N L x true=0) (hL:usL D N L x true=Y++[f]) (hf:f.page=x) (hY:∀g∈Y,g.page≠x) (hp:f.pins=0):
  pnL D N L x=Y++[{f with pins:=1}]/\pnB D N L x=f.b/\unL (Y++[{f with pins:=1}]) (x:Int)=Y++[f]/\unE (Y++[{f with pins:=1}]) (x:Int)=0:=by
 have h1:pnL D N L x=Y++[{f with pins:=1}]:=by
  unfold pnL;rw [if_pos hE,hL,JW,hp]
 have h2:fiP (Y++[{f with pins:=1}]) (x:Int)=Y.length:=by
  unfold fiP;rw [List.findIdx_append,List.findIdx_eq_length_of_false (by intro g hg;exact jM (fun e=>hY g hg (by omega))),if_neg (Nat.lt_irrefl _)];simp [hf]
 have h3:(Y++[{f with pins:=1}]).getD Y.length fr0={f with pins:=1}:=by
  rw [jA,xH (jB _),Nat.sub_self];rfl
 have h4:pinB (Y++[{f with pins:=1}]) (x:Int)=true:=by
  unfold pinB;rw [h2,h3,jO,List.length_singleton];simp
 refine ⟨h1,by unfold pnB;rw [hL];simp,?_,by unfold unE;rw [if_pos h4]⟩;unfold unL;rw [if_pos h4,h2,h3,xD _ _ (jB _),Nat.sub_self];have e:({f with pins:=1-1}:Fr)=f:=by cases f;simp_all
 show Y++[({f with pins:=1-1}:Fr)]=_;rw [e]
section
variable {w w':World} {s d:Nat} {F:Nat->Prop} {X:St}
theorem has_any (h:Sto w s d F X) (x:Int) (hx:0<=x/\x<X.D.n):Calls Tryz.prog 44 #[.pointer (some ⟨s,0,none⟩),.int .i64 x] w fun e w'=>e=.returned (.bool true)/\w=w':=by
 obtain ⟨p,sp,aC,cC,lab,hS,hlab,hlt⟩:=h;obtain ⟨F1,hp,hF1⟩:=hS.pool;have hpg:=JP hp;have s0:=hS.at.1;have g1:decide ((0:Int)<=x)=true:=jF hx.1;have g2:decide (x<(X.D.n:Int))=true:=jF hx.2;clear hS hp hlab hlt hF1;go_enter Tryz.func44,Tryz.ntmps44
 go_wp2_with (go_at_call 39;refine hpg.mono ?_;rintro e w' ⟨rfl,rfl⟩)
 go_ret
 exact ⟨rfl,rfl⟩
structure RdS (X X':St):Prop where
 eq:X'={X with D:=X'.D,L:=X'.L}
 fi:FI X'.D X'.N X'.L
 nd:∀k,¬DP X'.L k
 ac:∃c,Acts (fun _=>False) c X.D X'.D/\c<=2
theorem acts_now {D E:Dv} {c:Nat} (h:Acts (fun _=>False) c D E):E.now=D.now/\E.sure=D.sure/\E.since=D.since:=by
 refine h.ind (P:=fun G=>G.now=D.now/\G.sure=D.sure/\G.since=D.since) ⟨rfl,rfl,rfl⟩ (fun G hG=>?_) (fun _ _ _ _ hf=>hf.elim)
 have:(readD G).now=G.now/\(readD G).sure=G.sure/\(readD G).since=G.since:=by
  unfold readD;split
  ·exact ⟨rfl,rfl,rfl⟩
  ·split<;>exact ⟨rfl,rfl,rfl⟩
 exact ⟨this.1.trans hG.1,this.2.1.trans hG.2.1,this.2.2.trans hG.2.2⟩
set_option maxHeartbeats 1000000 in
theorem Read_any (h:Sto w s d F X) (fi:FI X.D X.N X.L) (nd:∀k,¬DP X.L k) (hw:Well X.D) (hops:X.D.ops<=999999000) (hsi:X.D.since.length<=1000000) (x:Nat) (hx:x<X.D.n):
  Calls Tryz.prog 72 #[.pointer (some ⟨s,0,none⟩),.int .i64 x] w fun e w'=>∃g c X' F',e=.returned (.tuple #[.slice (some ⟨g,0,none⟩) 256 c,.int .i64 0])/\Own w.heap.size w' (.slice (some ⟨g,0,none⟩) 256 c) (pageOf X.D.now x)/\RdS X X'/\Sto w' s d F' X'/\Step F F' w w':=by
 obtain ⟨p,sp,aC,cC,lab,hS,hlab,hlt⟩:=h;obtain ⟨F1,hp,hF1⟩:=hS.pool;obtain ⟨s0,s1,_⟩:=hS.at;have hN:=pool_n hp;have hmd:=QV s d w s0;have hpin:=Pin_new hp (by omega) hsi (fun f hf=>by rw [fi.pins f hf];omega) x hx;obtain ⟨E,hE⟩:∃E,usE X.D X.N X.L x true=E:=⟨_,rfl⟩;obtain ⟨D',hD⟩:∃D',usD X.D X.N X.L x true=D':=⟨_,rfl⟩;obtain ⟨L',hL⟩:∃L',usL X.D X.N X.L x true=L':=⟨_,rfl⟩;obtain ⟨f1,f2,f3,f4,f5⟩:=fi.pin (by omega) hx hE hD hL
 have hE0:E=0:=by
  rcases f5 with ⟨e,_⟩|⟨_,e⟩
  ·exact e
  ·exact absurd e (hw.not_bad f3.mo)
 obtain ⟨Y,f,hLY,hfp,hY,hfb⟩:=(f5.resolve_right (fun e=>by rw [hE0] at e;exact absurd e.1 (by decide))).2;have hpf:f.pins=0:=f1.pins f (by rw [hLY];simp);obtain ⟨u1,u2,u3,u4⟩:=pin_un (hE.trans hE0) (hL.trans hLY) hfp hY hpf
 have hb:f.b=pageOf X.D.now x:=by
  refine hfb _ ⟨fun g hg hgx=>?_,fun _=>rfl⟩;by_cases hd:g.dirty=true
  ·exact absurd ⟨g,hg,hgx,hd⟩ (nd x)
  ·exact ((fi.agree g hg (by simpa using hd)).symm.trans (by rw [hgx]))
 rw [u1] at hpin
 have hun:=fun (wx:World) (Fx:Nat->Prop) (hpx:Pool wx p d Fx D' X.N (Y++[{f with pins:=1}]))=>Unpin_any hpx (fun g hg=>by
  rcases List.mem_append.1 hg with hg|hg
  ·rw [f1.pins g (by rw [hLY];exact qK _ hg)];omega
  ·rw [List.mem_singleton.1 hg];show 1<=_;omega) (x:Int) (by have h4:=fi.ok.n4;clear hpin;simp [Lit.wf,IntKind.min,IntKind.max,IntKind.signed,IntKind.bits];omega)
 rw [u3,u4] at hun;rw [hD] at hpin
 have HK:Hid (StoC w s d p sp aC cC lab X/\(∀k,lab k<=3->F k)/\(∀k,F k->k<w.heap.size)/\(∀k,F1 k->lab k=1)/\(∀k,F1 k->k<w.heap.size)/\FI D' X.N (Y++[f])/\(∀k,¬DP (Y++[f]) k)/\Acts (DP X.L) 2 X.D D'/\pnB X.D X.N X.L x=pageOf X.D.now x/\usE X.D X.N X.L x true=0):=
  ⟨hS,hlab,hlt,hF1,hp.lt,by rw [<-hLY];exact f1,fun k hk=>nd k (f4 k (by rw [hLY];exact hk)),f3,u2.trans hb,hE.trans hE0⟩
 have HND:Hid (∀k,¬DP X.L k):=nd;clear hS hp hlab hlt hF1 fi nd hw hops hsi hN hE hD hL f1 f2 f3 f4 f5 hE0 hLY hfp hY hfb hpf u1 u2 u3 u4 hb;go_enter Tryz.func72,Tryz.ntmps72
 go_wp2_with (first
  |(go_at_call 43;refine hmd.mono ?_;rintro e w' ⟨rfl,rfl⟩;clear hmd)
  |(go_at_call 116;refine hpin.mono ?_;rintro e w1 ⟨hr,F2,hp2,st2,hg2⟩
    have hr2:∃g c,e=.returned (.tuple #[.slice (some ⟨g,0,none⟩) 256 c,.int .i64 0])/\Own w.heap.size w1 (.slice (some ⟨g,0,none⟩) 256 c) (pageOf X.D.now x):=by
     rcases hr with ⟨_,g,c,e1,e2⟩|⟨e1,_⟩
     ·exact ⟨g,c,e1,by rw [<-HK.out.2.2.2.2.2.2.2.2.1];exact e2⟩
     ·exact absurd HK.out.2.2.2.2.2.2.2.2.2 e1
    obtain ⟨g,c,rfl,ho⟩:=hr2;have hgF:=hg2 g c _ rfl;have hun2:=hun w1 F2 hp2;have t1:w1.cell? ⟨s,1,none⟩=some (.pointer (some ⟨p,0,none⟩)):=((HK.out.1.pool' HK.out.2.2.2.1 HK.out.2.2.2.2.1 hp2 st2)).at.2.1;have HP:Hid (Pool w1 p d F2 D' X.N (Y++[{f with pins:=1}])/\Step F1 F2 w w1/\Own w.heap.size w1 (.slice (some ⟨g,0,none⟩) 256 c) (pageOf X.D.now x)/\¬F2 g):=⟨hp2,st2,ho,hgF⟩;clear hpin hr hp2 st2 ho hun s0 s1 hg2 hgF)
  |(go_at_call 117;refine hun2.mono ?_;rintro e w2 ⟨rfl,hp3,hc3⟩
    have HF:Hid (Pool w2 p d F2 D' X.N (Y++[f])/\Ch w1.heap.size F2 w1 w2):=⟨hp3,hc3⟩;clear hun2 hp3 hc3))
 go_ret2
 obtain ⟨h1,h2,h3,h4,h5,h6,h7,h8,h9,_⟩:=HK.out;obtain ⟨p2,st2,ho,hgF⟩:=HP.out;obtain ⟨p3,hc3⟩:=HF.out;have st3:Step F1 F2 w w2:=st2.trans (Step.of hc3);have hs:=h1.pool' h4 h5 p3 st3;have lg:=ho.lt2;have ho2:Own w.heap.size w2 (.slice (some ⟨g,0,none⟩) 256 c) (pageOf X.D.now x):=ho.kept (hc3.block g lg.2 hgF)
 obtain ⟨F',hF1,hF2⟩:=StoO.out (w0:=w) (F0:=F) ⟨p,sp,aC,cC,_,hs,fun k hk=>by
  by_cases hlt:k<w.heap.size
  ·rw [yW hlt] at hk;exact .inl (h2 k hk)
  ·exact .inr (by omega),st3.1.mono (jB _) (fun k _ e=>h2 k (by have:=h4 k e;omega))⟩
 refine ⟨g,c,{X with D:=D',L:=Y++[f]},F',rfl,ho2,⟨rfl,h6,h7,2,?_,jB _⟩,hF1,hF2⟩;exact h8.mono (fun k hk=>(HND.out k hk).elim) (jB _)
end
end Go.Proofs.YtaijfhadecennabGreat.Oct.Sx
namespace Go.Proofs.YtaijfhadecennabGreat.Oct
open Go.RowKit
theorem XL {P:Program} {fn:Func} {p u:Tmp} {ty:TypeId} (h:fn.results= #[.cell p ty,.tmp u]) (tmps:Array Value) (w:World) (g:Nat) (t:TypeId) (cs:Array Value) (fr:Nat × Nat) (d:TypeDesc)
  (hp:tmps.getD p undef=.pointer (some ⟨g,0,none⟩)) (hg:w.heap[g]?=some (.cells cs t fr))
  (hu:P.underlying ty=some d) (hd:(match d with| .struct _| .array _ _=>true|_=>false)=true) (hi:(P.info? ty).map (·.size)=some cs.size):
  (results fn tmps).run P w=.ok (.tuple #[.agg cs,tmps.getD u undef]) w:=by
 rw [results_cell_tmp h,hp];simp [asAddr,Result.andThen,run_loadVar_row w g t ty cs fr d hg hu hd hi]
def StR (x y:Value):Sem Unit:=Instr.storeAt 40 x y
theorem FT (x y:Value):Instr.storeAt 40 x y=StR x y:=rfl
attribute [local go_sem ↓] FT
end Go.Proofs.YtaijfhadecennabGreat.Oct
namespace Go.Proofs.YtaijfhadecennabGreat.Oct
open Go.RowKit
def spC (S:Sp):Array Value:= #[.int .i64 S.g,.int .i64 S.p,.int .i64 S.r,.int .i64 S.h,.int .i64 S.b,.int .i64 S.l,.int .i64 S.s,.int .i64 S.f]
def StS (x y:Value):Sem Unit:=Instr.storeAt 26 x y
theorem kA (x y:Value):Instr.storeAt 26 x y=StS x y:=rfl
def LdR (x:Value):Sem Value:=Instr.loadAt 40 x
theorem LdR_eq (x:Value):Instr.loadAt 40 x=LdR x:=rfl
theorem uW (p:Nat):∀(vs:List Value) (o:Nat) (w:World),Ch w.heap.size (fun x=>x=p) w (w.setCells p o vs)
 |[],_,w=>Ch.refl _ _ w
 |v::r,o,w=>by
  rw [World.setCells];have h1:Ch w.heap.size (fun x=>x=p) w (w.setCell ⟨p,o,none⟩ v):=(Ch.refl _ (fun x=>x=p) w).setCell (p:=⟨p,o,none⟩) (.inr rfl) v;have h2:=uW p r (o+1) (w.setCell ⟨p,o,none⟩ v);rw [yL] at h2;exact h1.trans h2
end Go.Proofs.YtaijfhadecennabGreat.Oct
namespace Go.Proofs.YtaijfhadecennabGreat.Oct
open Go.RowKit
attribute [local go_sem ↓] FT kA LdR_eq
end Go.Proofs.YtaijfhadecennabGreat.Oct
