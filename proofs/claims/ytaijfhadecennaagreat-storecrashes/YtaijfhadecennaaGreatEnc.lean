/- Part of a proof. -/
import Derived.Test.YtaijfhadecennaaGreatEml
import Derived.Test.YtaijfhadecennaaGreatEmt
import Derived.Test.YtaijfhadecennaaGreatKo
import Derived.Test.YtaijfhadecennaaGreatUf
import Derived.Laws.ResultCell
import Derived.Laws.Tables
import Derived.Test.YtaijfhadecennaaGreatAua
import Derived.Deep.DeepCutAuto
import Derived.Deep.CutBlock
set_option maxHeartbeats 4000000
namespace Go.Proofs.YtaijfhadecennaaGreat.Oct.Sx
open Go.RowKit
section
variable {w w':World} {s d:Nat} {F:Nat->Prop} {X:St}
theorem Sto.dev (h:Sto w s d F X):∃Fd,Dev w d Fd X.D/\(∀k,Fd k->F k)/\∀(w':World) (D':Dv) (Fd':Nat->Prop),Dev w' d Fd' D'->D'.n=X.D.n->Step Fd Fd' w w'->∃F',Sto w' s d F' {X with D:=D'}/\Step F F' w w':=by
 obtain ⟨p,sp,aC,cC,lab,hS,hlab,hlt⟩:=h;obtain ⟨F1,hp,hF1⟩:=hS.pool;obtain ⟨Fd,h1,h2,h3⟩:=hp.dev;refine ⟨Fd,h1,fun k hk=>hlab k (by have:=hF1 k (h2 k hk);omega),fun w' D' Fd' hd hn st=>?_⟩;obtain ⟨F1',hp',st'⟩:=h3 w' D' Fd' hd hn st;have hs:=hS.pool' hF1 hp.lt hp' st'
 exact StoO.out ⟨p,sp,aC,cC,_,hs,fun k hk=>by
  by_cases hlt:k<w.heap.size
  ·rw [relab_lo hlt] at hk;exact .inl (hlab k hk)
  ·exact .inr (by omega),st'.1.mono (jB _) (fun k _ e=>hlab k (by have:=hF1 k e;omega))⟩
theorem Sto.lt (h:Sto w s d F X):∀k,F k->k<w.heap.size:=by
 obtain ⟨_,_,_,_,_,_,_,h⟩:=h;exact h
theorem Sto.keep (h:Sto w s d F X) (hs:w.heap.size<=w'.heap.size) (k:∀g,F g->w'.heap[g]?=w.heap[g]?):Sto w' s d F X:=by
 obtain ⟨p,sp,aC,cC,lab,hS,hlab,hlt⟩:=h;obtain ⟨F1,p1,p2⟩:=hS.pool;obtain ⟨F2,q1,q2⟩:=hS.space;have kk:∀g,lab g<=3->w'.heap[g]?=w.heap[g]?:=fun g hg=>k g (hlab g hg)
 exact ⟨p,sp,aC,cC,lab,⟨(kk s (by rw [hS.l0];omega)).trans hS.cells,hS.l0,⟨F1,p1.keep hs (fun g hg=>kk g (by rw [p2 g hg];omega)),p2⟩,⟨F2,spa_keep q1 hs (fun g hg=>kk g (by rw [q2 g hg];omega)),q2⟩,
  owns_keep hS.ch (fun g hg=>kk g (by rw [hS.lc g (obl_own hg)];omega)),hS.lc⟩,hlab,fun g hg=>qA (hlt g hg) hs⟩
theorem Sto.ch (h:Sto w s d F X) {G:Nat->Prop} (hc:Ch w.heap.size G w w') (hd:∀k,F k->¬G k):Sto w' s d F X:=h.keep hc.size (fun g hg=>hc.block g (h.lt g hg) (hd g hg))
theorem Sto.below (h:Sto w s d F X) (hb:Below w.heap.size w w'):Sto w' s d F X:=h.keep hb.size (fun g hg=>hb.block g (h.lt g hg))
end
theorem pin_un {D:Dv} {N:Nat} {L:List Fr} {x:Nat} {Y:List Fr} {f:Fr} (hE:usE D N L x true=0) (hL:usL D N L x true=Y++[f]) (hf:f.page=x) (hY:∀g∈Y,g.page≠x) (hp:f.pins=0):
  pnL D N L x=Y++[{f with pins:=1}]/\pnB D N L x=f.b/\unL (Y++[{f with pins:=1}]) (x:Int)=Y++[f]/\unE (Y++[{f with pins:=1}]) (x:Int)=0:=by
 have h1:pnL D N L x=Y++[{f with pins:=1}]:=by
  unfold pnL;rw [if_pos hE,hL,lastUp_snoc,hp]
 have h2:fiP (Y++[{f with pins:=1}]) (x:Int)=Y.length:=by
  unfold fiP;rw [List.findIdx_append,List.findIdx_eq_length_of_false (by intro g hg;exact jH (fun e=>hY g hg (by omega))),if_neg (Nat.lt_irrefl _)];simp [hf]
 have h3:(Y++[{f with pins:=1}]).getD Y.length fr0={f with pins:=1}:=by
  rw [jA,xE (jB _),Nat.sub_self];rfl
 have h4:pinB (Y++[{f with pins:=1}]) (x:Int)=true:=by
  unfold pinB;rw [h2,h3,jO,List.length_singleton];simp
 refine ⟨h1,by unfold pnB;rw [hL];simp,?_,by unfold unE;rw [if_pos h4]⟩;unfold unL;rw [if_pos h4,h2,h3,xH _ _ (jB _),Nat.sub_self];have e:({f with pins:=1-1}:Fr)=f:=by cases f;simp_all
 show Y++[({f with pins:=1-1}:Fr)]=_;rw [e]
section
variable {w w':World} {s d:Nat} {F:Nat->Prop} {X:St}
theorem has_any (h:Sto w s d F X) (x:Int) (hx:0<=x/\x<X.D.n):Calls Tryz.prog 56 #[.pointer (some ⟨s,0,none⟩),.int .i64 x] w fun e w'=>e=.returned (.bool true)/\w=w':=by
 obtain ⟨p,sp,aC,cC,lab,hS,hlab,hlt⟩:=h;obtain ⟨F1,hp,hF1⟩:=hS.pool;have hpg:=Pool_pages hp;have s0:=hS.at.1;have g1:decide ((0:Int)<=x)=true:=jE hx.1;have g2:decide (x<(X.D.n:Int))=true:=jE hx.2;clear hS hp hlab hlt hF1;go_enter Tryz.func56,Tryz.ntmps56
 go_wp2_with (go_at_call 48;refine hpg.mono ?_;rintro e w' ⟨rfl,rfl⟩)
 go_ret
 exact ⟨rfl,rfl⟩
structure RdS (X X':St):Prop where
 eq:X'={X with D:=X'.D,L:=X'.L}
 fi:FI X'.D X'.N X'.L
 nd:∀k,¬DP X'.L k
 ac:∃c,Acts (fun _=>False) c X.D X'.D/\c<=2
theorem acts_now {D E:Dv} {c:Nat} (h:Acts (fun _=>False) c D E):E.now=D.now/\E.sure=D.sure/\E.since=D.since:=by
 refine h.ind (P:=fun G=>G.now=D.now/\G.sure=D.sure/\G.since=D.since) ⟨rfl,rfl,rfl⟩ (fun G hG=>?_) (fun _ _ _ _ hf=>hf.elim)
 have:(readD G).now=G.now/\(readD G).sure=G.sure/\(readD G).since=G.since:=by
  unfold readD;split
  ·exact ⟨rfl,rfl,rfl⟩
  ·split<;>exact ⟨rfl,rfl,rfl⟩
 exact ⟨this.1.trans hG.1,this.2.1.trans hG.2.1,this.2.2.trans hG.2.2⟩
theorem Read_any (h:Sto w s d F X) (fi:FI X.D X.N X.L) (nd:∀k,¬DP X.L k) (hw:Well X.D) (hops:X.D.ops<=999999000) (hsi:X.D.since.length<=1000000) (x:Nat) (hx:x<X.D.n):
  Calls Tryz.prog 35 #[.pointer (some ⟨s,0,none⟩),.int .i64 x] w fun e w'=>∃g c X' F',e=.returned (.tuple #[.slice (some ⟨g,0,none⟩) 256 c,.int .i64 0])/\Own w.heap.size w' (.slice (some ⟨g,0,none⟩) 256 c) (pageOf X.D.now x)/\RdS X X'/\Sto w' s d F' X'/\Step F F' w w':=by
 obtain ⟨p,sp,aC,cC,lab,hS,hlab,hlt⟩:=h;obtain ⟨F1,hp,hF1⟩:=hS.pool;obtain ⟨s0,s1,_⟩:=hS.at;have hN:=pool_n hp;have hmd:=made_yes s d w s0;have hpin:=Pin_new hp (by omega) hsi (fun f hf=>by rw [fi.pins f hf];omega) x hx;obtain ⟨E,hE⟩:∃E,usE X.D X.N X.L x true=E:=⟨_,rfl⟩;obtain ⟨D',hD⟩:∃D',usD X.D X.N X.L x true=D':=⟨_,rfl⟩;obtain ⟨L',hL⟩:∃L',usL X.D X.N X.L x true=L':=⟨_,rfl⟩;obtain ⟨f1,f2,f3,f4,f5⟩:=fi.pin (by omega) hx hE hD hL
 have hE0:E=0:=by
  rcases f5 with ⟨e,_⟩|⟨_,e⟩
  ·exact e
  ·exact absurd e (hw.not_bad f3.mo)
 obtain ⟨Y,f,hLY,hfp,hY,hfb⟩:=(f5.resolve_right (fun e=>by rw [hE0] at e;exact absurd e.1 (by decide))).2;have hpf:f.pins=0:=f1.pins f (by rw [hLY];simp);obtain ⟨u1,u2,u3,u4⟩:=pin_un (hE.trans hE0) (hL.trans hLY) hfp hY hpf
 have hb:f.b=pageOf X.D.now x:=by
  refine hfb _ ⟨fun g hg hgx=>?_,fun _=>rfl⟩;by_cases hd:g.dirty=true
  ·exact absurd ⟨g,hg,hgx,hd⟩ (nd x)
  ·exact ((fi.agree g hg (by simpa using hd)).symm.trans (by rw [hgx]))
 rw [u1] at hpin
 have hun:=fun (wx:World) (Fx:Nat->Prop) (hpx:Pool wx p d Fx D' X.N (Y++[{f with pins:=1}]))=>Unpin_any hpx (fun g hg=>by
  rcases List.mem_append.1 hg with hg|hg
  ·rw [f1.pins g (by rw [hLY];exact qL _ hg)];omega
  ·rw [List.mem_singleton.1 hg];show 1<=_;omega) (x:Int) (by have h4:=fi.ok.n4;clear hpin;simp [Lit.wf,IntKind.min,IntKind.max,IntKind.signed,IntKind.bits];omega)
 rw [u3,u4] at hun;rw [hD] at hpin
 have HK:Hid (StoC w s d p sp aC cC lab X/\(∀k,lab k<=3->F k)/\(∀k,F k->k<w.heap.size)/\(∀k,F1 k->lab k=1)/\(∀k,F1 k->k<w.heap.size)/\FI D' X.N (Y++[f])/\(∀k,¬DP (Y++[f]) k)/\Acts (DP X.L) 2 X.D D'/\pnB X.D X.N X.L x=pageOf X.D.now x/\usE X.D X.N X.L x true=0):=
  ⟨hS,hlab,hlt,hF1,hp.lt,by rw [<-hLY];exact f1,fun k hk=>nd k (f4 k (by rw [hLY];exact hk)),f3,u2.trans hb,hE.trans hE0⟩
 have HND:Hid (∀k,¬DP X.L k):=nd;clear hS hp hlab hlt hF1 fi nd hw hops hsi hN hE hD hL f1 f2 f3 f4 f5 hE0 hLY hfp hY hfb hpf u1 u2 u3 u4 hb;go_enter Tryz.func35,Tryz.ntmps35
 go_wp2_with (first
  |(go_at_call 55;refine hmd.mono ?_;rintro e w' ⟨rfl,rfl⟩;clear hmd)
  |(go_at_call 78;refine hpin.mono ?_;rintro e w1 ⟨hr,F2,hp2,st2,hg2⟩
    have hr2:∃g c,e=.returned (.tuple #[.slice (some ⟨g,0,none⟩) 256 c,.int .i64 0])/\Own w.heap.size w1 (.slice (some ⟨g,0,none⟩) 256 c) (pageOf X.D.now x):=by
     rcases hr with ⟨_,g,c,e1,e2⟩|⟨e1,_⟩
     ·exact ⟨g,c,e1,by rw [<-HK.out.2.2.2.2.2.2.2.2.1];exact e2⟩
     ·exact absurd HK.out.2.2.2.2.2.2.2.2.2 e1
    obtain ⟨g,c,rfl,ho⟩:=hr2;have hgF:=hg2 g c _ rfl;have hun2:=hun w1 F2 hp2;have t1:w1.cell? ⟨s,1,none⟩=some (.pointer (some ⟨p,0,none⟩)):=((HK.out.1.pool' HK.out.2.2.2.1 HK.out.2.2.2.2.1 hp2 st2)).at.2.1;have HP:Hid (Pool w1 p d F2 D' X.N (Y++[{f with pins:=1}])/\Step F1 F2 w w1/\Own w.heap.size w1 (.slice (some ⟨g,0,none⟩) 256 c) (pageOf X.D.now x)/\¬F2 g):=⟨hp2,st2,ho,hgF⟩;clear hpin hr hp2 st2 ho hun s0 s1 hg2 hgF)
  |(go_at_call 79;refine hun2.mono ?_;rintro e w2 ⟨rfl,hp3,hc3⟩
    have HF:Hid (Pool w2 p d F2 D' X.N (Y++[f])/\Ch w1.heap.size F2 w1 w2):=⟨hp3,hc3⟩;clear hun2 hp3 hc3))
 go_ret2
 obtain ⟨h1,h2,h3,h4,h5,h6,h7,h8,h9,_⟩:=HK.out;obtain ⟨p2,st2,ho,hgF⟩:=HP.out;obtain ⟨p3,hc3⟩:=HF.out;have st3:Step F1 F2 w w2:=st2.trans (Step.of hc3);have hs:=h1.pool' h4 h5 p3 st3;have lg:=ho.lt2;have ho2:Own w.heap.size w2 (.slice (some ⟨g,0,none⟩) 256 c) (pageOf X.D.now x):=ho.kept (hc3.block g lg.2 hgF)
 obtain ⟨F',hF1,hF2⟩:=StoO.out (w0:=w) (F0:=F) ⟨p,sp,aC,cC,_,hs,fun k hk=>by
  by_cases hlt:k<w.heap.size
  ·rw [relab_lo hlt] at hk;exact .inl (h2 k hk)
  ·exact .inr (by omega),st3.1.mono (jB _) (fun k _ e=>h2 k (by have:=h4 k e;omega))⟩
 refine ⟨g,c,{X with D:=D',L:=Y++[f]},F',rfl,ho2,⟨rfl,h6,h7,2,?_,jB _⟩,hF1,hF2⟩;exact h8.mono (fun k hk=>(HND.out k hk).elim) (jB _)
end
end Go.Proofs.YtaijfhadecennaaGreat.Oct.Sx
namespace Go.Proofs.YtaijfhadecennaaGreat.Oct
open Go.RowKit
theorem results_rowtmp {P:Program} {fn:Func} {p u:Tmp} {ty:TypeId} (h:fn.results= #[.cell p ty,.tmp u]) (tmps:Array Value) (w:World) (g:Nat) (t:TypeId) (cs:Array Value) (fr:Nat × Nat) (d:TypeDesc)
  (hp:tmps.getD p undef=.pointer (some ⟨g,0,none⟩)) (hg:w.heap[g]?=some (.cells cs t fr))
  (hu:P.underlying ty=some d) (hd:(match d with| .struct _| .array _ _=>true|_=>false)=true) (hi:(P.info? ty).map (·.size)=some cs.size):
  (results fn tmps).run P w=.ok (.tuple #[.agg cs,tmps.getD u undef]) w:=by
 rw [results_cell_tmp h,hp];simp [asAddr,Result.andThen,run_loadVar_row w g t ty cs fr d hg hu hd hi]
def rpC (S:Sp) (pl:Int) (vP vT vS vG:Value) (h:Int):Array Value:= #[.int .i64 S.g,.int .i64 S.p,.int .i64 S.r,.int .i64 S.h,.int .i64 S.b,.int .i64 S.l,.int .i64 S.s,.int .i64 S.f,.int .i64 pl,vP,vT,vS,vG,.int .i64 h]
def rp0C:Array Value:=rpC sp0 0 (.slice none 0 0) (.slice none 0 0) (.slice none 0 0) (.slice none 0 0) 0
def RepIs (B:Nat) (w:World) (v:Value) (R:Rp):Prop:=∃aP cP aT cT aS cS aG cG,v=.agg (rpC R.s R.pl (.slice aP R.pc.length cP) (.slice aT R.tx.length cT) (.slice aS R.st.length cS) (.slice aG R.pg.length cG) R.h)/\RowC w aP cP R.pc/\Row w aT cT R.tx/\Row w aS cS R.st/\RowI w aG cG R.pg/\∀k,(obl aP k\/obl aT k\/obl aS k\/obl aG k)->B<=k
theorem RepIs.below {B:Nat} {w w':World} {v:Value} {R:Rp} (h:RepIs B w v R) (k:Below w.heap.size w w'):RepIs B w' v R:=by
 obtain ⟨aP,cP,aT,cT,aS,cS,aG,cG,e,h1,h2,h3,h4,h5⟩:=h;exact ⟨aP,cP,aT,cT,aS,cS,aG,cG,e,h1.below k,h2.below k,h3.below k,h4.below k,h5⟩
theorem rep0 (B:Nat) (w:World):RepIs B w (.agg rp0C) rp0:=⟨none,0,none,0,none,0,none,0,rfl,⟨fun q hq=>(by cases hq),jB _,by simp [maxLen],.inl rfl⟩,row0 w,row0 w,⟨jB _,by simp [maxLen],.inl rfl⟩,fun k hk=>by rcases hk with ⟨x,e,_⟩|⟨x,e,_⟩|⟨x,e,_⟩|⟨x,e,_⟩<;>cases e⟩
def StR (x y:Value):Sem Unit:=Instr.storeAt 95 x y
theorem StR_eq (x y:Value):Instr.storeAt 95 x y=StR x y:=rfl
theorem rp_one (S:Sp) (pl h:Int) (aP aT aS aG:Option Addr) (nP nT nS nG cP cT cS cG:Nat):(rpC S pl (.slice aP nP cP) (.slice aT nT cT) (.slice aS nS cS) (.slice aG nG cG) h).all (·.oneCell')=true:=by
 simp [rpC,Value.oneCell']
theorem StR_run {w:World} {g:Nat} {old cs:Array Value} (hg:w.heap[g]?=some (.cells old 95 (0,0))) (ho:old.size=14) (hc:cs.size=14) (h1:cs.all (·.oneCell')=true):(StR (.pointer (some ⟨g,0,none⟩)) (.agg cs)).run Tryz.prog w=.ok () (w.setRow g cs):=by
 unfold StR;simp only [Instr.storeAt,Instr.sureAddr,Sem.run_bind,Sem.run_pure,Result.andThen_ok];rw [run_storeVar_row w g 95 95 old cs hg (by rw [hc];kernel_rfl) (by omega) h1]
attribute [local go_sem ↓] StR_eq
def bx (w:World) (S:Sp):World:=(w.alloc (.cells #[.int .i64 S.g,.int .i64 S.p,.int .i64 S.r,.int .i64 S.h,.int .i64 S.b,.int .i64 S.l,.int .i64 S.s,.int .i64 S.f] 29)).alloc (.cells rp0C 95)
theorem bx_size (w:World) (S:Sp):(bx w S).heap.size=w.heap.size+2:=by unfold bx;simp
theorem bx_below (w:World) (S:Sp):Below w.heap.size w (bx w S):=((Below.refl _ w).alloc (jB _) _).alloc (by simp) _
theorem bx_s (w:World) (S:Sp):(bx w S).heap[w.heap.size]?=some (.cells #[.int .i64 S.g,.int .i64 S.p,.int .i64 S.r,.int .i64 S.h,.int .i64 S.b,.int .i64 S.l,.int .i64 S.s,.int .i64 S.f] 29 (0,0)):=heap_alloc2_old w _ _
theorem bx_r (w:World) (S:Sp):(bx w S).heap[w.heap.size+1]?=some (.cells rp0C 95 (0,0)):=heap_alloc2_new w _ _
theorem nothing_end {w w1:World} {cs:Array Value} (hb:Below w.heap.size w w1) (hr:w1.heap[w.heap.size+1]?=some (.cells rp0C 95 (0,0))):
  (StR (.pointer (some ⟨w.heap.size+1,0,none⟩)) (.agg #[.int .i64 0,.int .i64 0,.int .i64 0,.int .i64 0,.int .i64 0,.int .i64 0,.int .i64 0,.int .i64 0,.int .i64 0,.slice none 0 0,.slice none 0 0,.slice none 0 0,.slice none 0 0,.int .i64 0])).run Tryz.prog w1=.ok () (w1.setRow (w.heap.size+1) rp0C)/\(w1.setRow (w.heap.size+1) cs).heap[w.heap.size+1]?=some (.cells cs 95 (0,0))/\Below w.heap.size w (w1.setRow (w.heap.size+1) cs):=
 ⟨StR_run hr rfl rfl (by simp [Value.oneCell']),setRow_heap w1 _ _ _ _ _ hr,((Ch.of (fun _=>False) hb).setRow (.inl (by omega)) _).below (fun k e=>by cases e)⟩
set_option maxRecDepth 20000 in
theorem rwalk_arg (a:Option Addr) (n cap:Nat) (w:World) (S:Sp) (hS:okS S=false):
  Calls Tryz.prog 118 #[.slice a n cap,spV S] w fun e w'=>e=.returned (.tuple #[.agg rp0C,.int .i64 1])/\Below w.heap.size w w':=by
 have C:=rcheck_any S (bx w S);rw [show enE S=1 by unfold enE;rw [hS];rfl] at C;have HB:Hid (Below w.heap.size w (bx w S)/\(bx w S).heap.size=w.heap.size+2/\(bx w S).heap[w.heap.size+1]?=some (.cells rp0C 95 (0,0))):=⟨bx_below w S,bx_size w S,bx_r w S⟩;unfold spV at C ⊢;clear hS;go_enter Tryz.func118,Tryz.ntmps118
 go_wp2_with fail
 refine C.mono ?_;clear C;rintro e w1 ⟨rfl,hb⟩;have hr:=(hb.block (w.heap.size+1) (by have:=HB.out.2.1;omega)).trans HB.out.2.2;have hb1:=HB.out.1.trans (hb.mono HB.out.1.size);obtain ⟨n1,n2,n3⟩:=nothing_end (cs:=rp0C) hb1 hr;have HE:Hid ((w1.setRow (w.heap.size+1) rp0C).heap[w.heap.size+1]?=some (.cells rp0C 95 (0,0))/\Below w.heap.size w (w1.setRow (w.heap.size+1) rp0C)):=⟨n2,n3⟩;clear hb hr hb1 n2 n3 HB;go_wp2;refine bodyPost_ret (results_rowtmp rfl _ _ (w.heap.size+1) _ rp0C (0,0) _ rfl HE.out.1 Tryz.underlying95 rfl (by kernel_rfl)) rfl ?_;exact ⟨rfl,HE.out.2⟩
set_option maxRecDepth 20000 in
theorem rwalk_pages (a:Option Addr) (n cap N:Nat) (hn:n<=maxLen) (hN:n/256=N) (w:World) (S:Sp) (hS:okS S=true) (hp:¬S.p=(N:Int)):
  Calls Tryz.prog 118 #[.slice a n cap,spV S] w fun e w'=>e=.returned (.tuple #[.agg rp0C,.int .i64 8])/\Below w.heap.size w w':=by
 have C:=rcheck_any S (bx w S);rw [show enE S=0 by unfold enE;rw [hS];rfl] at C;have HB:Hid (Below w.heap.size w (bx w S)/\(bx w S).heap.size=w.heap.size+2/\(bx w S).heap[w.heap.size+1]?=some (.cells rp0C 95 (0,0))/\(bx w S).heap[w.heap.size]?=some (.cells #[.int .i64 S.g,.int .i64 S.p,.int .i64 S.r,.int .i64 S.h,.int .i64 S.b,.int .i64 S.l,.int .i64 S.s,.int .i64 S.f] 29 (0,0))):=⟨bx_below w S,bx_size w S,bx_r w S,bx_s w S⟩;unfold maxLen at hn;have hq:(n:Int)/256=(N:Int):=by omega
 have hp1:(S.p==(N:Int))=false:=by rw [xG];exact hp
 have hp2:(S.p !=(N:Int))=true:=by unfold bne;rw [hp1];rfl
 unfold spV at C ⊢;clear hS hp hN;go_enter Tryz.func118,Tryz.ntmps118
 go_wp2_with fail
 refine C.mono ?_;clear C;rintro e w1 ⟨rfl,hb⟩;have hr:=(hb.block (w.heap.size+1) (by have:=HB.out.2.1;omega)).trans HB.out.2.2.1;have hs:=(hb.block (w.heap.size) (by have:=HB.out.2.1;omega)).trans HB.out.2.2.2;have s1:w1.cell? ⟨w.heap.size,1,none⟩=some (.int .i64 S.p):=by rw [cell_of_row w1 _ _ _ _ (0,0) hs];rfl
 have hb1:=HB.out.1.trans (hb.mono HB.out.1.size);obtain ⟨n1,n2,n3⟩:=nothing_end (cs:=rp0C) hb1 hr;have HE:Hid ((w1.setRow (w.heap.size+1) rp0C).heap[w.heap.size+1]?=some (.cells rp0C 95 (0,0))/\Below w.heap.size w (w1.setRow (w.heap.size+1) rp0C)):=⟨n2,n3⟩;clear hb hr hs hb1 n2 n3 HB;go_wp2;refine bodyPost_ret (results_rowtmp rfl _ _ (w.heap.size+1) _ rp0C (0,0) _ rfl HE.out.1 Tryz.underlying95 rfl (by kernel_rfl)) rfl ?_;exact ⟨rfl,HE.out.2⟩
end Go.Proofs.YtaijfhadecennaaGreat.Oct
namespace Go.Proofs.YtaijfhadecennaaGreat.Oct
open Go.RowKit
def q00 (i:Nat):Value:=if i=9\/i=10 then .slice none 0 0 else .int .i64 0
def spC (S:Sp):Array Value:= #[.int .i64 S.g,.int .i64 S.p,.int .i64 S.r,.int .i64 S.h,.int .i64 S.b,.int .i64 S.l,.int .i64 S.s,.int .i64 S.f]
structure WkS (w wx:World) (p N:Nat) (F:Nat->Prop) (ia:Option Addr) (ic:Nat) (L:List Int) (q:Nat->Value) (W:Wk) (S:Sp):Prop where
 rw:RWA wx p F ia ic L q W
 bel:Below w.heap.size w wx
 s:wx.heap[w.heap.size]?=some (.cells (spC S) 29 (0,0))
 r:wx.heap[w.heap.size+1]?=some (.cells rp0C 95 (0,0))
 lo:∀k,F k->w.heap.size+2<=k
 kl:W.kd.length=N
 n0:0<N
 ilo:∀k,obl ia k->k<w.heap.size
section
variable {w wx w2:World} {p N ic:Nat} {F F2:Nat->Prop} {ia:Option Addr} {L:List Int} {q q2:Nat->Value} {W W2:Wk} {S:Sp}
theorem WkS.lt (h:WkS w wx p N F ia ic L q W S):w.heap.size+1<wx.heap.size:=heap_lt h.r
theorem WkS.step (h:WkS w wx p N F ia ic L q W S) (h2:RWA w2 p F2 ia ic L q2 W2) (st:Step F F2 wx w2) (hl:W2.kd.length=N):WkS w w2 p N F2 ia ic L q2 W2 S:=by
 have hlt:=h.lt;refine {rw:=h2,bel:=h.bel.trans ((st.below h.bel.size (fun k hk=>by have:=h.lo k hk;omega)).1),s:=(st.1.block _ (by omega) (fun e=>by have:=h.lo _ e;omega)).trans h.s,r:=(st.1.block _ hlt (fun e=>by have:=h.lo _ e;omega)).trans h.r,lo:=fun k hk=>?_,kl:=hl,n0:=h.n0,ilo:=h.ilo};rcases st.2 k hk with h1|h1
 ·exact h.lo k h1
 ·omega
theorem WkS.below (h:WkS w wx p N F ia ic L q W S) (hb:Below wx.heap.size wx w2):WkS w w2 p N F ia ic L q W S:=
 h.step (h.rw.below (by rw [h.kl];exact h.n0) hb) (Step.ofB hb) h.kl
theorem WkS.at (h:WkS w wx p N F ia ic L q W S):wx.cell? ⟨w.heap.size,1,none⟩=some (.int .i64 S.p)/\wx.cell? ⟨w.heap.size,2,none⟩=some (.int .i64 S.r)/\wx.cell? ⟨w.heap.size,3,none⟩=some (.int .i64 S.h)/\wx.cell? ⟨w.heap.size,4,none⟩=some (.int .i64 S.b)/\wx.cell? ⟨w.heap.size,5,none⟩=some (.int .i64 S.l)/\wx.cell? ⟨w.heap.size,6,none⟩=some (.int .i64 S.s)/\wx.cell? ⟨w.heap.size,7,none⟩=some (.int .i64 S.f):=by
 refine ⟨?_,?_,?_,?_,?_,?_,?_⟩<;>(rw [cell_of_row wx _ _ _ _ (0,0) h.s];rfl)
theorem rw_start {w1:World} {gk B:Nat} (hrow:Row w1 ia ic L) (hil:L.length=256*N) (h4:N<=4096) (ho:Own B w1 (.slice (some ⟨gk,0,none⟩) N N) (List.replicate N 0)) (hi:∀k,obl ia k->k<B) (hB:B<=w1.heap.size):
  RWA (w1.alloc (.cells (wcs ia L.length ic gk N N q00 none 0 0 none 0 0 false) 188)) w1.heap.size (fun k=>k=w1.heap.size\/k=gk) ia ic L q00 (wk0 N):=by
 have hbl:=(Below.refl w1.heap.size w1).alloc (jB _) (.cells (wcs ia L.length ic gk N N q00 none 0 0 none 0 0 false) 188);have hgk:=ho.lt2;have hlen:(wk0 N).kd.length=N:=by simp [wk0]
 have no:∀k,¬obl (none:Option Addr) k:=fun k ⟨x,e,_⟩=>by cases e
 refine ⟨gk,N,none,none,0,0,?_⟩;refine {lt:=fun k hk=>?_,fp:=.inl rfl,fk:=.inr rfl,fP:=fun k hk=>absurd hk (no k),fT:=fun k hk=>absurd hk (no k),cells:=?_,kd:=?_,pc:=⟨rfl,.inl ⟨rfl,rfl⟩⟩,tx:=⟨rfl,.inl ⟨rfl,rfl⟩⟩,kb:=fun z hz=>?_,tb:=fun z hz=>(by cases hz),img:=hrow.below hbl,inF:=fun k hk e=>?_,il:=by rw [hlen];exact hil,kl:=by rw [hlen];exact h4,pk:=by omega,pP:=no _,pT:=no _,kP:=no _,kT:=no _,PT:=fun k hk=>absurd hk (no k)}
 ·rw [heap_alloc_size];rcases hk with rfl|rfl<;>omega
 ·rw [hlen];exact heap_alloc_new w1 _
 ·rw [hlen];exact (ho.zero).kept (hbl.block gk hgk.2)
 ·rw [(List.mem_replicate.1 hz).2];omega
 ·have:=hi k hk;rcases e with rfl|rfl<;>omega
theorem RWA.setQ (h:RWA wx p F ia ic L q W) (i j:Nat) (hij:(i=13/\j=9)\/(i=14/\j=10)\/(i=10/\j=8)\/(i=15/\j=11)) (v:Value):RWA (wx.setCell ⟨p,i,none⟩ v) p F ia ic L (fun k=>if k=j then v else q k) W:=by
 obtain ⟨gk,ck,aP,aT,cP,cT,h⟩:=h;have k:∀g,¬g=p->(wx.setCell ⟨p,i,none⟩ v).heap[g]?=wx.heap[g]?:=fun g hg=>Below.heap_setCell wx ⟨p,i,none⟩ _ g hg
 refine ⟨gk,ck,aP,aT,cP,cT,?_⟩
 exact {h with
  lt:=fun g hg=>by rw [size_setCell];exact h.lt g hg
  cells:=by
   rw [setCell_heap _ _ _ _ _ _ _ h.cells];rcases hij with ⟨rfl,rfl⟩|⟨rfl,rfl⟩|⟨rfl,rfl⟩|⟨rfl,rfl⟩<;>rfl
  kd:=h.kd.kept (k gk (fun e=>h.pk e.symm))
  pc:=h.pc.keepO (fun g hg=>k g (fun e=>h.pP (e▸hg)))
  tx:=h.tx.keepO (fun g hg=>k g (fun e=>h.pT (e▸hg)))
  img:=h.img.keepO (fun g hg=>k g (fun e=>h.inF g hg (e▸h.fp)))}
theorem RWA.frz (h:RWA wx p F ia ic L q W) (i:Nat):wx.frozen? ⟨p,i,none⟩=false:=by
 obtain ⟨_,_,_,_,_,_,h⟩:=h;exact h.frz i
theorem RWA.c13 (h:RWA wx p F ia ic L q W):wx.cell? ⟨p,13,none⟩=some (q 9)/\wx.cell? ⟨p,14,none⟩=some (q 10)/\wx.cell? ⟨p,10,none⟩=some (q 8)/\wx.cell? ⟨p,15,none⟩=some (q 11):=by
 obtain ⟨_,_,_,_,_,_,h⟩:=h;refine ⟨?_,?_,?_,?_⟩<;>(rw [cell_of_row wx p _ _ _ (0,0) h.cells];rfl)
end
theorem wa_no {L:List Int} {S:Sp} (hS:okS S=true) (hp:S.p=(pgN L:Int)) (h:waB L S=false):waE L S=8/\waR L S=rp0:=by
 have e:waE L S=8:=by unfold waE;rw [if_pos hS,if_pos hp,h];rfl
 refine ⟨e,?_⟩;unfold waR;rw [if_neg (by rw [e];decide)]
theorem wa_yes {L:List Int} {S:Sp} (hS:okS S=true) (hp:S.p=(pgN L:Int)) (h:waB L S=true):waE L S=0/\waR L S=⟨S,-1,(wkD L S).1.pc,(wkD L S).1.tx,(wkC L S).2,rsg (wkD L S).1.kd (pgN L),S.h⟩:=by
 have e:waE L S=0:=by unfold waE;rw [if_pos hS,if_pos hp,h];rfl
 refine ⟨e,?_⟩;unfold waR;rw [if_pos e]
def StS (x y:Value):Sem Unit:=Instr.storeAt 29 x y
theorem StS_eq (x y:Value):Instr.storeAt 29 x y=StS x y:=rfl
def LdR (x:Value):Sem Value:=Instr.loadAt 95 x
theorem LdR_eq (x:Value):Instr.loadAt 95 x=LdR x:=rfl
def qS (S:Sp) (q:Nat->Value) (i:Nat):Value:=match i with
 |0=>.int .i64 S.g
 |1=>.int .i64 S.p
 |2=>.int .i64 S.r
 |3=>.int .i64 S.h
 |4=>.int .i64 S.b
 |5=>.int .i64 S.l
 |6=>.int .i64 S.s
 |7=>.int .i64 S.f
 |i=>q i
theorem setCells_ch (p:Nat):∀(vs:List Value) (o:Nat) (w:World),Ch w.heap.size (fun x=>x=p) w (w.setCells p o vs)
 |[],_,w=>Ch.refl _ _ w
 |v::r,o,w=>by
  rw [World.setCells];have h1:Ch w.heap.size (fun x=>x=p) w (w.setCell ⟨p,o,none⟩ v):=(Ch.refl _ (fun x=>x=p) w).setCell (p:=⟨p,o,none⟩) (.inr rfl) v;have h2:=setCells_ch p r (o+1) (w.setCell ⟨p,o,none⟩ v);rw [size_setCell] at h2;exact h1.trans h2
section
variable {w:World} {p ic gk kl ck il nP cP nT cT:Nat} {ia aP aT:Option Addr} {q:Nat->Value} {bad:Bool}
theorem wcs_set (j:Nat) (hj:j<8) (v:Value):(wcs ia il ic gk kl ck q aP nP cP aT nT cT bad).setIfInBounds (2+j) v=wcs ia il ic gk kl ck (fun i=>if i=j then v else q i) aP nP cP aT nT cT bad:=by
 rcases eight hj with rfl|rfl|rfl|rfl|rfl|rfl|rfl|rfl<;>rfl
theorem setS (S:Sp) (hc:w.heap[p]?=some (.cells (wcs ia il ic gk kl ck q aP nP cP aT nT cT bad) 188 (0,0))):
  ∃w9,(StS (.pointer (some ⟨p,2,none⟩)) (.agg (spC S))).run Tryz.prog w=.ok () w9/\w9.heap[p]?=some (.cells (wcs ia il ic gk kl ck (qS S q) aP nP cP aT nT cT bad) 188 (0,0))/\Ch w.heap.size (fun x=>x=p) w w9:=by
 refine ⟨w.setCells p 2 (spC S).toList,?_,?_,?_⟩
 ·unfold StS;refine run_storeAt_mid w p 2 29 (spC S) ?_ (by kernel_rfl) (by simp [spC,Value.oneCell']);intro j hj;have hj':j<8:=hj;refine ⟨?_,by unfold World.frozen?;rw [hc];simp⟩;rw [cell_of_row w p _ _ _ (0,0) hc];rcases eight hj' with rfl|rfl|rfl|rfl|rfl|rfl|rfl|rfl<;>rfl
 ·simp only [spC,World.setCells];rw [setCell_heap _ _ _ _ _ _ _ (setCell_heap _ _ _ _ _ _ _ (setCell_heap _ _ _ _ _ _ _ (setCell_heap _ _ _ _ _ _ _ (setCell_heap _ _ _ _ _ _ _ (setCell_heap _ _ _ _ _ _ _ (setCell_heap _ _ _ _ _ _ _ (setCell_heap _ _ _ _ _ _ _ hc)))))))];rw [wcs_set 0 (by omega),wcs_set 1 (by omega),wcs_set 2 (by omega),wcs_set 3 (by omega),wcs_set 4 (by omega),wcs_set 5 (by omega),wcs_set 6 (by omega),wcs_set 7 (by omega)];simp [wcs,qS]
 ·exact setCells_ch p (spC S).toList 2 w
theorem getR (hc:w.heap[p]?=some (.cells (wcs ia il ic gk kl ck q aP nP cP aT nT cT bad) 188 (0,0))):
  (LdR (.pointer (some ⟨p,2,none⟩))).run Tryz.prog w=.ok (.agg #[q 0,q 1,q 2,q 3,q 4,q 5,q 6,q 7,q 8,.slice aP nP cP,.slice aT nT cT,q 9,q 10,q 11]) w:=by
 unfold LdR;have:=run_loadVar_mid (P:=Tryz.prog) w p 2 95 [q 0,q 1,q 2,q 3,q 4,q 5,q 6,q 7,q 8,.slice aP nP cP,.slice aT nT cT,q 9,q 10,q 11] _ ?_ Tryz.underlying95 rfl (by kernel_rfl)
 ·simp only [Instr.loadAt,Instr.sureAddr,Sem.run_bind,Sem.run_pure,Result.andThen_ok,this]
 ·intro j v hj;rw [cell_of_row w p _ _ _ (0,0) hc];have hj':j<14:=(List.getElem?_eq_some_iff.1 hj).1;rw [<-hj];rcases (by omega:j=0\/j=1\/j=2\/j=3\/j=4\/j=5\/j=6\/j=7\/j=8\/j=9\/j=10\/j=11\/j=12\/j=13) with rfl|rfl|rfl|rfl|rfl|rfl|rfl|rfl|rfl|rfl|rfl|rfl|rfl|rfl<;>rfl
end
def qk (gs:Option Addr) (sl cs:Nat) (v:Value) (i:Nat):Value:=if i=10 then v else if i=9 then .slice gs sl cs else q00 i
structure PgI (w w7 wr:World) (p N:Nat) (F:Nat->Prop) (a:Option Addr) (cap:Nat) (L:List Int) (gs:Option Addr) (sl cs:Nat) (DW:Wk) (S:Sp) (k:Nat) (v:Value):Prop where
 wk:WkS w wr p N F a cap L (qk gs sl cs v) DW S
 own:OwnI w7.heap.size wr v (rsg DW.kd k)
 ch:Ch w7.heap.size F w7 wr
theorem rsg_yes {kd:List Int} {k:Nat} (h:¬kd.getD k 0=0):rsg kd (k+1)=rsg kd k++[(k:Int)]:=by rw [rsg,if_neg h]
theorem rsg_no {kd:List Int} {k:Nat} (h:kd.getD k 0=0):rsg kd (k+1)=rsg kd k:=by rw [rsg,if_pos h]
theorem rsg_len (kd:List Int):∀k,(rsg kd k).length<=k:=by
 intro k
 induction k with
 |zero=>simp [rsg]
 |succ k ih=>
  by_cases h:kd.getD k 0=0
  ·rw [rsg_no h];omega
  ·rw [rsg_yes h,jO];simp;omega
theorem qk_set (gs:Option Addr) (sl cs:Nat) (v v':Value):(fun k=>if k=10 then v' else qk gs sl cs v k)=qk gs sl cs v':=by
 funext k
 unfold qk;by_cases h:k=10
 ·simp [h]
 ·simp [h]
theorem PgI.next {w w7 wr w4:World} {p N:Nat} {F:Nat->Prop} {a:Option Addr} {cap:Nat} {L:List Int} {gs:Option Addr} {sl cs:Nat} {DW:Wk} {S:Sp} {k:Nat} {v v4:Value} (h:PgI w w7 wr p N F a cap L gs sl cs DW S k v) (hF:∀k,F k->k<w7.heap.size) (h7:w.heap.size+2<=w7.heap.size) (hi:∀k,obl a k->k<w7.heap.size) (hk:¬DW.kd.getD k 0=0) (ho:OwnI w7.heap.size w4 v4 (rsg DW.kd k++[(k:Int)])) (hb:Below w7.heap.size wr w4):
  PgI w w7 (w4.setCell ⟨p,14,none⟩ v4) p N F a cap L gs sl cs DW S (k+1) v4:=by
 have hr4:RWA w4 p F a cap L (qk gs sl cs v) DW:=h.wk.rw.low hF hi hb
 have hW4:WkS w w4 p N F a cap L (qk gs sl cs v) DW S:=
  {rw:=hr4,bel:=h.wk.bel.trans (hb.mono (by omega)),s:=(hb.block _ (by omega)).trans h.wk.s,r:=(hb.block _ (by omega)).trans h.wk.r,lo:=h.wk.lo,kl:=h.wk.kl,n0:=h.wk.n0,ilo:=h.wk.ilo}
 have hc:Ch w4.heap.size F w4 (w4.setCell ⟨p,14,none⟩ v4):=Ch.set hr4.fp _ _;have hq:=hr4.setQ 14 10 (.inr (.inl ⟨rfl,rfl⟩)) v4;rw [qk_set] at hq;refine ⟨hW4.step hq (Step.of hc) h.wk.kl,?_,(h.ch.trans (Ch.of F hb)).trans (hc.mono (jN h.ch.size hb.size) (fun _ _ e=>e))⟩;rw [rsg_yes hk];refine owns_keep ho (fun g hg=>Below.heap_setCell w4 ⟨p,14,none⟩ _ g (fun e=>?_));have:=(World.ownsRow.lt ho g hg).1;have h2:=hF p hr4.fp;have e':g=p:=e;omega
theorem qk0 (gs:Option Addr) (sl cs:Nat):(fun k=>if k=9 then (.slice gs sl cs:Value) else q00 k)=qk gs sl cs (.slice none 0 0):=by
 funext k
 unfold qk;by_cases h:k=10
 ·subst h;rfl
 ·simp [h]
theorem waB_is {L:List Int} {S:Sp} {DW:Wk} {fr:List Int} {N:Nat} (hD:wkD L S=(DW,fr)) (hN:pgN L=N):waB L S=(!DW.bad&&(decide (fr.length=(N+7)/8)&&(List.range (fr.length*8)).all (frB fr DW.kd N))):=by
 unfold waB;rw [hD,hN]
theorem all_no {f:Nat->Bool} {n k:Nat} (hk:k<n) (h:f k=false):(List.range n).all f=false:=by
 cases e:(List.range n).all f with
 |false=>rfl
 |true=>
  have:=List.all_eq_true.1 e k (List.mem_range.2 hk);rw [h] at this;cases this
theorem all_yes {f:Nat->Bool} {n:Nat} (h:∀k,k<n->f k=true):(List.range n).all f=true:=List.all_eq_true.2 fun k hk=>h k (List.mem_range.1 hk)
theorem walk_end {w w7 wr:World} {p N:Nat} {F:Nat->Prop} {a:Option Addr} {cap:Nat} {L:List Int} {gs:Option Addr} {sl cs:Nat} {DW:Wk} {S:Sp} {ag:Option Addr} {ng cg:Nat} {st:List Int}
  (h:PgI w w7 wr p N F a cap L gs sl cs DW S N (.slice ag ng cg)) (hgs:Row w7 gs cs st) (hgk:∀k,obl gs k->¬F k/\k<w7.heap.size/\w.heap.size+2<=k) (hsl:st.length=sl) (hpc:∀x∈DW.pc,wfC x) (h7:w.heap.size+2<=w7.heap.size) (hng:(rsg DW.kd N).length=ng) (hF:∀k,F k->k<w7.heap.size):
  ∃w9 aP cP aT cT,(StS (.pointer (some ⟨p,2,none⟩)) (.agg (spC S))).run Tryz.prog wr=.ok () w9/\(w9.cell? ⟨p,10,none⟩=some (.int .i64 0)/\w9.cell? ⟨p,15,none⟩=some (.int .i64 0))/\(∀i,w9.frozen? ⟨p,i,none⟩=false)/\w9.cell? ⟨w.heap.size,3,none⟩=some (.int .i64 S.h)/\¬w.heap.size=p/\
   ∀w11,w11=(w9.setCell ⟨p,10,none⟩ (.int .i64 (-1))).setCell ⟨p,15,none⟩ (.int .i64 S.h)->
    (LdR (.pointer (some ⟨p,2,none⟩))).run Tryz.prog w11=.ok (.agg (rpC S (-1) (.slice aP DW.pc.length cP) (.slice aT DW.tx.length cT) (.slice gs sl cs) (.slice ag ng cg) S.h)) w11/\
    (StR (.pointer (some ⟨w.heap.size+1,0,none⟩)) (.agg (rpC S (-1) (.slice aP DW.pc.length cP) (.slice aT DW.tx.length cT) (.slice gs sl cs) (.slice ag ng cg) S.h))).run Tryz.prog w11=.ok () (w11.setRow (w.heap.size+1) (rpC S (-1) (.slice aP DW.pc.length cP) (.slice aT DW.tx.length cT) (.slice gs sl cs) (.slice ag ng cg) S.h))/\
    (w11.setRow (w.heap.size+1) (rpC S (-1) (.slice aP DW.pc.length cP) (.slice aT DW.tx.length cT) (.slice gs sl cs) (.slice ag ng cg) S.h)).heap[w.heap.size+1]?=some (.cells (rpC S (-1) (.slice aP DW.pc.length cP) (.slice aT DW.tx.length cT) (.slice gs sl cs) (.slice ag ng cg) S.h) 95 (0,0))/\
    Below w.heap.size w (w11.setRow (w.heap.size+1) (rpC S (-1) (.slice aP DW.pc.length cP) (.slice aT DW.tx.length cT) (.slice gs sl cs) (.slice ag ng cg) S.h))/\
    RepIs w.heap.size (w11.setRow (w.heap.size+1) (rpC S (-1) (.slice aP DW.pc.length cP) (.slice aT DW.tx.length cT) (.slice gs sl cs) (.slice ag ng cg) S.h)) (.agg (rpC S (-1) (.slice aP DW.pc.length cP) (.slice aT DW.tx.length cT) (.slice gs sl cs) (.slice ag ng cg) S.h)) ⟨S,-1,DW.pc,DW.tx,st,rsg DW.kd N,S.h⟩:=by
 obtain ⟨gk,ck,aP,aT,cP,cT,hR⟩:=h.wk.rw;obtain ⟨w9,hst,hc9,hch9⟩:=setS S hR.cells;have hlo:=h.wk.lo p hR.fp;have hlt:=h.wk.lt;have hws:¬w.heap.size=p:=by omega
 have hcell:∀i,w9.cell? ⟨p,i,none⟩=(wcs a L.length cap gk DW.kd.length ck (qS S (qk gs sl cs (.slice ag ng cg))) aP DW.pc.length cP aT DW.tx.length cT DW.bad)[i]?:=fun i=>cell_of_row w9 p _ _ _ (0,0) hc9
 refine ⟨w9,aP,cP,aT,cT,hst,⟨by rw [hcell];rfl,by rw [hcell];rfl⟩,fun i=>by unfold World.frozen?;rw [hc9];simp,?_,hws,?_⟩
 ·exact (World.cell?_of_block (w:=wr) (a:=⟨w.heap.size,3,none⟩) (hch9.block w.heap.size (by omega) hws)).trans h.wk.at.2.2.1
 ·rintro w11 rfl;obtain ⟨cx,hcx⟩:∃cx,(rpC S (-1) (.slice aP DW.pc.length cP) (.slice aT DW.tx.length cT) (.slice gs sl cs) (.slice ag ng cg) S.h)=cx:=⟨_,rfl⟩;have hcs:cx.size=14:=by rw [<-hcx];rfl
  have hco:cx.all (·.oneCell')=true:=by rw [<-hcx];exact rp_one ..
  have h10:=setCell_heap w9 p 10 (.int .i64 (-1)) _ _ _ hc9;have h15:=setCell_heap _ p 15 (.int .i64 S.h) _ _ _ h10;have hgr:=getR (w:=(w9.setCell ⟨p,10,none⟩ (.int .i64 (-1))).setCell ⟨p,15,none⟩ (.int .i64 S.h)) (p:=p) (ia:=a) (il:=L.length) (ic:=cap) (gk:=gk) (kl:=DW.kd.length) (ck:=ck) (aP:=aP) (nP:=DW.pc.length) (cP:=cP) (aT:=aT) (nT:=DW.tx.length) (cT:=cT) (bad:=DW.bad) (q:=fun i=>if i=11 then .int .i64 S.h else if i=8 then .int .i64 (-1) else qS S (qk gs sl cs (.slice ag ng cg)) i) (by rw [h15];rfl);have hc11:Ch wr.heap.size (fun x=>x=p) wr ((w9.setCell ⟨p,10,none⟩ (.int .i64 (-1))).setCell ⟨p,15,none⟩ (.int .i64 S.h)):=(hch9.setCell (p:=⟨p,10,none⟩) (.inr rfl) _).setCell (p:=⟨p,15,none⟩) (.inr rfl) _;obtain ⟨w11,hw11⟩:∃w11,(w9.setCell ⟨p,10,none⟩ (.int .i64 (-1))).setCell ⟨p,15,none⟩ (.int .i64 S.h)=w11:=⟨_,rfl⟩;rw [hw11] at hgr hc11 ⊢;have hrB:w11.heap[w.heap.size+1]?=some (.cells rp0C 95 (0,0)):=(hc11.block _ hlt (by omega)).trans h.wk.r;rw [hcx];have hk12:∀g,g≠p->g≠w.heap.size+1->g<wr.heap.size->(w11.setRow (w.heap.size+1) cx).heap[g]?=wr.heap[g]?:=fun g h1 h2 h3=>(setRow_other w11 _ g cx h2).trans (hc11.block g h3 h1)
  refine ⟨?_,StR_run hrB rfl hcs hco,setRow_heap w11 _ _ _ _ _ hrB,?_,?_⟩
  ·rw [hgr,<-hcx];rfl
  ·have hb:Below w.heap.size w w11:=h.wk.bel.trans ((hc11.mono h.wk.bel.size (fun _ _ e=>e)).below (fun k hk=>by subst hk;omega));exact ((Ch.of (fun _=>False) hb).setRow (.inl (by omega)) _).below (fun k e=>by cases e)
  ·have hlF:∀k,F k->k<wr.heap.size:=h.wk.rw.lt;refine ⟨aP,cP,aT,cT,gs,cs,ag,cg,by rw [<-hcx];simp only [hsl,hng],?_,?_,?_,?_,fun k hk=>?_⟩
   ·have:=(OwnC.row' hR.pc hpc).2.1;exact this.keepO (fun g hg=>hk12 g (fun e=>hR.pP (e▸hg)) (fun e=>by have:=h.wk.lo g (hR.fP g hg);omega) (hlF g (hR.fP g hg)))
   ·exact (hR.tx.row' hR.tb).2.keepO (fun g hg=>hk12 g (fun e=>hR.pT (e▸hg)) (fun e=>by have:=h.wk.lo g (hR.fT g hg);omega) (hlF g (hR.fT g hg)))
   ·have h1:Row wr gs cs st:=hgs.keepO (fun g hg=>h.ch.block g (hgk g hg).2.1 (hgk g hg).1);exact h1.keepO (fun g hg=>hk12 g (fun e=>(hgk g hg).1 (e▸hR.fp)) (fun e=>by have:=(hgk g hg).2.2;omega) (by have:=(hgk g hg).2.1;have:=h.ch.size;omega))
   ·obtain ⟨a',c',e,hr⟩:=OwnI.row h.own;simp only [Value.slice.injEq] at e;obtain ⟨rfl,-,rfl⟩:=e;obtain ⟨r1,r2,r3⟩:=hr;refine ⟨r1,r2,?_⟩;rcases r3 with r3|⟨b,off,e,hc⟩
    ·exact .inl r3
    ·have hlo2:w7.heap.size<=b/\b<wr.heap.size:=World.ownsRow.lt h.own b (by rw [e];rfl);refine .inr ⟨b,off,e,fun i hi=>(World.cell?_of_block (w:=wr) (a:=⟨b,off+i,none⟩) (hk12 b (fun e=>by have:=hF p hR.fp;omega) (by omega) hlo2.2)).trans (hc i hi)⟩
   ·rcases hk with hk|hk|hk|hk
    ·have:=h.wk.lo k (hR.fP k hk);omega
    ·have:=h.wk.lo k (hR.fT k hk);omega
    ·have:=(hgk k hk).2.2;omega
    ·have:=(World.ownsRow.lt h.own k (own_obl hk)).1;omega
theorem wk_pcs {L:List Int} (hL:Bys L) (h4:pgN L<=4096) {S:Sp} (hS:okS S=true) (h:waE L S=0):∀x∈(waR L S).pc,wfC x:=by
 rcases su_wa hL h4 hS with ⟨-,h2⟩|⟨h1,-⟩
 ·obtain ⟨-,T,R2,st,R3,fr,k1,-,-,-,e⟩:=h2;rw [e];exact fun x hx=>wfC_ok ((suT_in hL k1.t).2 x hx)
 ·rw [h] at h1;cases h1
end Go.Proofs.YtaijfhadecennaaGreat.Oct
namespace Go.Proofs.YtaijfhadecennaaGreat.Oct
open Go.RowKit
attribute [local go_sem ↓] StR_eq StS_eq LdR_eq
set_option maxRecDepth 20000 in
theorem rwalk_go (a:Option Addr) (cap N:Nat) (L:List Int) (w:World) (hr:Row w a cap L) (hil:L.length=256*N) (hN8:8<=N) (h4:N<=4096) (S:Sp) (hS:okS S=true) (hp:S.p=(N:Int)) (E:Int) (hE:waE L S=E) (R:Rp) (hR:waR L S=R) (hr0:S.r=0):
  Calls Tryz.prog 118 #[.slice a L.length cap,spV S] w fun e w'=>(∃v,e=.returned (.tuple #[v,.int .i64 E])/\RepIs w.heap.size w' v R)/\Below w.heap.size w w':=by
 have C:=rcheck_any S (bx w S);rw [show enE S=0 by unfold enE;rw [hS];rfl] at C;have HB:Hid (Below w.heap.size w (bx w S)/\(bx w S).heap.size=w.heap.size+2/\(bx w S).heap[w.heap.size+1]?=some (.cells rp0C 95 (0,0))/\(bx w S).heap[w.heap.size]?=some (.cells (spC S) 29 (0,0))):=⟨bx_below w S,bx_size w S,bx_r w S,bx_s w S⟩;have HL:Hid (L.length=256*N/\okS S=true/\Row w a cap L/\S.p=(N:Int)):=⟨hil,hS,hr,hp⟩;have HER:Hid (waE L S=E/\waR L S=R):=⟨hE,hR⟩;have HR0:Hid (S.r=0):=hr0;clear hE hR hr0;have hcap:=hr.2.2.1;have hlc:=hr.2.1;obtain ⟨LL,hLL⟩:∃LL,L.length=LL:=⟨_,rfl⟩;rw [hLL] at hlc ⊢;have HLL:Hid (L.length=LL):=hLL;unfold maxLen at hcap;have hq:(LL:Int)/256=(N:Int):=by omega
 have hS':=hS;unfold okS fitS ldB at hS';simp only [jP,jR] at hS'
 have HSB:Hid (((0<=S.h/\S.h<=32)/\(S.h=0↔S.r=0))/\((0<=S.b/\S.b<=1048576)/\(S.b=0↔S.r=0))/\(0<=S.l/\S.l<=S.b)/\(S.r=0\/2<=S.r/\S.r<=S.p-1)/\(S.s=0\/2<=S.s/\S.s<=S.p-1)/\(S.f=0\/2<=S.f/\S.f<=S.p-1)):=by
  show _/\_;refine ⟨by omega,by omega,by omega,by omega,by omega,by omega⟩
 obtain ⟨i0,hi0,hz0,hz1,hz2⟩:=info_parts info5;unfold spV at C ⊢;clear hS hil hr hS' hLL hp;go_enter Tryz.func118,Tryz.ntmps118
 go_wp2_with fail
 refine C.mono ?_;clear C;rintro e w1 ⟨rfl,hb⟩;have hrr:=(hb.block (w.heap.size+1) (by have:=HB.out.2.1;omega)).trans HB.out.2.2.1;have hs:=(hb.block (w.heap.size) (by have:=HB.out.2.1;omega)).trans HB.out.2.2.2;have s1:w1.cell? ⟨w.heap.size,1,none⟩=some (.int .i64 S.p):=by rw [cell_of_row w1 _ _ _ _ (0,0) hs];rfl
 rw [HL.out.2.2.2] at s1;have H1:Hid (Below w.heap.size w w1/\w1.heap[w.heap.size+1]?=some (.cells rp0C 95 (0,0))/\w1.heap[w.heap.size]?=some (.cells (spC S) 29 (0,0))):=⟨HB.out.1.trans (hb.mono HB.out.1.size),hrr,hs⟩;clear hb hrr hs HB;go_upto_region 8 with (at_make;refine wpList_make_full _ rfl _ _ 32 rfl w1.heap.size 5 i0 (.int .u8 0) 1 Tryz.underlying32 hi0 hz0 hz1 .i64 .i64 _ _ N rfl rfl rfl rfl (by rw [hz2];omega) (by unfold maxLen;omega) (jB _) ?_;intro w2 hown2 hgrow2;have H2:Hid (Own w1.heap.size w2 (.slice (some ⟨w1.heap.size,0,none⟩) N N) (List.replicate N 0)/\Below w1.heap.size w1 w2):=⟨made_own hown2,(Below.refl w1.heap.size w1).grown hgrow2 (jB _) (by simp)⟩;clear hown2 hgrow2)
 have H3:Hid (WkS w ((w2.alloc (.cells (wcs a LL cap w1.heap.size N N q00 none 0 0 none 0 0 false) 188)).alloc (.cells #[.int .i64 0,.int .i64 0,.int .i64 0] 190)) w2.heap.size N (fun k=>k=w2.heap.size\/k=w1.heap.size) a cap L q00 (wk0 N) S/\At3 ((w2.alloc (.cells (wcs a LL cap w1.heap.size N N q00 none 0 0 none 0 0 false) 188)).alloc (.cells #[.int .i64 0,.int .i64 0,.int .i64 0] 190)) (w2.heap.size+1) s30):=by
  obtain ⟨b1,r1,s1⟩:=H1.out;obtain ⟨o2,b2⟩:=H2.out;have hlt1:=heap_lt r1;have hw2:=b2.size
  have hia:∀k,obl a k->k<w.heap.size:=by
   rintro k ⟨x,rfl,rfl⟩;obtain ⟨b,off,e⟩:=HL.out.2.2.1.some' (by rw [HL.out.1];omega);cases e;exact block_lt_of_cell (HL.out.2.2.1.cells 0 (by rw [HL.out.1];omega))
  have hrow:=(HL.out.2.2.1.below b1).below b2;have st:=rw_start hrow HL.out.1 h4 o2 (fun k hk=>by have:=hia k hk;omega) hw2;rw [HLL.out] at st;have hbA:=(Below.refl w2.heap.size w2).alloc (jB _) (.cells (wcs a LL cap w1.heap.size N N q00 none 0 0 none 0 0 false) 188)
  have W1:WkS w (w2.alloc (.cells (wcs a LL cap w1.heap.size N N q00 none 0 0 none 0 0 false) 188)) w2.heap.size N (fun k=>k=w2.heap.size\/k=w1.heap.size) a cap L q00 (wk0 N) S:=
   {rw:=st,bel:=(b1.trans (b2.mono b1.size)).trans (hbA.mono (by omega)),s:=(hbA.block _ (by omega)).trans ((b2.block _ (by omega)).trans s1),r:=(hbA.block _ (by omega)).trans ((b2.block _ (by omega)).trans r1),lo:=fun k hk=>by rcases hk with rfl|rfl<;>omega,kl:=by simp [wk0],n0:=by omega,ilo:=hia}
  refine ⟨W1.below ((Below.refl _ _).alloc (jB _) _),?_⟩;have:=heap_alloc_new (w2.alloc (.cells (wcs a LL cap w1.heap.size N N q00 none 0 0 none 0 0 false) 188)) (.cells #[.int .i64 0,.int .i64 0,.int .i64 0] 190);rw [heap_alloc_size] at this;exact this
 obtain ⟨w3,hw3⟩:∃w3,((w2.alloc (.cells (wcs a LL cap w1.heap.size N N q00 none 0 0 none 0 0 false) 188)).alloc (.cells #[.int .i64 0,.int .i64 0,.int .i64 0] 190))=w3:=⟨_,rfl⟩;have hw3':=hw3;unfold wcs at hw3';simp only [q00] at hw3';simp at hw3';rw [hw3'];rw [hw3] at H3;obtain ⟨p,hpp⟩:∃p,w2.heap.size=p:=⟨_,rfl⟩;rw [hpp] at H3 ⊢;obtain ⟨gk0,hgk⟩:∃gk0,w1.heap.size=gk0:=⟨_,rfl⟩;rw [hgk] at H3 ⊢;have HPG:Hid (pgN L=N):=by show pgN L=N;unfold pgN;rw [HL.out.1];omega
 obtain ⟨A,hA⟩:∃A,wkA L S=A:=⟨_,rfl⟩;have HA:Hid (wkA L S=A):=hA;have hP1:¬(p+1=p\/p+1=gk0):=by have:=H2.out.2.size;omega
 have HP1:Hid (¬(p+1=p\/p+1=gk0)):=hP1;clear hw3 hw3' hpp hgk H1 H2 s1 hA hP1 hi0 hz0 hz1 hz2;obtain ⟨-,s2,s3,-,-,-,-⟩:=H3.out.1.at;obtain ⟨x0,x1,x2⟩:=H3.out.2.at;have t0:=H3.out.2.frz 0;have t1:=H3.out.2.frz 1;have t2:=H3.out.2.frz 2;go_upto_if 33 with fail
 go_cut [] (fun wx=>Hid (∃F,WkS w wx p N F a cap L q00 A.1 S/\At3 wx (p+1) A.2/\¬F (p+1)))
 case first=>
  have hr1:(S.r==0)=true:=by rw [HR0.out];rfl
  have hr2:(S.r !=0)=false:=by unfold bne;rw [hr1];rfl
  have HR:Hid (A=(wk0 N,s30)):=by show A=_;rw [<-HA.out];unfold wkA;rw [if_pos HR0.out,HPG.out]
  go_wp2_with fail
  go_meet
  case rel=>exact ⟨_,by rw [HR.out];exact H3.out.1,by rw [HR.out];exact H3.out.2,HP1.out⟩
 case rest=>
  clear s2 s3 x0 x1 x2 t0 t1 t2 H3 HP1;obtain ⟨F,hW,h3,-⟩:=hcut.out;obtain ⟨AW,ap,ab,al⟩:=A;obtain ⟨-,-,-,s4,s5,s6,s7⟩:=hW.at;obtain ⟨-,x1,x2⟩:=h3.at;simp only at x1 x2;obtain ⟨c16,z16⟩:=hW.rw.c16;have H3:Hid (WkS w wc p N F a cap L q00 AW S):=hW;obtain ⟨Bq,hBq⟩:∃Bq,(!(ab==S.b&&al==S.l))=Bq:=⟨_,rfl⟩;have HBq:Hid ((!(ab==S.b&&al==S.l))=Bq):=hBq;have HWB:Hid (wkB L S={AW with bad:=AW.bad||Bq}):=by show wkB L S=_;unfold wkB;rw [HA.out,<-hBq]
  clear hW h3 hcut hBq HA;simp only at c16;go_upto_region 10 with fail
  go_cut [52] (fun s52 wx=>s52=.bool Bq/\wx=wc)
  case first=>
   by_cases e1:ab=S.b
   ·by_cases e2:al=S.l
    ·have f1:(ab==S.b)=true:=by simpa using e1
     have f2:(al==S.l)=true:=by simpa using e2
     have f3:(ab !=S.b)=false:=by unfold bne;rw [f1];rfl
     have f4:(al !=S.l)=false:=by unfold bne;rw [f2];rfl
     have hB:Bq=false:=by rw [<-HBq.out,f1,f2];rfl
     clear e1 e2 f1 f2;go_wp2_with fail
     go_meet
     case rel=>exact ⟨by rw [hB],rfl⟩
    ·have f2:(al==S.l)=false:=by simpa using e2
     have f1:(ab==S.b)=true:=by simpa using e1
     have f3:(ab !=S.b)=false:=by unfold bne;rw [f1];rfl
     have f4:(al !=S.l)=true:=by unfold bne;rw [f2];rfl
     have hB:Bq=true:=by rw [<-HBq.out,f1,f2];rfl
     clear e1 e2 f1 f2;go_wp2_with fail
     go_meet
     case rel=>exact ⟨by rw [hB],rfl⟩
   ·have f1:(ab==S.b)=false:=by simpa using e1
    have f3:(ab !=S.b)=true:=by unfold bne;rw [f1];rfl
    have hB:Bq=true:=by rw [<-HBq.out,f1];rfl
    clear e1 f1;go_wp2_with fail
    go_meet
    case rel=>exact ⟨by rw [hB],rfl⟩
  case rest=>
   obtain ⟨rfl,rfl⟩:=hcut;obtain ⟨WB,hWB⟩:∃WB,wkB L S=WB:=⟨_,rfl⟩;rw [hWB] at HWB;have HWE:Hid (wkB L S=WB):=hWB;clear hWB;go_upto_if 52 with fail
   go_cut [] (fun wx=>Hid (WkS w wx p N F a cap L q00 WB S))
   case first=>
    cases Bq with
    |true=>
     go_wp2_with fail
     go_meet
     case rel=>
      show WkS _ _ _ _ _ _ _ _ _ _ _;rw [HWB.out,Bool.or_true];exact H3.out.step (H3.out.rw.setBad true) (Step.of (Ch.set H3.out.rw.fp _ _)) H3.out.kl
    |false=>
     go_wp2_with fail
     go_meet
     case rel=>
      show WkS _ _ _ _ _ _ _ _ _ _ _;rw [HWB.out,Bool.or_false];exact H3.out
   case rest=>
    clear s4 s5 s6 s7 x1 x2 c16 z16 H3 HWB HBq;have hW:=hcut.out;obtain ⟨-,-,-,-,-,s6,s7⟩:=hW.at;have H3:Hid (WkS w wc p N F a cap L q00 WB S):=hW;obtain ⟨C1,hC1⟩:∃C1,wkC L S=C1:=⟨_,rfl⟩;have hc1:chGo L 115 (N+1) S.s WB []=C1:=by rw [<-hC1];unfold wkC;rw [HPG.out,HWE.out]
    have hsb: -9223372036854775808<=S.s/\S.s<=9223372036854775807:=by have:=HSB.out.2.2.2.2.1;have:=HL.out.2.2.2;omega
    have hfb: -9223372036854775808<=S.f/\S.f<=9223372036854775807:=by have:=HSB.out.2.2.2.2.2;have:=HL.out.2.2.2;omega
    have hch:=chain_any hW.rw (by rw [hW.kl];omega) 115 (by omega) (by decide) (by decide) S.s hsb (N+1) (by rw [hW.kl];omega) C1 hc1;have HC1:Hid (wkC L S=C1/\C1.1.kd.length=N):=⟨hC1,by rw [<-hc1,chGo_len];exact hW.kl⟩;have HFB:Hid (-9223372036854775808<=S.f/\S.f<=9223372036854775807):=hfb;have lps:w.heap.size<wc.heap.size:=by have:=hW.lt;omega
    clear hW hcut hC1 hc1 hsb hfb HWE;obtain ⟨CW,st⟩:=C1;simp only at hch HC1;obtain ⟨sl,hsl⟩:∃sl,st.length=sl:=⟨_,rfl⟩;rw [hsl] at hch;have HSL:Hid (st.length=sl):=hsl;clear hsl;go_wp2_with fail
    refine hch.mono ?_;clear hch;rintro e w5 ⟨gs,cs,rfl,hos,hbs,h5,hc5⟩;have W5:WkS w w5 p N F a cap L q00 CW S:=H3.out.step h5 (Step.of hc5) HC1.out.2;have c13:=h5.c13.1;have z13:=h5.frz 13;simp only [q00] at c13;simp at c13;have hgs:∀k,obl gs k->wc.heap.size<=k/\k<w5.heap.size:=fun k hk=>World.ownsRow.lt hos k (own_obl hk)
    have hrs:Row w5 gs cs st:=(hos.row' hbs).2;have W6:WkS w (w5.setCell ⟨p,13,none⟩ (.slice gs sl cs)) p N F a cap L (fun k=>if k=9 then .slice gs sl cs else q00 k) CW S:=W5.step (h5.setQ 13 9 (.inl ⟨rfl,rfl⟩) _) (Step.of (Ch.set h5.fp _ _)) HC1.out.2;have hrs6:Row (w5.setCell ⟨p,13,none⟩ (.slice gs sl cs)) gs cs st:=hrs.keepO (fun g hg=>Below.heap_setCell w5 ⟨p,13,none⟩ _ g (fun e=>by have:=hgs g hg;have:=H3.out.rw.lt p H3.out.rw.fp;have e':g=p:=e;omega));have s7':=W6.at.2.2.2.2.2.2;obtain ⟨C2,hC2⟩:∃C2,wkD L S=C2:=⟨_,rfl⟩;have hc2:chGo L 102 (N+1) S.f CW []=C2:=by rw [<-hC2];unfold wkD;rw [HPG.out,HC1.out.1]
    have hch:=chain_any W6.rw (by rw [W6.kl];omega) 102 (by omega) (by decide) (by decide) S.f HFB.out (N+1) (by rw [W6.kl];omega) C2 hc2;have HC2:Hid (wkD L S=C2/\C2.1.kd.length=N):=⟨hC2,by rw [<-hc2,chGo_len];exact W6.kl⟩;have H6:Hid (WkS w (w5.setCell ⟨p,13,none⟩ (.slice gs sl cs)) p N F a cap L (fun k=>if k=9 then .slice gs sl cs else q00 k) CW S/\Row (w5.setCell ⟨p,13,none⟩ (.slice gs sl cs)) gs cs st/\(∀k,obl gs k->¬F k/\k<w5.heap.size/\w.heap.size+2<=k)):=⟨W6,hrs6,fun k hk=>⟨fun e=>by have:=hgs k hk;have:=H3.out.rw.lt k e;omega,(hgs k hk).2,by have:=(hgs k hk).1;have:=H3.out.lt;omega⟩⟩;clear hos hbs h5 hc5 W5 hgs hrs W6 hrs6 hC2 hc2 s6 s7 lps;obtain ⟨DW,fr⟩:=C2;simp only at hch HC2;obtain ⟨fl,hfl⟩:∃fl,fr.length=fl:=⟨_,rfl⟩;rw [hfl] at hch;have HFL:Hid (fr.length=fl):=hfl;clear hfl;obtain ⟨w6,hw6⟩:∃w6,w5.setCell ⟨p,13,none⟩ (.slice gs sl cs)=w6:=⟨_,rfl⟩;rw [hw6] at hch H6 s7';clear H3 HFB;go_wp2_with fail
    refine hch.mono ?_;clear hch;rintro e w7 ⟨gf,cf,rfl,hof,hbf,h7,hc7⟩
    have W7:WkS w w7 p N F a cap L (qk gs sl cs (.slice none 0 0)) DW S:=by
     have:=H6.out.1.step h7 (Step.of hc7) HC2.out.2;rw [qk0] at this;exact this
    have hw65:w6.heap.size=w5.heap.size:=by rw [<-hw6,size_setCell]
    have hrs7:Row w7 gs cs st:=H6.out.2.1.keepO (fun g hg=>hc7.block g (by rw [hw65];exact (H6.out.2.2 g hg).2.1) (H6.out.2.2 g hg).1);have H7:Hid (WkS w w7 p N F a cap L (qk gs sl cs (.slice none 0 0)) DW S/\Row w7 gs cs st/\Row w7 gf cf fr/\(∀k,obl gs k->¬F k/\k<w7.heap.size/\w.heap.size+2<=k)):=⟨W7,hrs7,(hof.row' hbf).2,fun k hk=>⟨(H6.out.2.2 k hk).1,by have:=(H6.out.2.2 k hk).2.1;have:=hc7.size;omega,(H6.out.2.2 k hk).2.2⟩⟩;obtain ⟨n1,n2,n3⟩:=nothing_end (cs:=rp0C) W7.bel W7.r;have HNE:Hid ((w7.setRow (w.heap.size+1) rp0C).heap[w.heap.size+1]?=some (.cells rp0C 95 (0,0))/\Below w.heap.size w (w7.setRow (w.heap.size+1) rp0C)):=⟨n2,n3⟩;have c16:=h7.c16.1
    have HNO:Hid (waB L S=false->E=8/\R=rp0):=fun hf=>by
     obtain ⟨hE,hR⟩:=wa_no HL.out.2.1 (by rw [HPG.out];exact HL.out.2.2.2) hf;exact ⟨HER.out.1.symm.trans hE,HER.out.2.symm.trans hR⟩
    have HWA:Hid (waB L S=(!DW.bad&&(decide (fr.length=(N+7)/8)&&(List.range (fr.length*8)).all (frB fr DW.kd N)))):=waB_is HC2.out.1 HPG.out;have hcf:=(hof.row' hbf).2.2.1;have hcf2:=(hof.row' hbf).2.2.2.1;rw [HFL.out] at hcf;unfold maxLen at hcf2;obtain ⟨M,hM⟩:∃M,(N+7)/8=M:=⟨_,rfl⟩;have hM1:((N:Int)+7)/8=(M:Int):=by omega
    have hM5:M<=513:=by omega
    rw [hM] at HWA;clear hof hbf h7 hc7 W7 hrs7 n2 n3 hw6 H6 s7' c13 z13 hw65 hM;cases hbad:DW.bad with
    |true=>
     rw [hbad] at c16 HWA;have HX:Hid (E=8/\R=rp0):=HNO.out (by rw [HWA.out];rfl);clear hbad;go_wp2;refine bodyPost_ret (results_rowtmp rfl _ _ (w.heap.size+1) _ rp0C (0,0) _ rfl HNE.out.1 Tryz.underlying95 rfl (by kernel_rfl)) rfl ?_;rw [HX.out.1,HX.out.2];exact ⟨⟨_,rfl,rep0 _ _⟩,HNE.out.2⟩
    |false=>
     rw [hbad] at c16 HWA;clear hbad;by_cases hln:fl=M
     ·subst hln;have HWL:Hid (waB L S=(List.range (fr.length*8)).all (frB fr DW.kd N)):=by show _=_;rw [HWA.out,HFL.out];simp
      clear HWA;have HWA:Hid (waB L S=(List.range (fr.length*8)).all (frB fr DW.kd N)):=HWL.out;obtain ⟨kb0,ck,aP,aT,cP,cT,hR⟩:=H7.out.1.rw;have k1:=hR.at.2.1;rw [HC2.out.2] at k1;have hck1:=hR.kd.cur;obtain ⟨-,-,hck1,hck2,-⟩:=hck1;rw [HC2.out.2] at hck1;unfold maxLen at hck2;have HRR:Hid (RW w7 p F a cap L kb0 ck aP aT cP cT (qk gs sl cs (.slice none 0 0)) DW):=hR;clear HWL;go_wp2_with fail
      go_loopg [10] (fl*8) (fun g i wr=>∃k:Nat,k<=fl*8/\g=fl*8-k/\i=.int .i64 k/\w7=wr/\Hid (∀j,j<k->frB fr DW.kd N j=true))
      case atStart=>exact ⟨0,jU _,rfl,rfl,rfl,fun j hj=>by omega⟩
      case round=>
       obtain ⟨k,hk,hgk,rfl,rfl,HI⟩:=hrel;have HGK:Hid (gk=fl*8-k):=hgk;clear hgk hM1;by_cases hlt:k<fl*8
       ·obtain ⟨b,off,rfl⟩:=H7.out.2.2.1.some' (by rw [HFL.out];omega);have hrow:=H7.out.2.2.1.cells (k/8) (by rw [HFL.out];omega);have hbz:=H7.out.2.2.1.1.at (k/8);have hand:=bit_and hbz.1 hbz.2 (k%8);have hkj:((k:Int)/8)=((k/8:Nat):Int):=by omega
        have hkr:((k:Int)%8)=((k%8:Nat):Int):=by omega
        have hr8:k%8<8:=by omega
        have hj:k/8<fl:=by omega
        have hbit:bitR fr k=(fr.getD (k/8) 0/2^(k%8)%2==1):=rfl;obtain ⟨z,hz'⟩:∃z,fr.getD (k/8) 0=z:=⟨_,rfl⟩;rw [hz'] at hrow hbz hand hbit;obtain ⟨j,hj'⟩:∃j,k/8=j:=⟨_,rfl⟩;obtain ⟨r,hr'⟩:∃r,k%8=r:=⟨_,rfl⟩;rw [hj'] at hrow hkj hj;rw [hr'] at hand hkr hr8 hbit;clear hz' hj' hr';have hk4:k<4200:=by omega
        have hm01:z/2^r%2=0\/z/2^r%2=1:=by omega
        rcases hm01 with hm|hm
        ·rw [hm] at hand hbit;have hbR:bitR fr k=false:=hbit;clear hm hbit hbz;by_cases h2:k<2
         ·have HX:Hid (E=8/\R=rp0):=HNO.out (HWA.out.trans (all_no (f:=frB fr DW.kd N) (n:=fr.length*8) (k:=k) (by rw [HFL.out];exact hlt) (by unfold frB;rw [hbR];rw [jE h2];rfl)));clear HI;go_wp2;refine bodyPost_ret (results_rowtmp rfl _ _ (w.heap.size+1) _ rp0C (0,0) _ rfl HNE.out.1 Tryz.underlying95 rfl (by kernel_rfl)) rfl ?_;rw [HX.out.1,HX.out.2];exact ⟨⟨_,rfl,rep0 _ _⟩,HNE.out.2⟩
         ·have h2i:decide ((k:Int)<2)=false:=by rw [decide_eq_false_iff_not];omega
          by_cases hN:k<N
          ·obtain ⟨-,b1,-,-⟩:=own_at' hR.kd k (by rw [HC2.out.2];exact hN);have hyb:=hR.kb.at k;obtain ⟨y,hy⟩:∃y,DW.kd.getD k 0=y:=⟨_,rfl⟩;rw [hy] at b1 hyb;by_cases y0:y=0
           ·subst y0;have hfr:frB fr DW.kd N k=true:=by unfold frB;rw [hbR];rw [jH h2,hy];simp
            have HI2:Hid (∀j,j<k+1->frB fr DW.kd N j=true):=fun j hj=>by rcases Nat.lt_succ_iff_lt_or_eq.1 hj with e|rfl;exact HI.out j e;exact hfr
            clear HI hfr hbR;go_wp2;go_roundg (fl*8-(k+1))
            case rel=>exact ⟨k+1,by omega,rfl,by go_num,rfl,HI2⟩
            case measure=>have:=HGK.out;omega
           ·have y1:(y==0)=false:=by simpa using y0
            have y2:(y !=0)=true:=by unfold bne;rw [y1];rfl
            have HX:Hid (E=8/\R=rp0):=HNO.out (HWA.out.trans (all_no (f:=frB fr DW.kd N) (n:=fr.length*8) (k:=k) (by rw [HFL.out];exact hlt) (by unfold frB;rw [hbR];rw [jH h2,jE hN,hy,y1];rfl)));clear HI;go_wp2;refine bodyPost_ret (results_rowtmp rfl _ _ (w.heap.size+1) _ rp0C (0,0) _ rfl HNE.out.1 Tryz.underlying95 rfl (by kernel_rfl)) rfl ?_;rw [HX.out.1,HX.out.2];exact ⟨⟨_,rfl,rep0 _ _⟩,HNE.out.2⟩
          ·have hfr:frB fr DW.kd N k=true:=by unfold frB;rw [hbR];rw [jH h2,jH hN];rfl
           have HI2:Hid (∀j,j<k+1->frB fr DW.kd N j=true):=fun j hj=>by rcases Nat.lt_succ_iff_lt_or_eq.1 hj with e|rfl;exact HI.out j e;exact hfr
           clear HI hfr hbR;go_wp2;go_roundg (fl*8-(k+1))
           case rel=>exact ⟨k+1,by omega,rfl,by go_num,rfl,HI2⟩
           case measure=>have:=HGK.out;omega
        ·rw [hm] at hand hbit;have hbR:bitR fr k=true:=hbit;clear hm hbit hbz;by_cases h2:k<2
         ·have hfr:frB fr DW.kd N k=true:=by unfold frB;rw [hbR];rw [jE h2];rfl
          have HI2:Hid (∀j,j<k+1->frB fr DW.kd N j=true):=fun j hj=>by rcases Nat.lt_succ_iff_lt_or_eq.1 hj with e|rfl;exact HI.out j e;exact hfr
          clear HI hfr hbR;go_wp2;go_roundg (fl*8-(k+1))
          case rel=>exact ⟨k+1,by omega,rfl,by go_num,rfl,HI2⟩
          case measure=>have:=HGK.out;omega
         ·have h2i:decide ((k:Int)<2)=false:=by rw [decide_eq_false_iff_not];omega
          by_cases hN:k<N
          ·obtain ⟨-,b1,-,-⟩:=own_at' hR.kd k (by rw [HC2.out.2];exact hN);have hyb:=hR.kb.at k;obtain ⟨y,hy⟩:∃y,DW.kd.getD k 0=y:=⟨_,rfl⟩;rw [hy] at b1 hyb;by_cases y0:y=0
           ·subst y0;have HX:Hid (E=8/\R=rp0):=HNO.out (HWA.out.trans (all_no (f:=frB fr DW.kd N) (n:=fr.length*8) (k:=k) (by rw [HFL.out];exact hlt) (by unfold frB;rw [hbR];rw [jH h2,hy];simp)));clear HI;go_wp2;refine bodyPost_ret (results_rowtmp rfl _ _ (w.heap.size+1) _ rp0C (0,0) _ rfl HNE.out.1 Tryz.underlying95 rfl (by kernel_rfl)) rfl ?_;rw [HX.out.1,HX.out.2];exact ⟨⟨_,rfl,rep0 _ _⟩,HNE.out.2⟩
           ·have y1:(y==0)=false:=by simpa using y0
            have y2:(y !=0)=true:=by unfold bne;rw [y1];rfl
            have hfr:frB fr DW.kd N k=true:=by unfold frB;rw [hbR];rw [jH h2,jE hN,hy,y1];rfl
            have HI2:Hid (∀j,j<k+1->frB fr DW.kd N j=true):=fun j hj=>by rcases Nat.lt_succ_iff_lt_or_eq.1 hj with e|rfl;exact HI.out j e;exact hfr
            clear HI hfr hbR;go_wp2;go_roundg (fl*8-(k+1))
            case rel=>exact ⟨k+1,by omega,rfl,by go_num,rfl,HI2⟩
            case measure=>have:=HGK.out;omega
          ·have HX:Hid (E=8/\R=rp0):=HNO.out (HWA.out.trans (all_no (f:=frB fr DW.kd N) (n:=fr.length*8) (k:=k) (by rw [HFL.out];exact hlt) (by unfold frB;rw [hbR];rw [jH h2,jH hN];rfl)));clear HI;go_wp2;refine bodyPost_ret (results_rowtmp rfl _ _ (w.heap.size+1) _ rp0C (0,0) _ rfl HNE.out.1 Tryz.underlying95 rfl (by kernel_rfl)) rfl ?_;rw [HX.out.1,HX.out.2];exact ⟨⟨_,rfl,rep0 _ _⟩,HNE.out.2⟩
       ·have HX:Hid (waB L S=true):=HWA.out.trans (all_yes (f:=frB fr DW.kd N) (n:=fr.length*8) (fun j hj=>HI.out j (by rw [HFL.out] at hj;omega)))
        have HWE:Hid (E=0/\R=⟨S,-1,DW.pc,DW.tx,st,rsg DW.kd N,S.h⟩/\∀x∈DW.pc,wfC x):=by
         obtain ⟨hE,hR2⟩:=wa_yes HL.out.2.1 (by rw [HPG.out];exact HL.out.2.2.2) HX.out;have hpc:=wk_pcs HL.out.2.2.1.1 (by rw [HPG.out];exact h4) HL.out.2.1 hE;rw [hR2,HC2.out.1] at hpc;rw [HC2.out.1,HC1.out.1,HPG.out] at hR2;exact ⟨HER.out.1.symm.trans hE,HER.out.2.symm.trans hR2,hpc⟩
        have HFW:Hid (∀k,F k->k<w7.heap.size):=hR.lt;have H72:Hid (w.heap.size+2<=w7.heap.size):=by show _<=_;have:=H7.out.1.lt;omega
        clear HI HX hR k1 hck1 hck2 HRR HNO HWA HNE n1 c16 HGK;go_wp2_with fail
        go_loopg [12] N (fun g i wr=>∃(k:Nat) (ag:Option Addr) (cg:Nat),k<=N/\g=N-k/\i=.int .i64 k/\Hid (PgI w w7 wr p N F a cap L gs sl cs DW S k (.slice ag (rsg DW.kd k).length cg)))
        case atStart=>exact ⟨0,none,0,jU _,rfl,rfl,⟨H7.out.1,⟨rfl,.inl ⟨rfl,rfl⟩⟩,Ch.refl _ _ _⟩⟩
        case round=>
         obtain ⟨m,ag,cg,hm,hgk,rfl,HI⟩:=hrel;have HGK:Hid (gk=N-m):=hgk;clear hgk;obtain ⟨kb,ck,aP,aT,cP,cT,hR⟩:=HI.out.wk.rw;have k1:=hR.at.2.1;rw [HC2.out.2] at k1;have hck:=hR.kd.cur;obtain ⟨-,-,hck1,hck2,-⟩:=hck;rw [HC2.out.2] at hck1;unfold maxLen at hck2;have c14:=HI.out.wk.rw.c13.2.1;have z14:=HI.out.wk.rw.frz 14;rw [show qk gs sl cs (.slice ag (rsg DW.kd m).length cg) 10=.slice ag (rsg DW.kd m).length cg from rfl] at c14;obtain ⟨rl,hrl⟩:∃rl,(rsg DW.kd m).length=rl:=⟨_,rfl⟩;have hrm:rl<=m:=by rw [<-hrl];exact rsg_len _ _
         have HRL:Hid ((rsg DW.kd m).length=rl):=hrl;rw [hrl] at c14 HI;clear hrl;by_cases hlm:m<N
         ·obtain ⟨-,b1,-,-⟩:=own_at' hR.kd m (by rw [HC2.out.2];exact hlm);have hyb:=hR.kb.at m;obtain ⟨y,hy⟩:∃y,DW.kd.getD m 0=y:=⟨_,rfl⟩;rw [hy] at b1 hyb;have HY:Hid (DW.kd.getD m 0=y):=hy;have lpr:p<wr.heap.size:=hR.lt p hR.fp;clear hy hR;by_cases y0:y=0
          ·subst y0
           have HI2:Hid (PgI w w7 wr p N F a cap L gs sl cs DW S (m+1) (.slice ag (rsg DW.kd (m+1)).length cg)):=by
            show PgI _ _ _ _ _ _ _ _ _ _ _ _ _ _ _ _;rw [rsg_no HY.out,HRL.out];exact {HI.out with own:=by rw [rsg_no HY.out];exact HI.out.own}
           clear HI;go_wp2;go_roundg (N-(m+1))
           case rel=>exact ⟨m+1,ag,cg,by omega,rfl,by go_num,HI2⟩
           case measure=>have:=HGK.out;omega
          ·have y1:(y==0)=false:=by simpa using y0
           have y2:(y !=0)=true:=by unfold bne;rw [y1];rfl
           have HYN:Hid (¬DW.kd.getD m 0=0):=by show ¬_;rw [HY.out];exact y0
           have hsz:=HI.out.ch.size;clear y0 y1;go_wp2_with (at_builtin;refine appI wr rfl _ _ rfl w7.heap.size (.slice ag rl cg) (rsg DW.kd m) (m:Int) rfl HI.out.own rfl (by rw [HRL.out];omega) hsz ?_;intro v4 w4 ho4 hb4;obtain ⟨ga,ca,hv4,-⟩:=ho4.row2;rw [jO,HRL.out] at hv4;subst hv4;have c14':=(hb4.cell (p:=⟨p,14,none⟩) (HFW.out p HI.out.wk.rw.fp)).trans c14;have z14':=(hb4.frozen (p:=⟨p,14,none⟩) (HFW.out p HI.out.wk.rw.fp)).trans z14;have H4:Hid (PgI w w7 (w4.setCell ⟨p,14,none⟩ (.slice ga (rl+[(m:Int)].length) ca)) p N F a cap L gs sl cs DW S (m+1) (.slice ga (rl+[(m:Int)].length) ca)):=HI.out.next HFW.out H72.out (fun k hk=>by have:=HI.out.wk.ilo k hk;have:=H72.out;omega) HYN.out ho4 hb4;clear ho4 hb4)
           go_roundg (N-(m+1))
           case rel=>exact ⟨m+1,ga,ca,by omega,rfl,by go_num,by show PgI _ _ _ _ _ _ _ _ _ _ _ _ _ _ _ _;rw [rsg_yes HYN.out,jO,HRL.out];exact H4.out⟩
           case measure=>have:=HGK.out;omega
         ·have hmN:m=N:=by omega
          subst hmN;obtain ⟨w9,aP',cP',aT',cT',f1,⟨f2,f3⟩,f4,f5,f6,f7⟩:=walk_end HI.out H7.out.2.1 H7.out.2.2.2 HSL.out HWE.out.2.2 H72.out HRL.out HFW.out;obtain ⟨g1,g2,g3,g4,g5⟩:=f7 _ rfl;have HG:Hid _:=And.intro g3 (And.intro g4 g5);obtain ⟨s1,s2,s3,s4,s5,s6,s7⟩:=HI.out.wk.at;have s0:wr.cell? ⟨w.heap.size,0,none⟩=some (.int .i64 S.g):=by rw [cell_of_row wr _ _ _ _ (0,0) HI.out.wk.s];rfl
          have f4a:=f4 10;have f4b:=f4 15;unfold spC at f1;unfold rpC at g1 g2;clear f4 f7 g3 g4 g5 hR k1 hck1 hck2 c14 z14 HI;go_wp2;refine bodyPost_ret (results_rowtmp rfl _ _ (w.heap.size+1) _ _ (0,0) _ rfl HG.out.1 Tryz.underlying95 rfl (by kernel_rfl)) rfl ?_;rw [HWE.out.1,HWE.out.2.1];exact ⟨⟨_,rfl,HG.out.2.2⟩,HG.out.2.1⟩
     ·have hl1:((fl:Int)==(M:Int))=false:=by rw [xG];omega
      have hl2:((fl:Int) !=(M:Int))=true:=by unfold bne;rw [hl1];rfl
      have HX:Hid (E=8/\R=rp0):=HNO.out (by rw [HWA.out,HFL.out,jH hln];rfl);clear hln hl1;go_wp2;refine bodyPost_ret (results_rowtmp rfl _ _ (w.heap.size+1) _ rp0C (0,0) _ rfl HNE.out.1 Tryz.underlying95 rfl (by kernel_rfl)) rfl ?_;rw [HX.out.1,HX.out.2];exact ⟨⟨_,rfl,rep0 _ _⟩,HNE.out.2⟩
end Go.Proofs.YtaijfhadecennaaGreat.Oct
