/- Part of a proof. -/
import Derived.Test.YtaijfhadecennaaGreatGf
import Derived.Defers
import Derived.Recover
open Go.Proofs.Tryz
set_option maxHeartbeats 2000000
namespace Go.Proofs.YtaijfhadecennaaGreat.Oct
open Go.RowKit
theorem Row.cut {w:World} {g off cap:Nat} {L:List Int} (h:Row w (some ⟨g,off,none⟩) cap L) (a n:Nat) (hn:a+n<=L.length):Row w (some ⟨g,off+a,none⟩) (cap-a) ((L.drop a).take n):=by
 have hl:((L.drop a).take n).length=n:=by simp;omega
 refine ⟨fun z hz=>h.1 z (jV (jU hz)),by have:=h.2.1;omega,by have:=h.2.2.1;omega,?_⟩;by_cases h0:n=0
 ·exact .inl (by simp [h0])
 ·refine .inr ⟨g,off+a,rfl,fun i hi=>?_⟩;rw [hl] at hi;have:=h.cells (a+i) (by omega);rw [show off+a+i=off+(a+i) by omega,this];simp [hi]
theorem JY {L:List Int} {pg:Nat} (h:pg*256+256<=L.length):(pageOf L pg).length=256:=by simp [pageOf];omega
theorem rdo_any {w:World} {p:Nat} {F:Nat->Prop} {D:Dv} (h:Dev w p F D) (q pg:Nat) (v:Value) (hq0:w.cell? ⟨q,0,none⟩=some (.pointer (some ⟨p,0,none⟩))) (hq1:w.cell? ⟨q,1,none⟩=some (.int .i64 pg)) (hq2:w.cell? ⟨q,2,none⟩=some v) (hz2:w.frozen? ⟨q,2,none⟩=false) (hpg:pg<D.n):
  Calls prog 150 #[.pointer (some ⟨q,0,none⟩)] w fun e w'=>e=.returned (.tuple #[])/\(∃g c,w'.cell? ⟨q,2,none⟩=some (.slice (some ⟨g,0,none⟩) 256 c)/\Own w.heap.size w' (.slice (some ⟨g,0,none⟩) 256 c) (pageOf D.now pg))/\Ch w.heap.size (fun k=>k=q) w w':=by
 obtain ⟨ok,hF,gN,gL,cN,cL,vS,vO,f,hc,hfo⟩:=h;have c0:=hc.at.1;have hlen:=ok.now;have hn4:=ok.n4;have hrow:=(hc.now.row' ok.bnow).2;have hcN:=hrow.2.1;have hcm:=hrow.2.2.1;have hpl:(pageOf D.now pg).length=256:=JY (by omega);have hcut:=hrow.cut (pg*256) 256 (by omega);obtain ⟨A,hA⟩:∃A,pg*256=A:=⟨_,rfl⟩;rw [hA,qT] at hcut;have hcl:=JP ⟨gN,A,none⟩ (cN-A) (pageOf D.now pg) w (by unfold pageOf;rw [hA];exact hcut) (by omega);rw [hpl] at hcl;obtain ⟨N,hN⟩:∃N,D.now.length=N:=⟨_,rfl⟩;rw [hN] at c0 hcN;have i1:(pg:Int)*256=A:=by omega
 have i2:A+256<=N:=by omega
 have i4:N<=1048576:=by omega
 have i5:¬cN=A:=by omega
 obtain ⟨U,hU⟩:∃U,A+256=U:=⟨_,rfl⟩;have i6:(A:Int)+256=U:=by omega
 have i7:(U:Int)<=cN:=by omega
 have i8:(A:Int)<=U:=by omega
 have i9:U-A=256:=by omega
 have hbq:q<w.heap.size:=block_lt_of_cell hq0;unfold maxLen at hcm;clear hrow hcut hc ok hfo hF hlen hpl hA hN hU;go_enter func150,ntmps150
 go_wp2_with fail
 refine hcl.mono ?_;clear hcl;rintro e w1 ⟨g,c,rfl,ho,hb⟩;have e2:w1.cell? ⟨q,2,none⟩=some v:=(hb.cell (p:=⟨q,2,none⟩) hbq).trans hq2;have y2:w1.frozen? ⟨q,2,none⟩=false:=(hb.frozen (p:=⟨q,2,none⟩) hbq).trans hz2;have lg:=ho.lt2;have HO:Hid (Own w.heap.size (w1.setCell ⟨q,2,none⟩ (.slice (some ⟨g,0,none⟩) 256 c)) (.slice (some ⟨g,0,none⟩) 256 c) (pageOf D.now pg)):=ho.kept (Below.heap_setCell w1 ⟨q,2,none⟩ _ g (by show g≠q;omega));have HC:Hid (Ch w.heap.size (fun k=>k=q) w (w1.setCell ⟨q,2,none⟩ (.slice (some ⟨g,0,none⟩) 256 c))):=(Ch.of (fun k=>k=q) hb).setCell (p:=⟨q,2,none⟩) (.inr rfl) _;clear ho hb;go_wp2;go_end0
 exact ⟨rfl,⟨g,c,World.cell?_setCell_same _ _ _ e2,HO.out⟩,HC.out⟩
theorem kD (b:Nat) (w:World):
  CallsD prog 186 #[.pointer (some ⟨b,0,none⟩),.pointer (some ⟨b+1,0,none⟩),.pointer (some ⟨b+2,0,none⟩),.pointer (some ⟨b+3,0,none⟩)] .returning w fun e u' w'=>e=.returned (.tuple #[])/\u'=.returning/\w'=w:=by
 refine callsD_of_wpS func186 rfl fun c₀ cs hu=>?_
 apply wpS_seq;apply wpS_region;simp [wpOpsS,go_sem,recoverD,hu,ntmps186,Exit.thenS];refine wpS_cond (t:=false) (by simp [Act.eval,Array.replicate]) ?_;simp only [yC,if_false];refine wpS_of_wp (wp_skip ?_);cases c₀
 simp_all [bodyPostS,results,Tryz.results186]
theorem opc_f (m:Nat) (am:Array Value) (hm:∀(a:Array Value) (w:World),(callFunc m a).run prog w=.ok (.enter m a) w) (b p:Nat) (x y:Bool) (z:Int) (u:TypeId) (pv:Value) (older:List PanicEntry) (w:World) (R:World->Prop) (h0:w.cell? ⟨b,0,none⟩=some (.pointer (some ⟨p,0,none⟩))) (h1:w.cell? ⟨b+1,0,none⟩=some (.func (.func m) am #[]))
  (h6:w.cell? ⟨p,6,none⟩=some (.bool x)) (z6:w.frozen? ⟨p,6,none⟩=false)
  (hdy:Calls prog m am (w.setCell ⟨p,6,none⟩ (.bool true)) fun e w'=>e=.returned (.tuple #[])/\R w')
  (hR:∀w',R w'->w'.cell? ⟨b+2,0,none⟩=some (.bool y)/\w'.frozen? ⟨b+2,0,none⟩=false/\w'.cell? ⟨b+3,0,none⟩=some (.int .i64 z)/\w'.frozen? ⟨b+3,0,none⟩=false):
  CallsD prog 186 #[.pointer (some ⟨b,0,none⟩),.pointer (some ⟨b+1,0,none⟩),.pointer (some ⟨b+2,0,none⟩),.pointer (some ⟨b+3,0,none⟩)] (.panicking ({v:=.iface u pv,recovered:=false}::older)) w fun e u' w'=>
   e=.returned (.tuple #[])/\u'=.panicking ({v:=.iface u pv,recovered:=true}::older)/\∃w2,R w2/\w'=(w2.setCell ⟨b+2,0,none⟩ (.bool false)).setCell ⟨b+3,0,none⟩ (.int .i64 7):=by
 have k1:(w.setCell ⟨p,6,none⟩ (.bool true)).cell? ⟨b+1,0,none⟩=some (.func (.func m) am #[]):=(World.cell?_setCell_other _ _ _ _ (by simp)).trans h1;refine callsD_of_wpS func186 rfl fun c₀ cs hu=>?_
 apply wpS_seq;apply wpS_region;simp [wpOpsS,go_sem,recoverD,hu,ntmps186,Exit.thenS];refine wpS_cond (t:=true) (by simp [Act.eval,Array.replicate]) ?_;simp only [if_true];refine wpS_of_wp ?_;go_wp2_with fail
 refine hdy.mono ?_;rintro e w2 ⟨rfl,hr⟩;obtain ⟨r2,r2z,r3,r3z⟩:=hR w2 hr;have HR:Hid (R w2):=hr;have r3':∀v:Value,(w2.setCell ⟨b+2,0,none⟩ v).cell? ⟨b+3,0,none⟩=some (.int .i64 z):=fun v=>(World.cell?_setCell_other _ _ _ _ (by simp)).trans r3
 clear hr hR hdy;go_wp2;simp [bodyPostS,results,Tryz.results186];exact ⟨w2,HR.out,rfl⟩
structure Loc4 (w:World) (b p:Nat) (v:Value) (x:Bool) (y:Int):Prop where
 l0:w.cell? ⟨b,0,none⟩=some (.pointer (some ⟨p,0,none⟩))
 l1:w.cell? ⟨b+1,0,none⟩=some v
 l2:w.cell? ⟨b+2,0,none⟩=some (.bool x)
 l3:w.cell? ⟨b+3,0,none⟩=some (.int .i64 y)
 z2:w.frozen? ⟨b+2,0,none⟩=false
 z3:w.frozen? ⟨b+3,0,none⟩=false
theorem Loc4.ch {w w':World} {b p B:Nat} {v:Value} {x:Bool} {y:Int} {F:Nat->Prop} (h:Loc4 w b p v x y) (hc:Ch B F w w') (hB:b+3<B) (hF:∀k,F k->k<b):Loc4 w' b p v x y:=
 ⟨(hc.cell (p:=⟨b,0,none⟩) (by show b<B;omega) (fun e=>by have:=hF _ e;simp at this)).trans h.l0,(hc.cell (p:=⟨b+1,0,none⟩) (by show b+1<B;omega) (fun e=>by have:=hF _ e;simp at this;omega)).trans h.l1,
   (hc.cell (p:=⟨b+2,0,none⟩) (by show b+2<B;omega) (fun e=>by have:=hF _ e;simp at this;omega)).trans h.l2,(hc.cell (p:=⟨b+3,0,none⟩) (by show b+3<B;omega) (fun e=>by have:=hF _ e;simp at this;omega)).trans h.l3,
   (hc.frozen (p:=⟨b+2,0,none⟩) (by show b+2<B;omega) (fun e=>by have:=hF _ e;simp at this;omega)).trans h.z2,(hc.frozen (p:=⟨b+3,0,none⟩) (by show b+3<B;omega) (fun e=>by have:=hF _ e;simp at this;omega)).trans h.z3⟩
def W4 (w:World) (p:Nat) (v:Value):World:=(((w.alloc (.cells #[.pointer (some ⟨p,0,none⟩)] 38)).alloc (.cells #[v] 1)).alloc (.cells #[.bool false] 4)).alloc (.cells #[.int .i64 0] 25)
theorem JV (w:World) (p:Nat) (v:Value):Below w.heap.size w (W4 w p v):=((((Below.refl _ w).alloc (jB _) _).alloc (by simp) _).alloc (by simp;omega) _).alloc (by simp;omega) _
theorem QN (w:World) (p:Nat) (v:Value):(W4 w p v).heap.size=w.heap.size+4:=by simp [W4]
theorem GW (w:World) (p:Nat) (v:Value):Loc4 (W4 w p v) w.heap.size p v false 0:=by
 constructor<;>simp [W4,go_sem]
def LocEq (b:Nat) (w w':World):Prop:=w'.os=w.os/\w'.tape=w.tape/\w'.output=w.output/\w'.heap.size=w.heap.size/\∀k,(k<b\/b+4<=k)->w'.heap[k]?=w.heap[k]?
theorem LocEq.two (b:Nat) (w:World) (u v:Value):LocEq b w ((w.setCell ⟨b+2,0,none⟩ u).setCell ⟨b+3,0,none⟩ v):=
 ⟨rfl,rfl,rfl,by rw [yP,yP],fun k hk=>(Below.heap_setCell _ ⟨b+3,0,none⟩ _ _ (by show k≠b+3;omega)).trans (Below.heap_setCell _ ⟨b+2,0,none⟩ _ _ (by show k≠b+2;omega))⟩
theorem LocEq.ch {b:Nat} {w w':World} (h:LocEq b w w') (F:Nat->Prop):Ch b F w w':=⟨h.1,h.2.1,h.2.2.1,by rw [h.2.2.2.1];exact jB _,fun k hk _=>h.2.2.2.2 k (.inl hk)⟩
theorem Dev.loc {w w':World} {b p:Nat} {F:Nat->Prop} {D:Dv} (h:Dev w p F D) (hl:LocEq b w w') (hF:∀k,F k->k<b\/b+4<=k):Dev w' p F D:=h.keep (by rw [hl.2.2.2.1];exact jB _) (fun g hg=>hl.2.2.2.2 g (hF g hg))
theorem Dev.set5 {w:World} {p:Nat} {F:Nat->Prop} {D:Dv} (h:Dev w p F D):Dev (w.setCell ⟨p,5,none⟩ (.int .i64 ((D.ops:Int)+1))) p F {D with ops:=D.ops+1}:=by
 obtain ⟨ok,hF,gN,gL,cN,cL,vS,vO,f,hc,hfo⟩:=h;exact ⟨⟨ok.n8,ok.n4,ok.now,ok.sure,ok.bnow,ok.bsure,ok.bout,ok.since,ok.fuse⟩,fun k hk=>by rw [yP];exact hF k hk,gN,gL,cN,cL,vS,vO,f,hc.set5 (D.ops+1),hfo⟩
theorem Dev.set6 {w:World} {p:Nat} {F:Nat->Prop} {D:Dv} (h:Dev w p F D):Dev (w.setCell ⟨p,6,none⟩ (.bool true)) p F {D with dead:=true}:=by
 obtain ⟨ok,hF,gN,gL,cN,cL,vS,vO,f,hc,hfo⟩:=h;exact ⟨⟨ok.n8,ok.n4,ok.now,ok.sure,ok.bnow,ok.bsure,ok.bout,ok.since,ok.fuse⟩,fun k hk=>by rw [yP];exact hF k hk,gN,gL,cN,cL,vS,vO,f,hc.set6 true,hfo⟩
theorem Dev.c56 {w:World} {p:Nat} {F:Nat->Prop} {D:Dv} (h:Dev w p F D):w.cell? ⟨p,5,none⟩=some (.int .i64 D.ops)/\w.cell? ⟨p,6,none⟩=some (.bool D.dead)/\∀i,w.frozen? ⟨p,i,none⟩=false:=by
 obtain ⟨ok,hF,gN,gL,cN,cL,vS,vO,f,hc,hfo⟩:=h;exact ⟨hc.at.2.2.2.2.2.1,hc.at.2.2.2.2.2.2.1,hc.at.2.2.2.2.2.2.2⟩
theorem set2 {w:World} {b p:Nat} {v:Value} {x:Bool} {y:Int} (h:Loc4 w b p v x y) (u t:Value):((w.setCell ⟨b+2,0,none⟩ u).setCell ⟨b+3,0,none⟩ t).cell? ⟨b+2,0,none⟩=some u:=
 (World.cell?_setCell_other _ _ _ _ (by simp)).trans (World.cell?_setCell_same _ _ _ h.l2)
theorem set3 {w:World} {b p:Nat} {v:Value} {x:Bool} {y:Int} (h:Loc4 w b p v x y) (u t:Value):((w.setCell ⟨b+2,0,none⟩ u).setCell ⟨b+3,0,none⟩ t).cell? ⟨b+3,0,none⟩=some t:=
 World.cell?_setCell_same _ _ _ ((World.cell?_setCell_other _ _ _ _ (by simp)).trans h.l3)
theorem mkf (fn:Fn) (first cap:Array Value) (w:World):(Instr.makeFunc fn first cap).run prog w=.ok (.func fn first cap) w:=rfl
theorem gV {w:World} {p:Nat} {F:Nat->Prop} {D:Dv} (h:Dev w p F D) (hd:D.dead=true) (fd fy:Fn) (ad ay:Array Value):
  Calls prog 146 #[.pointer (some ⟨p,0,none⟩),.func fd ad #[],.func fy ay #[]] w fun e w'=>e=.returned (.tuple #[.bool false,.int .i64 7])/\Below w.heap.size w w':=by
 have hb:=JV w p (.func fy ay #[]);have c6:=((h.below hb).c56.2.1);rw [hd] at c6;unfold W4 at c6;clear h;clear hb;go_enter_defers func146,ntmps146
 go_wp2;simp [bodyPostD,Leaves,results,Tryz.results146,go_sem];exact ((((Below.refl _ w).alloc (jB _) _).alloc (by simp) _).alloc (by simp;omega) _).alloc (by simp;omega) _
theorem op_die {w:World} {p:Nat} {F:Nat->Prop} {D:Dv} (h:Dev w p F D) (hd:D.dead=false) (hf:D.fuse=0) (hops:D.ops<=4611686018427387904) (m:Nat) (am:Array Value) (hm:∀(a:Array Value) (w:World),(callFunc m a).run prog w=.ok (.enter m a) w) (fy:Fn) (ay:Array Value) (q:Nat) (hq:q<w.heap.size) (Ry:World->World->Prop)
  (hdy:∀w1,Dev w1 p F (dieD D)->Ch w.heap.size F w w1->w.heap.size+4<=w1.heap.size->Calls prog m am w1 fun e w2=>e=.returned (.tuple #[])/\Ch w1.heap.size (fun k=>F k\/k=q) w1 w2/\Ry w1 w2):
  Calls prog 146 #[.pointer (some ⟨p,0,none⟩),.func fy ay #[],.func (.func m) am #[]] w fun e w'=>e=.returned (.tuple #[.bool false,.int .i64 7])/\∃w1 w2,Dev w1 p F (dieD D)/\Ch w.heap.size F w w1/\w.heap.size+4<=w1.heap.size/\Ry w1 w2/\Ch w1.heap.size (fun k=>F k\/k=q) w1 w2/\LocEq w.heap.size w2 w':=by
 have hpw:=h.p;have hFw:=h.2.1;have hd4:=h.below (JV w p (.func (.func m) am #[]));have loc4:=GW w p (.func (.func m) am #[]);obtain ⟨c5,c6,z⟩:=hd4.c56;have z5:=z 5;have hd5:=hd4.set5;have loc5:=loc4.ch (Ch.set (w:=W4 w p (.func (.func m) am #[])) (F:=F) hpw.1 5 (.int .i64 ((D.ops:Int)+1))) (by rw [QN];omega) hFw;have hburn:=burn_zero hd5 hf;have hd6:Dev (((W4 w p (.func (.func m) am #[])).setCell ⟨p,5,none⟩ (.int .i64 ((D.ops:Int)+1))).setCell ⟨p,6,none⟩ (.bool true)) p F (dieD D):=hd5.set6
 have ch6:Ch w.heap.size F w (((W4 w p (.func (.func m) am #[])).setCell ⟨p,5,none⟩ (.int .i64 ((D.ops:Int)+1))).setCell ⟨p,6,none⟩ (.bool true)):=
  ((Ch.of F (JV w p _)).setCell (p:=⟨p,5,none⟩) (.inr hpw.1) _).setCell (p:=⟨p,6,none⟩) (.inr hpw.1) _
 have s6:w.heap.size+4<=(((W4 w p (.func (.func m) am #[])).setCell ⟨p,5,none⟩ (.int .i64 ((D.ops:Int)+1))).setCell ⟨p,6,none⟩ (.bool true)).heap.size:=by rw [yP,yP,QN];omega
 have loc6:=loc5.ch (Ch.set (w:=(W4 w p (.func (.func m) am #[])).setCell ⟨p,5,none⟩ (.int .i64 ((D.ops:Int)+1))) (F:=F) hpw.1 6 (.bool true)) (by rw [yP,QN];omega) hFw;obtain ⟨_,d6,z'⟩:=hd5.c56
 have hcatch:=fun u pv older=>opc_f m am hm w.heap.size p D.dead false 0 u pv older _
  (fun w'=>Ch (((W4 w p (.func (.func m) am #[])).setCell ⟨p,5,none⟩ (.int .i64 ((D.ops:Int)+1))).setCell ⟨p,6,none⟩ (.bool true)).heap.size (fun k=>F k\/k=q) (((W4 w p (.func (.func m) am #[])).setCell ⟨p,5,none⟩ (.int .i64 ((D.ops:Int)+1))).setCell ⟨p,6,none⟩ (.bool true)) w'/\Ry (((W4 w p (.func (.func m) am #[])).setCell ⟨p,5,none⟩ (.int .i64 ((D.ops:Int)+1))).setCell ⟨p,6,none⟩ (.bool true)) w')
  loc5.l0 loc5.l1 d6 (z' 6) (hdy _ hd6 ch6 s6) (fun w' hr=>by
   have l:=loc6.ch hr.1 (by omega) (fun k hk=>by rcases hk with hk|hk;exact hFw k hk;omega);exact ⟨l.l2,l.z2,l.l3,l.z3⟩)
 have HD:Hid (Dev (((W4 w p (.func (.func m) am #[])).setCell ⟨p,5,none⟩ (.int .i64 ((D.ops:Int)+1))).setCell ⟨p,6,none⟩ (.bool true)) p F (dieD D)):=hd6;have HC:Hid (Ch w.heap.size F w (((W4 w p (.func (.func m) am #[])).setCell ⟨p,5,none⟩ (.int .i64 ((D.ops:Int)+1))).setCell ⟨p,6,none⟩ (.bool true))):=ch6;have HS:Hid (w.heap.size+4<=(((W4 w p (.func (.func m) am #[])).setCell ⟨p,5,none⟩ (.int .i64 ((D.ops:Int)+1))).setCell ⟨p,6,none⟩ (.bool true)).heap.size):=s6;have HL:Hid (Loc4 (((W4 w p (.func (.func m) am #[])).setCell ⟨p,5,none⟩ (.int .i64 ((D.ops:Int)+1))).setCell ⟨p,6,none⟩ (.bool true)) w.heap.size p (.func (.func m) am #[]) false 0):=loc6;have HF:Hid (∀k,F k->k<w.heap.size):=hFw;rw [hd] at c6;have hmk:=mkf;unfold W4 at c5 c6 z5 hburn hcatch;clear h hd4 hd5 loc4 loc5 loc6 hd6 ch6 s6 d6 z z' hdy hFw hd hf;go_enter_defers func146,ntmps146
 go_wp2_with fail
 refine hburn.mono ?_;rintro e w' ⟨⟨s,rfl⟩,rfl⟩;go_wp2;refine leaves_cons (f:=186) (args:= #[.pointer (some ⟨w.heap.size,0,none⟩),.pointer (some ⟨w.heap.size+1,0,none⟩),.pointer (some ⟨w.heap.size+2,0,none⟩),.pointer (some ⟨w.heap.size+3,0,none⟩)]) (by simp) (by simp [go_sem]) ?_;refine (hcatch _ _ []).mono ?_;rintro e u' w'' ⟨rfl,rfl,w2,⟨hch,hry⟩,rfl⟩;have l:=HL.out.ch hch HS.out (fun k hk=>by rcases hk with hk|hk;exact HF.out k hk;omega);have q1:=fun u v=>set2 l u v
 have q2:=fun u v=>set3 l u v
 simp [Leaves,settle,results,Tryz.results146,go_sem,q1,q2];exact ⟨_,HD.out,HC.out,HS.out,w2,hry,hch,LocEq.two _ _ _ _⟩
theorem gU {w:World} {p:Nat} {F:Nat->Prop} {D:Dv} (h:Dev w p F D) (hd:D.dead=false) (hf:D.fuse≠0) (hoc:oc D=1) (hops:D.ops<=4611686018427387904) (m:Nat) (am:Array Value) (fy:Fn) (ay:Array Value):
  Calls prog 146 #[.pointer (some ⟨p,0,none⟩),.func (.func m) am #[],.func fy ay #[]] w fun e w'=>e=.returned (.tuple #[.bool false,.int .i64 7])/\Dev w' p F (opD D)/\Ch w.heap.size F w w':=by
 have hpw:=h.p;have hFw:=h.2.1;have hby:=h.1.bout.at 0;have hd4:=h.below (JV w p (.func fy ay #[]));have loc4:=GW w p (.func fy ay #[]);obtain ⟨c5,c6,z⟩:=hd4.c56;have z5:=z 5;have hd5:=hd4.set5;have loc5:=loc4.ch (Ch.set (w:=W4 w p (.func fy ay #[])) (F:=F) hpw.1 5 (.int .i64 ((D.ops:Int)+1))) (by rw [QN];omega) hFw;have hburn:=UE hd5 hf;have ch5:Ch w.heap.size F w ((W4 w p (.func fy ay #[])).setCell ⟨p,5,none⟩ (.int .i64 ((D.ops:Int)+1))):=(Ch.of F (JV w p _)).setCell (p:=⟨p,5,none⟩) (.inr hpw.1) _;have s5:((W4 w p (.func fy ay #[])).setCell ⟨p,5,none⟩ (.int .i64 ((D.ops:Int)+1))).heap.size=w.heap.size+4:=by rw [yP,QN]
 have HC5:Hid (Ch w.heap.size F w ((W4 w p (.func fy ay #[])).setCell ⟨p,5,none⟩ (.int .i64 ((D.ops:Int)+1)))):=ch5;have HS5:Hid (((W4 w p (.func fy ay #[])).setCell ⟨p,5,none⟩ (.int .i64 ((D.ops:Int)+1))).heap.size=w.heap.size+4):=s5;have HL5:Hid (Loc4 ((W4 w p (.func fy ay #[])).setCell ⟨p,5,none⟩ (.int .i64 ((D.ops:Int)+1))) w.heap.size p (.func fy ay #[]) false 0):=loc5;have HF:Hid (∀k,F k->k<w.heap.size):=hFw;rw [hd] at c6;have hmk:=mkf;obtain ⟨zo,hzo⟩:∃zo,D.out.getD 0 0=zo:=⟨_,rfl⟩;have ho3:zo%3=1:=by rw [<-hzo];exact hoc
 rw [hzo] at hby;obtain ⟨hy1,hy2⟩:=hby;have HZ:Hid (D.out.getD 0 0=zo):=hzo;unfold W4 at c5 c6 z5 hburn;clear h hd4 hd5 loc4 loc5 ch5 s5 z hFw hd hf hzo hoc;go_enter_defers func146,ntmps146
 go_wp2_with fail
 refine hburn.mono ?_;clear hburn;rintro e w6 ⟨rfl,hd6,hc6⟩;have l6:Loc4 w6 w.heap.size p (.func fy ay #[]) false 0:=HL5.out.ch hc6 (Nat.lt_of_lt_of_eq (Nat.lt_succ_self _) HS5.out.symm) HF.out;have s6:w.heap.size+4<=w6.heap.size:=jP (xS HS5.out.symm) hc6.size;have hc6':Ch w.heap.size F w w6:=HC5.out.trans (hc6.mono (jP (Nat.le_add_right _ 4) (xS HS5.out.symm)) (fun _ _ e=>e));have hout:=YG hd6;rw [show ({({D with ops:=D.ops+1}:Dv) with fuse:=lessF D.fuse}:Dv).out=D.out from rfl,HZ.out] at hout;have m0:=l6.l0;have HL6:Hid (Loc4 w6 w.heap.size p (.func fy ay #[]) false 0):=l6;have HC6:Hid (Ch w.heap.size F w w6):=hc6';clear hd6 hc6 l6 hc6' c5 c6 z5;go_wp2_with fail
 refine hout.mono ?_;clear hout;rintro e w7 ⟨rfl,hd7,hc7⟩;have l7:Loc4 w7 w.heap.size p (.func fy ay #[]) false 0:=HL6.out.ch hc7 (by omega) HF.out;have s7:w.heap.size+4<=w7.heap.size:=jP s6 hc7.size;have HC7:Hid (Ch w.heap.size F w w7):=HC6.out.trans (hc7.mono (by omega) (fun _ _ e=>e));have HD7:Hid (Dev w7 p F (opD D)):=hd7;have HL7:Hid (Loc4 w7 w.heap.size p (.func fy ay #[]) false 0):=l7;clear hd7 hc7 m0 HL6 HC6 HL5 HC5 HS5;obtain ⟨k0,k1,k2,k3,y2,y3⟩:=l7;have k3':∀v:Value,(w7.setCell ⟨w.heap.size+2,0,none⟩ v).cell? ⟨w.heap.size+3,0,none⟩=some (.int .i64 0):=fun v=>(World.cell?_setCell_other _ _ _ _ (by simp)).trans k3
 go_wp2;refine leaves_cons (f:=186) (args:= #[.pointer (some ⟨w.heap.size,0,none⟩),.pointer (some ⟨w.heap.size+1,0,none⟩),.pointer (some ⟨w.heap.size+2,0,none⟩),.pointer (some ⟨w.heap.size+3,0,none⟩)]) (by simp) (by simp [go_sem]) ?_;refine (kD _ _).mono ?_;rintro e u' w'' ⟨rfl,rfl,rfl⟩;have q1:=fun u v=>set2 HL7.out u v
 have q2:=fun u v=>set3 HL7.out u v
 simp [Leaves,settle,results,Tryz.results146,go_sem,q1,q2];exact ⟨HD7.out.loc (LocEq.two _ _ _ _) (fun k hk=>.inl (HF.out k hk)),HC7.out.trans ((LocEq.two _ _ _ _).ch F)⟩
theorem kE {w:World} {p:Nat} {F:Nat->Prop} {D:Dv} (h:Dev w p F D) (hd:D.dead=false) (hf:D.fuse≠0) (hoc:oc D=2) (hops:D.ops<=4611686018427387904) (m:Nat) (am:Array Value) (hm:∀(a:Array Value) (w:World),(callFunc m a).run prog w=.ok (.enter m a) w) (fy:Fn) (ay:Array Value) (q:Nat) (hq:q<w.heap.size) (Rd:World->World->Prop)
  (hdo:∀w1,Dev w1 p F (opD D)->Ch w.heap.size F w w1->w.heap.size+4<=w1.heap.size->Calls prog m am w1 fun e w2=>e=.returned (.tuple #[])/\Ch w1.heap.size (fun k=>F k\/k=q) w1 w2/\Rd w1 w2):
  Calls prog 146 #[.pointer (some ⟨p,0,none⟩),.func (.func m) am #[],.func fy ay #[]] w fun e w'=>e=.returned (.tuple #[.bool true,.int .i64 7])/\∃w1 w2,Dev w1 p F (opD D)/\Ch w.heap.size F w w1/\w.heap.size+4<=w1.heap.size/\Rd w1 w2/\Ch w1.heap.size (fun k=>F k\/k=q) w1 w2/\LocEq w.heap.size w2 w':=by
 have hpw:=h.p;have hFw:=h.2.1;have hby:=h.1.bout.at 0;have hd4:=h.below (JV w p (.func fy ay #[]));have loc4:=GW w p (.func fy ay #[]);obtain ⟨c5,c6,z⟩:=hd4.c56;have z5:=z 5;have hd5:=hd4.set5;have loc5:=loc4.ch (Ch.set (w:=W4 w p (.func fy ay #[])) (F:=F) hpw.1 5 (.int .i64 ((D.ops:Int)+1))) (by rw [QN];omega) hFw;have hburn:=UE hd5 hf;have ch5:Ch w.heap.size F w ((W4 w p (.func fy ay #[])).setCell ⟨p,5,none⟩ (.int .i64 ((D.ops:Int)+1))):=(Ch.of F (JV w p _)).setCell (p:=⟨p,5,none⟩) (.inr hpw.1) _;have s5:((W4 w p (.func fy ay #[])).setCell ⟨p,5,none⟩ (.int .i64 ((D.ops:Int)+1))).heap.size=w.heap.size+4:=by rw [yP,QN]
 have HC5:Hid (Ch w.heap.size F w ((W4 w p (.func fy ay #[])).setCell ⟨p,5,none⟩ (.int .i64 ((D.ops:Int)+1)))):=ch5;have HS5:Hid (((W4 w p (.func fy ay #[])).setCell ⟨p,5,none⟩ (.int .i64 ((D.ops:Int)+1))).heap.size=w.heap.size+4):=s5;have HL5:Hid (Loc4 ((W4 w p (.func fy ay #[])).setCell ⟨p,5,none⟩ (.int .i64 ((D.ops:Int)+1))) w.heap.size p (.func fy ay #[]) false 0):=loc5;have HF:Hid (∀k,F k->k<w.heap.size):=hFw;rw [hd] at c6;have hmk:=mkf;obtain ⟨zo,hzo⟩:∃zo,D.out.getD 0 0=zo:=⟨_,rfl⟩;have ho3:zo%3=2:=by rw [<-hzo];exact hoc
 rw [hzo] at hby;obtain ⟨hy1,hy2⟩:=hby;have HZ:Hid (D.out.getD 0 0=zo):=hzo;unfold W4 at c5 c6 z5 hburn;clear h hd4 hd5 loc4 loc5 ch5 s5 z hFw hd hf hzo hoc;go_enter_defers func146,ntmps146
 go_wp2_with fail
 refine hburn.mono ?_;clear hburn;rintro e w6 ⟨rfl,hd6,hc6⟩;have l6:Loc4 w6 w.heap.size p (.func fy ay #[]) false 0:=HL5.out.ch hc6 (Nat.lt_of_lt_of_eq (Nat.lt_succ_self _) HS5.out.symm) HF.out;have s6:w.heap.size+4<=w6.heap.size:=jP (xS HS5.out.symm) hc6.size;have hc6':Ch w.heap.size F w w6:=HC5.out.trans (hc6.mono (jP (Nat.le_add_right _ 4) (xS HS5.out.symm)) (fun _ _ e=>e));have hout:=YG hd6;rw [show ({({D with ops:=D.ops+1}:Dv) with fuse:=lessF D.fuse}:Dv).out=D.out from rfl,HZ.out] at hout;have m0:=l6.l0;have HL6:Hid (Loc4 w6 w.heap.size p (.func fy ay #[]) false 0):=l6;have HC6:Hid (Ch w.heap.size F w w6):=hc6';clear hd6 hc6 l6 hc6' c5 c6 z5;go_wp2_with fail
 refine hout.mono ?_;clear hout;rintro e w7 ⟨rfl,hd7,hc7⟩;have l7:Loc4 w7 w.heap.size p (.func fy ay #[]) false 0:=HL6.out.ch hc7 (by omega) HF.out;have s7:w.heap.size+4<=w7.heap.size:=jP s6 hc7.size;have HC7:Hid (Ch w.heap.size F w w7):=HC6.out.trans (hc7.mono (by omega) (fun _ _ e=>e));have HD7:Hid (Dev w7 p F (opD D)):=hd7;have HL7:Hid (Loc4 w7 w.heap.size p (.func fy ay #[]) false 0):=l7;clear hd7 hc7 m0 HL6 HC6 HL5 HC5 HS5;have hcall:=hdo w7 HD7.out HC7.out s7;clear hdo;go_wp2_with fail
 refine hcall.mono ?_;clear hcall;rintro e w8 ⟨rfl,hc8,hr8⟩;have l8:Loc4 w8 w.heap.size p (.func fy ay #[]) false 0:=HL7.out.ch hc8 (by omega) (fun k hk=>by rcases hk with hk|hk;exact HF.out k hk;omega);have HR:Hid (Rd w7 w8):=hr8;have HC8:Hid (Ch w7.heap.size (fun k=>F k\/k=q) w7 w8):=hc8;have HL8:Hid (Loc4 w8 w.heap.size p (.func fy ay #[]) false 0):=l8;clear hr8 hc8;obtain ⟨k0,k1,k2,k3,y2,y3⟩:=l8;have k3':∀v:Value,(w8.setCell ⟨w.heap.size+2,0,none⟩ v).cell? ⟨w.heap.size+3,0,none⟩=some (.int .i64 0):=fun v=>(World.cell?_setCell_other _ _ _ _ (by simp)).trans k3
 go_wp2;refine leaves_cons (f:=186) (args:= #[.pointer (some ⟨w.heap.size,0,none⟩),.pointer (some ⟨w.heap.size+1,0,none⟩),.pointer (some ⟨w.heap.size+2,0,none⟩),.pointer (some ⟨w.heap.size+3,0,none⟩)]) (by simp) (by simp [go_sem]) ?_;refine (kD _ _).mono ?_;rintro e u' w'' ⟨rfl,rfl,rfl⟩;have q1:=fun u v=>set2 HL8.out u v
 have q2:=fun u v=>set3 HL8.out u v
 simp [Leaves,settle,results,Tryz.results146,go_sem,q1,q2];exact ⟨w7,HD7.out,HC7.out,s7,w8,HR.out,HC8.out,LocEq.two _ _ _ _⟩
theorem kF {w:World} {p:Nat} {F:Nat->Prop} {D:Dv} (h:Dev w p F D) (hd:D.dead=false) (hf:D.fuse≠0) (hoc:oc D=0) (hops:D.ops<=4611686018427387904) (m:Nat) (am:Array Value) (hm:∀(a:Array Value) (w:World),(callFunc m a).run prog w=.ok (.enter m a) w) (fy:Fn) (ay:Array Value) (q:Nat) (hq:q<w.heap.size) (Rd:World->World->Prop)
  (hdo:∀w1,Dev w1 p F (opD D)->Ch w.heap.size F w w1->w.heap.size+4<=w1.heap.size->Calls prog m am w1 fun e w2=>e=.returned (.tuple #[])/\Ch w1.heap.size (fun k=>F k\/k=q) w1 w2/\Rd w1 w2):
  Calls prog 146 #[.pointer (some ⟨p,0,none⟩),.func (.func m) am #[],.func fy ay #[]] w fun e w'=>e=.returned (.tuple #[.bool true,.int .i64 0])/\∃w1 w2,Dev w1 p F (opD D)/\Ch w.heap.size F w w1/\w.heap.size+4<=w1.heap.size/\Rd w1 w2/\Ch w1.heap.size (fun k=>F k\/k=q) w1 w2/\LocEq w.heap.size w2 w':=by
 have hpw:=h.p;have hFw:=h.2.1;have hby:=h.1.bout.at 0;have hd4:=h.below (JV w p (.func fy ay #[]));have loc4:=GW w p (.func fy ay #[]);obtain ⟨c5,c6,z⟩:=hd4.c56;have z5:=z 5;have hd5:=hd4.set5;have loc5:=loc4.ch (Ch.set (w:=W4 w p (.func fy ay #[])) (F:=F) hpw.1 5 (.int .i64 ((D.ops:Int)+1))) (by rw [QN];omega) hFw;have hburn:=UE hd5 hf;have ch5:Ch w.heap.size F w ((W4 w p (.func fy ay #[])).setCell ⟨p,5,none⟩ (.int .i64 ((D.ops:Int)+1))):=(Ch.of F (JV w p _)).setCell (p:=⟨p,5,none⟩) (.inr hpw.1) _;have s5:((W4 w p (.func fy ay #[])).setCell ⟨p,5,none⟩ (.int .i64 ((D.ops:Int)+1))).heap.size=w.heap.size+4:=by rw [yP,QN]
 have HC5:Hid (Ch w.heap.size F w ((W4 w p (.func fy ay #[])).setCell ⟨p,5,none⟩ (.int .i64 ((D.ops:Int)+1)))):=ch5;have HS5:Hid (((W4 w p (.func fy ay #[])).setCell ⟨p,5,none⟩ (.int .i64 ((D.ops:Int)+1))).heap.size=w.heap.size+4):=s5;have HL5:Hid (Loc4 ((W4 w p (.func fy ay #[])).setCell ⟨p,5,none⟩ (.int .i64 ((D.ops:Int)+1))) w.heap.size p (.func fy ay #[]) false 0):=loc5;have HF:Hid (∀k,F k->k<w.heap.size):=hFw;rw [hd] at c6;have hmk:=mkf;obtain ⟨zo,hzo⟩:∃zo,D.out.getD 0 0=zo:=⟨_,rfl⟩;have ho3:zo%3=0:=by rw [<-hzo];exact hoc
 rw [hzo] at hby;obtain ⟨hy1,hy2⟩:=hby;have HZ:Hid (D.out.getD 0 0=zo):=hzo;unfold W4 at c5 c6 z5 hburn;clear h hd4 hd5 loc4 loc5 ch5 s5 z hFw hd hf hzo hoc;go_enter_defers func146,ntmps146
 go_wp2_with fail
 refine hburn.mono ?_;clear hburn;rintro e w6 ⟨rfl,hd6,hc6⟩;have l6:Loc4 w6 w.heap.size p (.func fy ay #[]) false 0:=HL5.out.ch hc6 (Nat.lt_of_lt_of_eq (Nat.lt_succ_self _) HS5.out.symm) HF.out;have s6:w.heap.size+4<=w6.heap.size:=jP (xS HS5.out.symm) hc6.size;have hc6':Ch w.heap.size F w w6:=HC5.out.trans (hc6.mono (jP (Nat.le_add_right _ 4) (xS HS5.out.symm)) (fun _ _ e=>e));have hout:=YG hd6;rw [show ({({D with ops:=D.ops+1}:Dv) with fuse:=lessF D.fuse}:Dv).out=D.out from rfl,HZ.out] at hout;have m0:=l6.l0;have HL6:Hid (Loc4 w6 w.heap.size p (.func fy ay #[]) false 0):=l6;have HC6:Hid (Ch w.heap.size F w w6):=hc6';clear hd6 hc6 l6 hc6' c5 c6 z5;go_wp2_with fail
 refine hout.mono ?_;clear hout;rintro e w7 ⟨rfl,hd7,hc7⟩;have l7:Loc4 w7 w.heap.size p (.func fy ay #[]) false 0:=HL6.out.ch hc7 (by omega) HF.out;have s7:w.heap.size+4<=w7.heap.size:=jP s6 hc7.size;have HC7:Hid (Ch w.heap.size F w w7):=HC6.out.trans (hc7.mono (by omega) (fun _ _ e=>e));have HD7:Hid (Dev w7 p F (opD D)):=hd7;have HL7:Hid (Loc4 w7 w.heap.size p (.func fy ay #[]) false 0):=l7;clear hd7 hc7 m0 HL6 HC6 HL5 HC5 HS5;have hcall:=hdo w7 HD7.out HC7.out s7;clear hdo;go_wp2_with fail
 refine hcall.mono ?_;clear hcall;rintro e w8 ⟨rfl,hc8,hr8⟩;have l8:Loc4 w8 w.heap.size p (.func fy ay #[]) false 0:=HL7.out.ch hc8 (by omega) (fun k hk=>by rcases hk with hk|hk;exact HF.out k hk;omega);have HR:Hid (Rd w7 w8):=hr8;have HC8:Hid (Ch w7.heap.size (fun k=>F k\/k=q) w7 w8):=hc8;have HL8:Hid (Loc4 w8 w.heap.size p (.func fy ay #[]) false 0):=l8;clear hr8 hc8;obtain ⟨k0,k1,k2,k3,y2,y3⟩:=l8;have k3':∀v:Value,(w8.setCell ⟨w.heap.size+2,0,none⟩ v).cell? ⟨w.heap.size+3,0,none⟩=some (.int .i64 0):=fun v=>(World.cell?_setCell_other _ _ _ _ (by simp)).trans k3
 go_wp2;refine leaves_cons (f:=186) (args:= #[.pointer (some ⟨w.heap.size,0,none⟩),.pointer (some ⟨w.heap.size+1,0,none⟩),.pointer (some ⟨w.heap.size+2,0,none⟩),.pointer (some ⟨w.heap.size+3,0,none⟩)]) (by simp) (by simp [go_sem]) ?_;refine (kD _ _).mono ?_;rintro e u' w'' ⟨rfl,rfl,rfl⟩;have q1:=fun u v=>set2 HL8.out u v
 have q2:=fun u v=>set3 HL8.out u v
 simp [Leaves,settle,results,Tryz.results146,go_sem,q1,q2];exact ⟨w7,HD7.out,HC7.out,s7,w8,HR.out,HC8.out,LocEq.two _ _ _ _⟩
theorem kI {D:Dv} (h:D.ok):oc D=0\/oc D=1\/oc D=2:=by
 have:=h.bout.at 0;unfold oc;omega
theorem opS_any {w:World} {p:Nat} {F:Nat->Prop} {D:Dv} (h:Dev w p F D) (hops:D.ops<=4611686018427387904):
  Calls prog 146 #[.pointer (some ⟨p,0,none⟩),.func (.func 148) #[.pointer (some ⟨p,0,none⟩)] #[],.func (.func 149) #[] #[]] w fun e w'=>(∃b,e=.returned (.tuple #[.bool b,.int .i64 (saysD D)]))/\Dev w' p F (syncD D)/\Ch w.heap.size F w w':=by
 have hF:=h.2.1;have hp:=h.p;cases hd:D.dead with
 |true=>
  refine (gV h hd _ _ _ _).mono ?_;rintro e w' ⟨rfl,hb⟩;refine ⟨⟨false,by simp [saysD,hd]⟩,?_,Ch.of F hb⟩;rw [show syncD D=D by simp [syncD,hd]];exact h.below hb
 |false=>
  by_cases hf:D.fuse=0
  ·refine (op_die h hd hf hops _ _ (by intro _ _;kernel_rfl) _ _ p hp.2 (fun a b=>a=b) (fun w1 _ _ _=>(UL w1).mono (fun e w2 h=>⟨h.1,by rw [<-h.2];exact Ch.refl _ _ _,h.2⟩))).mono ?_;rintro e w' ⟨rfl,w1,w2,hd1,hc1,_,rfl,_,hl⟩;refine ⟨⟨false,by simp [saysD,hd,hf]⟩,?_,hc1.trans (hl.ch F)⟩;rw [show syncD D=dieD D by simp [syncD,hd,hf]];exact hd1.loc hl (fun k hk=>.inl (hF k hk))
  ·have hdo:∀w1,Dev w1 p F (opD D)->Ch w.heap.size F w w1->w.heap.size+4<=w1.heap.size->Calls prog 148 #[.pointer (some ⟨p,0,none⟩)] w1 fun e w2=>e=.returned (.tuple #[])/\Ch w1.heap.size (fun k=>F k\/k=p) w1 w2/\Dev w2 p F (setD (opD D)):=
    fun w1 h1 _ _=>(settle_any h1).mono (fun e w2 h=>⟨h.1,h.2.2.mono (jB _) (fun _ _ e=>.inl e),h.2.1⟩)
   have fin:∀w1 w2 w':World,Ch w.heap.size F w w1->w.heap.size+4<=w1.heap.size->Dev w2 p F (setD (opD D))->Ch w1.heap.size (fun k=>F k\/k=p) w1 w2->LocEq w.heap.size w2 w'->Dev w' p F (setD (opD D))/\Ch w.heap.size F w w':=fun w1 w2 w' hc1 hs hd2 hc2 hl=>
    ⟨hd2.loc hl (fun k hk=>.inl (hF k hk)),(hc1.trans (hc2.mono (by omega) (fun k _ e=>by rcases e with e|e;exact e;rw [e];exact hp.1))).trans (hl.ch F)⟩
   rcases kI h.1 with ho|ho|ho
   ·refine (kF h hd hf ho hops _ _ (by intro _ _;kernel_rfl) _ _ p hp.2 (fun _ w2=>Dev w2 p F (setD (opD D))) hdo).mono ?_;rintro e w' ⟨rfl,w1,w2,_,hc1,hs,hd2,hc2,hl⟩;rw [show syncD D=setD (opD D) by simp [syncD,hd,hf,ho]];exact ⟨⟨true,by simp [saysD,hd,hf,ho]⟩,fin w1 w2 w' hc1 hs hd2 hc2 hl⟩
   ·refine (gU h hd hf ho hops _ _ _ _).mono ?_;rintro e w' ⟨rfl,hd1,hc1⟩;rw [show syncD D=opD D by simp [syncD,hd,hf,ho]];exact ⟨⟨false,by simp [saysD,hd,hf,ho]⟩,hd1,hc1⟩
   ·refine (kE h hd hf ho hops _ _ (by intro _ _;kernel_rfl) _ _ p hp.2 (fun _ w2=>Dev w2 p F (setD (opD D))) hdo).mono ?_;rintro e w' ⟨rfl,w1,w2,_,hc1,hs,hd2,hc2,hl⟩;rw [show syncD D=setD (opD D) by simp [syncD,hd,hf,ho]];exact ⟨⟨true,by simp [saysD,hd,hf,ho]⟩,fin w1 w2 w' hc1 hs hd2 hc2 hl⟩
theorem sync_any {w:World} {p:Nat} {F:Nat->Prop} {D:Dv} (h:Dev w p F D) (hops:D.ops<=4611686018427387904):
  Calls prog 97 #[.pointer (some ⟨p,0,none⟩)] w fun e w'=>e=.returned (.int .i64 (saysD D))/\Dev w' p F (syncD D)/\Ch w.heap.size F w w':=by
 have hm:=made_any h;have ho:=opS_any h hops;have hmk:=mkf;clear h;go_enter func97,ntmps97
 go_wp2_with (first|(go_at_call 69;refine hm.mono ?_;rintro e w' ⟨rfl,rfl⟩)|(go_at_call 146;refine ho.mono ?_;rintro e w' ⟨⟨b,rfl⟩,hd,hc⟩))
 go_ret
 exact ⟨rfl,hd,hc⟩
theorem opR_any {w:World} {p:Nat} {F:Nat->Prop} {D:Dv} (h:Dev w p F D) (hops:D.ops<=4611686018427387904) (q pg:Nat) (hpg:pg<D.n) (hq:¬F q) (hq0:w.cell? ⟨q,0,none⟩=some (.pointer (some ⟨p,0,none⟩))) (hq1:w.cell? ⟨q,1,none⟩=some (.int .i64 pg)) (v:Value) (hq2:w.cell? ⟨q,2,none⟩=some v) (hz2:w.frozen? ⟨q,2,none⟩=false):
  Calls prog 146 #[.pointer (some ⟨p,0,none⟩),.func (.func 150) #[.pointer (some ⟨q,0,none⟩)] #[],.func (.func 149) #[] #[]] w fun e w'=>(∃i,e=.returned (.tuple #[.bool (tellsD D),.int .i64 i]))/\Dev w' p F (readD D)/\Ch w.heap.size (fun k=>F k\/k=q) w w'/\
   (tellsD D=true->∃g c,w'.cell? ⟨q,2,none⟩=some (.slice (some ⟨g,0,none⟩) 256 c)/\Own w.heap.size w' (.slice (some ⟨g,0,none⟩) 256 c) (pageOf D.now pg)):=by
 have hF:=h.2.1;have hp:=h.p;have hbq:q<w.heap.size:=block_lt_of_cell hq0;cases hd:D.dead with
 |true=>
  refine (gV h hd _ _ _ _).mono ?_;rintro e w' ⟨rfl,hb⟩;refine ⟨⟨7,by simp [tellsD,hd]⟩,?_,Ch.of _ hb,by simp [tellsD,hd]⟩;rw [show readD D=D by simp [readD,hd]];exact h.below hb
 |false=>
  by_cases hf:D.fuse=0
  ·refine (op_die h hd hf hops _ _ (by intro _ _;kernel_rfl) _ _ q hbq (fun a b=>a=b) (fun w1 _ _ _=>(UL w1).mono (fun e w2 h=>⟨h.1,by rw [<-h.2];exact Ch.refl _ _ _,h.2⟩))).mono ?_;rintro e w' ⟨rfl,w1,w2,hd1,hc1,_,rfl,_,hl⟩;refine ⟨⟨7,by simp [tellsD,hd,hf]⟩,?_,(hc1.trans (hl.ch F)).mono (jB _) (fun _ _ e=>.inl e),by simp [tellsD,hd,hf]⟩;rw [show readD D=dieD D by simp [readD,hd,hf]];exact hd1.loc hl (fun k hk=>.inl (hF k hk))
  ·have hdo:∀w1,Dev w1 p F (opD D)->Ch w.heap.size F w w1->w.heap.size+4<=w1.heap.size->Calls prog 150 #[.pointer (some ⟨q,0,none⟩)] w1 fun e w2=>e=.returned (.tuple #[])/\Ch w1.heap.size (fun k=>F k\/k=q) w1 w2/\((∃g c,w2.cell? ⟨q,2,none⟩=some (.slice (some ⟨g,0,none⟩) 256 c)/\Own w1.heap.size w2 (.slice (some ⟨g,0,none⟩) 256 c) (pageOf D.now pg))/\Ch w1.heap.size (fun k=>k=q) w1 w2):=
    fun w1 h1 hc1 _=>(rdo_any h1 q pg v ((hc1.cell (p:=⟨q,0,none⟩) hbq hq).trans hq0) ((hc1.cell (p:=⟨q,1,none⟩) hbq hq).trans hq1) ((hc1.cell (p:=⟨q,2,none⟩) hbq hq).trans hq2) ((hc1.frozen (p:=⟨q,2,none⟩) hbq hq).trans hz2) hpg).mono (fun e w2 h=>⟨h.1,h.2.2.mono (jB _) (fun _ _ e=>.inr e),h.2.1,h.2.2⟩)
   have fin:∀w1 w2 w':World,Dev w1 p F (opD D)->Ch w.heap.size F w w1->w.heap.size+4<=w1.heap.size->((∃g c,w2.cell? ⟨q,2,none⟩=some (.slice (some ⟨g,0,none⟩) 256 c)/\Own w1.heap.size w2 (.slice (some ⟨g,0,none⟩) 256 c) (pageOf D.now pg))/\Ch w1.heap.size (fun k=>k=q) w1 w2)->LocEq w.heap.size w2 w'->
     Dev w' p F (opD D)/\Ch w.heap.size (fun k=>F k\/k=q) w w'/\(∃g c,w'.cell? ⟨q,2,none⟩=some (.slice (some ⟨g,0,none⟩) 256 c)/\Own w.heap.size w' (.slice (some ⟨g,0,none⟩) 256 c) (pageOf D.now pg)):=fun w1 w2 w' hd1 hc1 hs hr hl=>by
    obtain ⟨⟨g,c,hg,ho⟩,hc2⟩:=hr;have lg:=ho.lt2;refine ⟨(hd1.ch hc2 (fun k hk e=>hq (e▸hk))).loc hl (fun k hk=>.inl (hF k hk)),?_,g,c,?_,?_⟩
    ·exact ((hc1.mono (jB _) (fun _ _ e=>.inl e)).trans (hc2.mono (by omega) (fun _ _ e=>.inr e))).trans (hl.ch _)
    ·rw [World.cell?_of_block (w:=w2) (a:=⟨q,2,none⟩) (hl.2.2.2.2 q (.inl hbq))];exact hg
    ·exact yX (ho.kept (hl.2.2.2.2 g (.inr (by omega)))) (fun k hk=>by simp [Value.ownBlock] at hk;omega)
   rcases kI h.1 with ho|ho|ho
   ·refine (kF h hd hf ho hops _ _ (by intro _ _;kernel_rfl) _ _ q hbq _ hdo).mono ?_;rintro e w' ⟨rfl,w1,w2,hd1,hc1,hs,hr,_,hl⟩;obtain ⟨f1,f2,f3⟩:=fin w1 w2 w' hd1 hc1 hs hr hl;rw [show readD D=opD D by simp [readD,hd,hf],show tellsD D=true by simp [tellsD,hd,hf,ho]];exact ⟨⟨_,rfl⟩,f1,f2,fun _=>f3⟩
   ·refine (gU h hd hf ho hops _ _ _ _).mono ?_;rintro e w' ⟨rfl,hd1,hc1⟩;rw [show readD D=opD D by simp [readD,hd,hf],show tellsD D=false by simp [tellsD,hd,hf,ho]];exact ⟨⟨_,rfl⟩,hd1,hc1.mono (jB _) (fun _ _ e=>.inl e),fun h=>by cases h⟩
   ·refine (kE h hd hf ho hops _ _ (by intro _ _;kernel_rfl) _ _ q hbq _ hdo).mono ?_;rintro e w' ⟨rfl,w1,w2,hd1,hc1,hs,hr,_,hl⟩;obtain ⟨f1,f2,f3⟩:=fin w1 w2 w' hd1 hc1 hs hr hl;rw [show readD D=opD D by simp [readD,hd,hf],show tellsD D=true by simp [tellsD,hd,hf,ho]];exact ⟨⟨_,rfl⟩,f1,f2,fun _=>f3⟩
def ReadEnd (D:Dv) (pg:Nat) (w:World) (e:Ending) (w':World):Prop:=
 if tellsD D=true then ∃g c,e=.returned (.tuple #[.slice (some ⟨g,0,none⟩) 256 c,.int .i64 0])/\Own w.heap.size w' (.slice (some ⟨g,0,none⟩) 256 c) (pageOf D.now pg) else e=.returned (.tuple #[.slice none 0 0,.int .i64 7])
theorem VV {w:World} {p:Nat} {F:Nat->Prop} {D:Dv} (h:Dev w p F D) (hops:D.ops<=4611686018427387904) (pg:Nat) (hpg:pg<D.n):
  Calls prog 98 #[.pointer (some ⟨p,0,none⟩),.int .i64 pg] w fun e w'=>ReadEnd D pg w e w'/\Dev w' p F (readD D)/\Ch w.heap.size F w w':=by
 have hm:=made_any h;have hh:=has_any h pg;rw [show hasB D pg=true by simp [hasB];omega] at hh;have hF:=h.2.1;have hb0:Below w.heap.size w (w.alloc (.cells #[.pointer (some ⟨p,0,none⟩),.int .i64 pg,.slice none 0 0] 177)):=(Below.refl _ w).alloc (jB _) _;have h0:=h.below hb0;have ho:=opR_any h0 hops w.heap.size pg hpg (fun e=>by have:=hF _ e;omega) (by simp [go_sem]) (by simp [go_sem]) (.slice none 0 0) (by simp [go_sem]) (by simp [go_sem]);have hmk:=mkf;have HB0:Hid _:=hb0;have HF:Hid (∀k,F k->k<w.heap.size):=hF;clear h h0 hF hb0;cases ht:tellsD D with
 |true=>
  rw [ht] at ho;go_enter func98,ntmps98
  go_wp2_with (first|(go_at_call 69;refine hm.mono ?_;rintro e w' ⟨rfl,rfl⟩)|(go_at_call 145;refine hh.mono ?_;rintro e w' ⟨rfl,rfl⟩))
  refine ho.mono ?_;rintro e w2 ⟨⟨i,rfl⟩,hd,hc,hg⟩;obtain ⟨g,c,hg1,hg2⟩:=hg (by trivial);have HD:Hid (Dev w2 p F (readD D)):=hd;have HC:Hid (Ch w.heap.size F w w2):=(Ch.of F HB0.out).trans (hc.mono (by simp) (fun k hk e=>by rcases e with e|e;exact e;omega));have HG:Hid (Own w.heap.size w2 (.slice (some ⟨g,0,none⟩) 256 c) (pageOf D.now pg)):=yX hg2 (fun k hk=>by have:=World.ownsRow.lt hg2 k hk;simp at this;omega);clear hd hc hg hg2 hm hh ho;go_wp2;go_ret2
  exact ⟨by unfold ReadEnd;rw [if_pos ht];exact ⟨g,c,rfl,HG.out⟩,HD.out,HC.out⟩
 |false=>
  rw [ht] at ho;go_enter func98,ntmps98
  go_wp2_with (first|(go_at_call 69;refine hm.mono ?_;rintro e w' ⟨rfl,rfl⟩)|(go_at_call 145;refine hh.mono ?_;rintro e w' ⟨rfl,rfl⟩))
  refine ho.mono ?_;rintro e w2 ⟨⟨i,rfl⟩,hd,hc,_⟩;have HD:Hid (Dev w2 p F (readD D)):=hd;have HC:Hid (Ch w.heap.size F w w2):=(Ch.of F HB0.out).trans (hc.mono (by simp) (fun k hk e=>by rcases e with e|e;exact e;omega));clear hd hc hm hh ho;go_wp2;go_ret2
  exact ⟨by unfold ReadEnd;rw [if_neg (by rw [ht];simp)];rfl,HD.out,HC.out⟩
end Go.Proofs.YtaijfhadecennaaGreat.Oct
