/- Part of a proof. -/
import Derived.Test.YtaijfhadecennaaGreatStg
import Derived.Test.YtaijfhadecennaaGreatLf
import Derived.Test.YtaijfhadecennaaGreatSi
import Derived.Test.YtaijfhadecennaaGreatUf
import Derived.Test.YtaijfhadecennaaGreatVd
import Derived.Test.YtaijfhadecennaaGreatGj
import Derived.Test.YtaijfhadecennaaGreatKb
import Derived.Maps.Own
import Derived.Maps.OwnOps
import Derived.Maps.OwnSet
import Derived.Test.YtaijfhadecennaaGreatKd
import Derived.Test.YtaijfhadecennaaGreatRi
import Derived.Deep.Slices
import Derived.ChangeSame
import Derived.ProofKit
import Derived.Test.YtaijfhadecennaaGreatQg
import Derived.Test.YtaijfhadecennaaGreatQd
open Go.Proofs.Tryz
namespace Go.Proofs.YtaijfhadecennaaGreat.Oct.Sx
open Go.RowKit
structure St where
 D:Dv
 N:Nat
 L:List Fr
 P:List Int
 S:Sp
 pl:Int
 C:List Int
 g:Int
def stC (d p sp:Nat) (S:Sp) (pl:Int) (vC:Value) (g:Int):Array Value:= #[.pointer (some ⟨d,0,none⟩),.pointer (some ⟨p,0,none⟩),.pointer (some ⟨sp,0,none⟩),.int .i64 S.g,.int .i64 S.p,.int .i64 S.r,.int .i64 S.h,.int .i64 S.b,.int .i64 S.l,.int .i64 S.s,.int .i64 S.f,.int .i64 pl,vC,.int .i64 g,.pointer none,.map none]
structure StoC (w:World) (s d p sp:Nat) (aC:Option Addr) (cC:Nat) (lab:Nat->Nat) (X:St):Prop where
 cells:w.heap[s]?=some (.cells (stC d p sp X.S X.pl (.slice aC X.C.length cC) X.g) 81 (0,0))
 l0:lab s=0
 pool:∃F,Pool w p d F X.D X.N X.L/\∀k,F k->lab k=1
 space:∃F,Sps.Spa w sp F X.P/\∀k,F k->lab k=2
 ch:OwnI 0 w (.slice aC X.C.length cC) X.C
 lc:∀k,obl aC k->lab k=3
def relab (lab:Nat->Nat) (B i:Nat) (k:Nat):Nat:=if k<B then lab k else i
theorem zB {lab:Nat->Nat} {B i k:Nat} (h:k<B):relab lab B i k=lab k:=if_pos h
theorem JH {lab:Nat->Nat} {B i k:Nat} (h:B<=k):relab lab B i k=i:=if_neg (by omega)
def Trn (lab:Nat->Nat) (i:Nat) (w w':World):Prop:=Ch w.heap.size (fun k=>lab k=i) w w'
theorem Trn.of {lab:Nat->Nat} {i:Nat} {w w':World} {F F':Nat->Prop} (h:Step F F' w w') (hF:∀k,F k->lab k=i):Trn lab i w w':=h.1.mono (jB _) (fun k _ hk=>hF k hk)
theorem Trn.ch {lab:Nat->Nat} {i:Nat} {w w':World} {F:Nat->Prop} (h:Ch w.heap.size F w w') (hF:∀k,F k->lab k=i):Trn lab i w w':=h.mono (jB _) (fun k _ hk=>hF k hk)
theorem Trn.below {lab:Nat->Nat} {i:Nat} {w w':World} (h:Below w.heap.size w w'):Trn lab i w w':=Ch.of _ h
theorem Trn.block {lab:Nat->Nat} {i:Nat} {w w':World} (h:Trn lab i w w') {k:Nat} (hk:k<w.heap.size) (hl:lab k≠i):w'.heap[k]?=w.heap[k]?:=Ch.block h k hk hl
theorem Trn.size {lab:Nat->Nat} {i:Nat} {w w':World} (h:Trn lab i w w'):w.heap.size<=w'.heap.size:=Ch.size h
theorem Trn.foot {lab:Nat->Nat} {i:Nat} {w w':World} {F F':Nat->Prop} (h:Step F F' w w') (hF:∀k,F k->lab k=i) (hl:∀k,F k->k<w.heap.size):∀k,F' k->relab lab w.heap.size i k=i:=fun k hk=>by
 rcases h.2 k hk with e|e
 ·rw [zB (hl k e)];exact hF k e
 ·exact JH e
theorem JA {w:World} {s:Nat} {F:Nat->Prop} {S:List Int} (h:Sps.Spa w s F S):∀k,F k->k<w.heap.size:=by
 obtain ⟨a,ca,b,cb,h⟩:=h;exact h.lt
theorem zH {w w':World} {s:Nat} {F:Nat->Prop} {S:List Int} (h:Sps.Spa w s F S) (hs:w.heap.size<=w'.heap.size) (k:∀g,F g->w'.heap[g]?=w.heap[g]?):Sps.Spa w' s F S:=by
 obtain ⟨a,ca,b,cb,h⟩:=h;exact ⟨a,ca,b,cb,h.keep hs k⟩
theorem FZ {w:World} {s:Nat} {F:Nat->Prop} {S:List Int} (h:Sps.Spa w s F S):SpOk S:=by
 obtain ⟨a,ca,b,cb,h⟩:=h;exact h.ok
section
variable {w w':World} {s d p sp cC:Nat} {aC:Option Addr} {lab:Nat->Nat} {X:St}
theorem StoC.cell (h:StoC w s d p sp aC cC lab X) (i:Nat):w.cell? ⟨s,i,none⟩=(stC d p sp X.S X.pl (.slice aC X.C.length cC) X.g)[i]?:=cell_of_row w _ _ _ _ (0,0) h.cells
theorem StoC.frz (h:StoC w s d p sp aC cC lab X) (i:Nat):w.frozen? ⟨s,i,none⟩=false:=by unfold World.frozen?;rw [h.cells];simp
theorem StoC.at (h:StoC w s d p sp aC cC lab X):w.cell? ⟨s,0,none⟩=some (.pointer (some ⟨d,0,none⟩))/\w.cell? ⟨s,1,none⟩=some (.pointer (some ⟨p,0,none⟩))/\w.cell? ⟨s,2,none⟩=some (.pointer (some ⟨sp,0,none⟩))/\w.cell? ⟨s,11,none⟩=some (.int .i64 X.pl)/\w.cell? ⟨s,12,none⟩=some (.slice aC X.C.length cC)/\w.cell? ⟨s,13,none⟩=some (.int .i64 X.g)/\w.cell? ⟨s,14,none⟩=some (.pointer none)/\w.cell? ⟨s,15,none⟩=some (.map none):=by
 refine ⟨?_,?_,?_,?_,?_,?_,?_,?_⟩
 all_goals (rw [h.cell];rfl)
theorem StoC.lt (h:StoC w s d p sp aC cC lab X):s<w.heap.size:=yR h.cells
theorem StoC.pool' (h:StoC w s d p sp aC cC lab X) {F F':Nat->Prop} {D':Dv} {L':List Fr} (hF:∀k,F k->lab k=1) (hl:∀k,F k->k<w.heap.size) (hp:Pool w' p d F' D' X.N L') (st:Step F F' w w'):StoC w' s d p sp aC cC (relab lab w.heap.size 1) {X with D:=D',L:=L'}:=by
 obtain ⟨F2,q1,q2⟩:=h.space;have l2:=JA q1;have t:=Trn.of st hF;have kp:∀k,k<w.heap.size->lab k≠1->w'.heap[k]?=w.heap[k]?:=fun k hk hl=>t.block hk hl
 have hlt:=h.lt;have hcl:∀k,obl aC k->k<w.heap.size:=fun k hk=>(World.ownsRow.lt h.ch k (zI hk)).2
 exact ⟨(kp s hlt (by rw [h.l0];decide)).trans h.cells,by rw [zB hlt];exact h.l0,⟨F',hp,Trn.foot st hF hl⟩,
  ⟨F2,zH q1 t.size (fun k hk=>kp k (l2 k hk) (by rw [q2 k hk];decide)),fun k hk=>by rw [zB (l2 k hk)];exact q2 k hk⟩,
  yQ h.ch (fun k hk=>kp k (hcl k (zC hk)) (by rw [h.lc k (zC hk)];decide)),fun k hk=>by rw [zB (hcl k hk)];exact h.lc k hk⟩
theorem StoC.own' (h:StoC w s d p sp aC cC lab X) (hc:Ch w.heap.size (fun k=>k=s) w w') {S:Sp} {pl g:Int} (hb:w'.heap[s]?=some (.cells (stC d p sp S pl (.slice aC X.C.length cC) g) 81 (0,0))):StoC w' s d p sp aC cC (relab lab w.heap.size 4) {X with S:=S,pl:=pl,g:=g}:=by
 obtain ⟨F1,p1,p2⟩:=h.pool;obtain ⟨F2,q1,q2⟩:=h.space;have l1:=p1.lt;have l2:=JA q1;have kp:∀k,k<w.heap.size->lab k≠0->w'.heap[k]?=w.heap[k]?:=fun k hk hl=>hc.block k hk (fun e=>hl (by rw [e];exact h.l0))
 have hlt:=h.lt;have hcl:∀k,obl aC k->k<w.heap.size:=fun k hk=>(World.ownsRow.lt h.ch k (zI hk)).2
 exact ⟨hb,by rw [zB hlt];exact h.l0,⟨F1,p1.keep hc.size (fun k hk=>kp k (l1 k hk) (by rw [p2 k hk];decide)),fun k hk=>by rw [zB (l1 k hk)];exact p2 k hk⟩,
  ⟨F2,zH q1 hc.size (fun k hk=>kp k (l2 k hk) (by rw [q2 k hk];decide)),fun k hk=>by rw [zB (l2 k hk)];exact q2 k hk⟩,
  yQ h.ch (fun k hk=>kp k (hcl k (zC hk)) (by rw [h.lc k (zC hk)];decide)),fun k hk=>by rw [zB (hcl k hk)];exact h.lc k hk⟩
end
def Sto (w:World) (s d:Nat) (F:Nat->Prop) (X:St):Prop:=∃p sp aC cC lab,StoC w s d p sp aC cC lab X/\(∀k,lab k<=3->F k)/\∀k,F k->k<w.heap.size
end Go.Proofs.YtaijfhadecennaaGreat.Oct.Sx
namespace Go.Proofs.YtaijfhadecennaaGreat.Oct
open Go.RowKit
open Go.Maps (Keyed int_keyed keyOf_int_mk)
def OwnL (base:Nat) (w:World) (v:Value) (R:List Bool):Prop:=w.ownsRow base 4 1 v R.length (R.map Value.bool)
theorem uK {base g n cap:Nat} {w:World} {R:List Bool} (h:OwnL base w (.slice (some ⟨g,0,none⟩) n cap) R) (j:Nat) (hj:j<R.length):
  n=R.length/\w.cell? ⟨g,j,none⟩=some (.bool (R.getD j false))/\w.frozen? ⟨g,j,none⟩=false/\∀y:Bool,OwnL base (w.setCell ⟨g,j,none⟩ (.bool y)) (.slice (some ⟨g,0,none⟩) n cap) (R.set j y):=by
 have h':=h;obtain ⟨_,⟨e,_⟩|⟨g',cap',cur,e,hg,hc,hn,hm,hs,ht⟩⟩:=h
 ·simp at e
 ·simp only [Value.slice.injEq,jQ,Addr.mk.injEq,and_true] at e;obtain ⟨rfl,rfl,rfl⟩:=e;refine ⟨rfl,?_,World.ownsRow.frozenAt h' j,fun y=>?_⟩
  ·rw [World.ownsRow.cellAt h' j (by omega)];simp [hj]
  ·have:=World.ownsRow.stored h' j (.bool y);unfold OwnL;rw [jY,List.map_set];exact this.1
theorem OwnL.cap {base g n cap:Nat} {w:World} {R:List Bool} (h:OwnL base w (.slice (some ⟨g,0,none⟩) n cap) R):n=R.length/\n<=cap/\cap<=maxLen/\g<w.heap.size/\base<=g:=by
 have hl:=World.ownsRow.lt h g rfl;obtain ⟨_,⟨e,_⟩|⟨g',cap',cur,e,hg,hc,hn,hm,hs,ht⟩⟩:=h
 ·simp at e
 ·simp only [Value.slice.injEq,jQ,Addr.mk.injEq,and_true] at e;obtain ⟨rfl,rfl,rfl⟩:=e;exact ⟨rfl,hn,hm,hl.2,hl.1⟩
theorem OwnL.kept {base g n cap:Nat} {w w':World} {R:List Bool} (h:OwnL base w (.slice (some ⟨g,0,none⟩) n cap) R) (k:w'.heap[g]?=w.heap[g]?):OwnL base w' (.slice (some ⟨g,0,none⟩) n cap) R:=
 yQ h (fun x hx=>by simp [Value.ownBlock] at hx;rw [<-hx];exact k)
def rdK (D:Dv):Nat->Dv
 |0=>D
 |k+1=>readD (rdK D k)
theorem readD_is (D:Dv):(readD D).now=D.now/\(readD D).n=D.n/\(readD D).ops<=D.ops+1/\D.ops<=(readD D).ops:=by
 unfold readD;split
 ·exact ⟨rfl,rfl,by omega,by omega⟩
 ·split
  ·exact ⟨rfl,rfl,by simp [dieD],by simp [dieD]⟩
  ·exact ⟨rfl,rfl,by simp [opD],by simp [opD]⟩
theorem QL (D:Dv):∀k,(rdK D k).now=D.now/\(rdK D k).n=D.n/\(rdK D k).ops<=D.ops+k/\D.ops<=(rdK D k).ops:=by
 intro k
 induction k with
 |zero=>exact ⟨rfl,rfl,jB _,jB _⟩
 |succ k ih=>
  have:=readD_is (rdK D k);rw [rdK];exact ⟨this.1.trans ih.1,this.2.1.trans ih.2.1,by omega,by omega⟩
theorem QB (w:World):Calls prog 190 #[.bool true] w fun e w'=>e=.returned (.tuple #[])/\w=w':=by
 go_enter func190,ntmps190
 go_wp2;go_end0
 exact ⟨rfl,rfl⟩
end Go.Proofs.YtaijfhadecennaaGreat.Oct
namespace Go.Proofs.YtaijfhadecennaaGreat.Oct
open Go.RowKit
def PtR (w:World) (zs:List Int) (e:Ending) (w':World):Prop:=∃g c,e=.returned (.tuple #[.slice g (ptL zs).length c,.int .i64 (ptN zs),.int .i64 (ptE zs)])/\(g=none->c=0)/\Row w' g c (ptL zs)/\Below w.heap.size w w'
structure ChC:Prop where
 need:∀(n:Int) (w:World),-9223372036854775808<=n/\n<=9223372036854775807->Calls prog 90 #[.int .i64 n] w fun e w'=>e=.returned (.int .i64 (nedI n))/\Below w.heap.size w w'
 cut:∀(a:Option Addr) (cap:Nat) (zs:List Int) (pa:Option Addr) (pcap:Nat) (pg:List Int) (w:World),Row w a cap zs->(a=none->cap=0)->RowI w pa pcap pg->(∀z∈pg,-9223372036854775808<=z/\z<=9223372036854775807)->zs.length<=1000000->pg.length<=1000000->Calls prog 94 #[.slice a zs.length cap,.slice pa pg.length pcap] w (CtR w zs pg)
 part:∀(a:Option Addr) (cap:Nat) (zs:List Int) (w:World),Row w a cap zs->(a=none->cap=0)->zs.length<=1000000->Calls prog 128 #[.slice a zs.length cap] w (PtR w zs)
theorem ctL_at {zs pg:List Int} {i:Nat} (h:i<pg.length):(ctL zs pg).getD i []=sealL (cpg zs pg i):=by
 unfold ctL;rw [jA,jC (by simpa using h)];simp
end Go.Proofs.YtaijfhadecennaaGreat.Oct
namespace Go.Proofs.YtaijfhadecennaaGreat.Oct
open Go.RowKit
theorem appI {ops:Array Oper} {rest:List Oper} {o:Oper} {a:Act} {Q:Exit->Act->World->Prop} (wr:World) (hgd:o.guard=none) (s x:Operand)
  (ho:o.op=.call {callee:=.builtin .append,args:= #[s,x],argTypes:= #[54,54]})
  (base:Nat) (v:Value) (xs:List Int) (z:Int) (hs:a.eval s=v) (hown:OwnI base wr v xs) (hx:a.eval x=.slice (some ⟨wr.heap.size,0,none⟩) 1 1) (hsz:xs.length<=1000000) (hbase:base<=wr.heap.size)
  (h:∀v' w',OwnI base w' v' (xs++[z])->Below base wr w'->wpList prog ops Q rest (a.put o.dst v') w'):wpList prog ops Q (o::rest) a (wr.alloc (.cells #[.int .i64 z] 3)):=by
 obtain ⟨i0,hi,hz0,hz1,hz2⟩:=info_parts info3;refine wpList_append_own _ hgd s x 54 ho base 3 i0 (.int .i64 0) 1 8 underlying54 hi hz0 hz1 hz2 rfl (by decide) v xs.length (xs.map (Value.int .i64)) hs (World.ownsRow.alloc hown _) ⟨wr.heap.size,0,none⟩ 1 1 [.int .i64 z] hx rfl (World.news_of_block (heap_alloc_new wr _)) (by simp [Value.oneCell']) (by unfold maxLen;omega) (by omega) (by simp;omega) ?_;intro v' w1 hown' hgrow _;obtain ⟨h1,h2⟩:=vU (c:=z) (o:=.cells #[.int .i64 z] 3) rfl hbase hown (Below.refl base wr) hown' hgrow;exact h v' w1 h1 h2
theorem OwnI.row2 {base:Nat} {w:World} {v:Value} {zs:List Int} (h:OwnI base w v zs):∃a cap,v=.slice a zs.length cap/\RowI w a cap zs:=h.row
end Go.Proofs.YtaijfhadecennaaGreat.Oct
