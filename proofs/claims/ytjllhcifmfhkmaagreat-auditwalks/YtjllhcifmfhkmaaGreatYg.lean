/- Part of a proof. -/
import Derived.Test.YtjllhcifmfhkmaaGreatYd
import Derived.Deep.Slices
import Derived.ChangeSame
import Derived.ProofKit
import Derived.StillTailTactics
set_option maxHeartbeats 1000000
namespace Go.Proofs.YtjllhcifmfhkmaaGreat.Oct
open Go.RowKit Go.ChangeShapes Go.WideShapes
def wf1 (x:Int):Prop:= -9223372036854775808≤x∧x≤9223372036854775807
def wfC (q:C4):Prop:=wf1 q.a∧wf1 q.b∧wf1 q.c∧wf1 q.d
theorem wfC_ok {t:Bool} {q:C4} (h:okC t q=true):wfC q:=by
 obtain ⟨h0,h1,h2,h3,_⟩:=okC_bd h;refine ⟨?_,?_,?_,?_⟩<;>unfold wf1<;>omega
def At4 (w:World) (b o:Nat) (q:C4):Prop:=
 w.cell? ⟨b,o,none⟩=some (.int .i64 q.a)∧w.cell? ⟨b,o+1,none⟩=some (.int .i64 q.b)∧w.cell? ⟨b,o+2,none⟩=some (.int .i64 q.c)∧w.cell? ⟨b,o+3,none⟩=some (.int .i64 q.d)
theorem At4.same {w w1:World} {b o:Nat} {q:C4} (h:At4 w b o q) (k:w1.heap[b]?=w.heap[b]?):At4 w1 b o q:=
 ⟨(World.cell?_of_block k).trans h.1,(World.cell?_of_block k).trans h.2.1,(World.cell?_of_block k).trans h.2.2.1,(World.cell?_of_block k).trans h.2.2.2⟩
theorem At4.lt {w:World} {b o:Nat} {q:C4} (h:At4 w b o q):b<w.heap.size:=block_lt_of_cell h.1
theorem At4.below {w w1:World} {b o:Nat} {q:C4} (h:At4 w b o q) (k:Below w.heap.size w w1):At4 w1 b o q:=h.same (k.block b h.lt)
def RowC (w:World) (a:Option Addr) (cap:Nat) (l:List C4):Prop:=
 (∀q∈l,wfC q)∧l.length≤cap∧cap≤maxLen∧(l=[]∨∃b off,a=some ⟨b,off,none⟩∧∀i,i<l.length→At4 w b (off+i*4) (l.getD i c40))
theorem RowC.below {w w':World} {a:Option Addr} {cap:Nat} {l:List C4} (h:RowC w a cap l) (k:Below w.heap.size w w'):RowC w' a cap l:=by
 obtain ⟨h1,h2,h3,h4⟩:=h;refine ⟨h1,h2,h3,?_⟩;rcases h4 with h4|⟨b,off,ha,hc⟩
 ·exact .inl h4
 ·exact .inr ⟨b,off,ha,fun i hi=>(hc i hi).below k⟩
theorem RowC.some' {w:World} {a:Option Addr} {cap:Nat} {l:List C4} (h:RowC w a cap l) (hl:0<l.length):∃b off,a=some ⟨b,off,none⟩:=by
 rcases h.2.2.2 with h|⟨b,off,rfl,_⟩
 ·rw [h] at hl;exact absurd hl (by simp)
 ·exact ⟨b,off,rfl⟩
theorem RowC.cells {w:World} {b off cap:Nat} {l:List C4} (h:RowC w (some ⟨b,off,none⟩) cap l):∀i,i<l.length→At4 w b (off+i*4) (l.getD i c40):=by
 intro i hi;rcases h.2.2.2 with h|⟨b',off',e,hc⟩
 ·rw [h] at hi;exact absurd hi (by simp)
 ·simp only [Option.some.injEq,Addr.mk.injEq,and_true] at e;obtain ⟨rfl,rfl⟩:=e;exact hc i hi
theorem getD_mem {l:List C4} {i:Nat} (hi:i<l.length):l.getD i c40∈l:=by
 rw [List.getD_eq_getElem?_getD,List.getElem?_eq_getElem hi];exact List.getElem_mem hi
def vals4 (q:C4):List Value:=[.int .i64 q.a,.int .i64 q.b,.int .i64 q.c,.int .i64 q.d]
theorem vals_at:∀(l:List C4) (i j:Nat),i<l.length→j<4→(l.flatMap vals4)[i*4+j]?=some (.int .i64 (atC (l.getD i c40) j)):=by
 intro l
 induction l with
 |nil=>intro i j hi;exact absurd hi (by simp)
 |cons q l ih=>
  intro i j hi hj;rw [List.flatMap_cons];cases i with
  |zero=>
   rw [Nat.zero_mul,Nat.zero_add,List.getElem?_append_left (by simpa [vals4] using hj)];rcases four hj with rfl|rfl|rfl|rfl<;>rfl
  |succ i=>
   rw [List.getElem?_append_right (by simp [vals4];omega),show (i+1)*4+j-(vals4 q).length=i*4+j by simp [vals4];omega,ih i j (by simpa using hi) hj];rfl
theorem vals_len (l:List C4):(l.flatMap vals4).length=l.length*4:=by
 induction l with
 |nil=>rfl
 |cons q l ih=>rw [List.flatMap_cons,List.length_append,ih];simp [vals4];omega
def OwnC (ty base:Nat) (w:World) (v:Value) (l:List C4):Prop:=w.ownsRow base ty 4 v l.length (l.flatMap vals4)
theorem ownC_nil (ty base:Nat) (w:World):OwnC ty base w (.slice none 0 0) []:=World.ownsRow_nil w base ty 4
theorem OwnC.weaken {ty base b:Nat} {w:World} {v:Value} {l:List C4} (h:OwnC ty base w v l) (k:b≤base):OwnC ty b w v l:=by
 obtain ⟨h1,h2|⟨g,cap,cur,e,hg,r⟩⟩:=h
 ·exact ⟨h1,.inl h2⟩
 ·exact ⟨h1,.inr ⟨g,cap,cur,e,by omega,r⟩⟩
theorem OwnC.below' {ty base:Nat} {w w1:World} {v:Value} {l:List C4} (h:OwnC ty base w v l) (k:Below w.heap.size w w1):OwnC ty base w1 v l:=by
 obtain ⟨h1,h2|⟨g,cap,cur,e,hg,hc,r⟩⟩:=h
 ·exact ⟨h1,.inl h2⟩
 ·have hl:g<w.heap.size:=by
   by_cases hl:g<w.heap.size
   ·exact hl
   ·rw [Array.getElem?_eq_none (by omega)] at hc;cases hc
  exact ⟨h1,.inr ⟨g,cap,cur,e,hg,(k.block g hl).trans hc,r⟩⟩
theorem OwnC.row {ty base:Nat} {w:World} {v:Value} {l:List C4} (h:OwnC ty base w v l) (hw:∀q∈l,wfC q):∃a cap,v=.slice a l.length cap∧RowC w a cap l∧(a=none→cap=0):=by
 obtain ⟨_,⟨rfl,h0⟩|⟨g,cap,cur,rfl,hg,hc,hn,hm,hs,ht⟩⟩:=id h
 ·exact ⟨none,0,by rw [h0],⟨hw,by omega,by simp [maxLen],.inl (List.eq_nil_of_length_eq_zero h0)⟩,fun _=>rfl⟩
 ·refine ⟨_,cap,rfl,⟨hw,hn,hm,.inr ⟨g,0,rfl,fun i hi=>?_⟩⟩,fun e=>by cases e⟩
  have key:∀j,j<4→w.cell? ⟨g,i*4+j,none⟩=some (.int .i64 (atC (l.getD i c40) j)):=fun j hj=>by
   have:=World.ownsRow.cells h (g:=g) rfl (i*4+j) _ (vals_at l i j hi hj)
   rwa [Addr.add_lit,Nat.zero_add] at this
  rw [Nat.zero_add];exact ⟨key 0 (by omega),key 1 (by omega),key 2 (by omega),key 3 (by omega)⟩
theorem OwnC.row' {ty base n cap:Nat} {a:Option Addr} {w:World} {l:List C4} (h:OwnC ty base w (.slice a n cap) l) (hw:∀q∈l,wfC q):n=l.length∧RowC w a cap l∧(a=none→cap=0):=by
 obtain ⟨a',cap',e,hr⟩:=h.row hw;simp only [Value.slice.injEq] at e;obtain ⟨rfl,rfl,rfl⟩:=e;exact ⟨rfl,hr⟩
def zero4:Value:=.agg #[.int .i64 0,.int .i64 0,.int .i64 0,.int .i64 0]
theorem infoP:(Tryz.prog.info? 72).map (fun i=>(i.zero,i.size,i.bytes))=some (some zero4,4,32):=by kernel_rfl
theorem infoK:(Tryz.prog.info? 130).map (fun i=>(i.zero,i.size,i.bytes))=some (some zero4,4,32):=by kernel_rfl
theorem vals_news {w:World} {B:Nat} {q:C4} (hq:At4 w B 0 q):∀(j:Nat) (u:Value),(vals4 q)[j]?=some u→w.cell? ((⟨B,0,none⟩:Addr).add j)=some u:=by
 intro j u hj;have hlt:j<4:=by have:=(List.getElem?_eq_some_iff.1 hj).1;simpa [vals4] using this
 rw [Addr.add_lit,Nat.zero_add,←hj];obtain ⟨h0,h1,h2,h3⟩:=hq;rcases four hlt with rfl|rfl|rfl|rfl
 ·exact h0
 ·exact h1
 ·exact h2
 ·exact h3
theorem append_c4 (tS tE:TypeId) (hu:Tryz.prog.underlying tS=some (.slice tE)) (hinfo:(Tryz.prog.info? tE).map (fun i=>(i.zero,i.size,i.bytes))=some (some zero4,4,32))
  {w:World} {ops:Array Oper} {rest:List Oper} {o:Oper} {a:Act} {Q:Exit→Act→World→Prop} (hgd:o.guard=none) (s x:Operand)
  (ho:o.op=.call {callee:=.builtin .append,args:= #[s,x],argTypes:= #[tS,tS]})
  (base:Nat) (v:Value) (l:List C4) (hs:a.eval s=v) (hown:OwnC tE base w v l) (q:C4) (B:Nat) (hx:a.eval x=.slice (some ⟨B,0,none⟩) 1 1) (hq:At4 w B 0 q)
  (hsz:l.length≤1000000) (hbase:base≤w.heap.size)
  (h:∀b c w',OwnC tE base w' (.slice b (l.length+1) c) (l++[q])→Below base w w'→wpList Tryz.prog ops Q rest (a.put o.dst (.slice b (l.length+1) c)) w'):wpList Tryz.prog ops Q (o::rest) a w:=by
 obtain ⟨i0,hi,hz0,hz1,hz2⟩:=info_parts hinfo;refine wpList_append_own w hgd s x tS ho base tE i0 zero4 4 32 hu hi hz0 hz1 hz2 rfl (by decide) v _ _ hs hown ⟨B,0,none⟩ 1 1 (vals4 q) hx rfl (vals_news hq) (by intro u hu;simp [vals4] at hu;rcases hu with rfl|rfl|rfl|rfl<;>rfl) (by unfold maxLen;omega) (by omega) hbase ?_;intro v' w' h1 h2 _
 have h1':OwnC tE base w' v' (l++[q]):=by
  unfold OwnC;rw [List.length_append,List.flatMap_append]
  simpa using h1
 have hsl:∃b c,v'=.slice b (l.length+1) c:=by
  rcases h1'.2 with ⟨rfl,h0⟩|⟨g,cap,cur,rfl,_⟩
  ·simp at h0
  ·exact ⟨_,_,by rw [List.length_append];rfl⟩
 obtain ⟨b,c,rfl⟩:=hsl;exact h b c w' h1' ((Below.refl base w).grown h2 hbase (fun j hj=>(World.ownsRow.lt hown j hj).1))
end Go.Proofs.YtjllhcifmfhkmaaGreat.Oct
namespace Go.Proofs.YtjllhcifmfhkmaaGreat.Oct
open Go.RowKit
set_option linter.unusedVariables false
theorem mayP_0 (a b c d:Int) (w:World) (wb: -9223372036854775808≤b∧b≤9223372036854775807) (h0:a<2):
  Calls Tryz.prog 93 #[.agg #[.int .i64 a,.int .i64 b,.int .i64 c,.int .i64 d]] w fun e w'=>e=.returned (.bool false)∧Below w.heap.size w w':=by
 go_enter Tryz.func93,Tryz.ntmps93
 go_wp2;go_ret
 exact ⟨rfl,(Below.refl _ _).alloc (Nat.le_refl _) _⟩
theorem mayP_1 (a b c d:Int) (w:World) (wb: -9223372036854775808≤b∧b≤9223372036854775807) (h0:2≤a) (h1:4096≤a):
  Calls Tryz.prog 93 #[.agg #[.int .i64 a,.int .i64 b,.int .i64 c,.int .i64 d]] w fun e w'=>e=.returned (.bool false)∧Below w.heap.size w w':=by
 go_enter Tryz.func93,Tryz.ntmps93
 go_wp2;go_ret
 exact ⟨rfl,(Below.refl _ _).alloc (Nat.le_refl _) _⟩
theorem mayP_2 (a b c d:Int) (w:World) (wb: -9223372036854775808≤b∧b≤9223372036854775807) (h0:2≤a) (h1:a<4096) (h2:b<0):
  Calls Tryz.prog 93 #[.agg #[.int .i64 a,.int .i64 b,.int .i64 c,.int .i64 d]] w fun e w'=>e=.returned (.bool false)∧Below w.heap.size w w':=by
 go_enter Tryz.func93,Tryz.ntmps93
 go_wp2;go_ret
 exact ⟨rfl,(Below.refl _ _).alloc (Nat.le_refl _) _⟩
theorem mayP_3 (a b c d:Int) (w:World) (wb: -9223372036854775808≤b∧b≤9223372036854775807) (h0:2≤a) (h1:a<4096) (h2:0≤b) (h3:248<b):
  Calls Tryz.prog 93 #[.agg #[.int .i64 a,.int .i64 b,.int .i64 c,.int .i64 d]] w fun e w'=>e=.returned (.bool false)∧Below w.heap.size w w':=by
 go_enter Tryz.func93,Tryz.ntmps93
 go_wp2;go_ret
 exact ⟨rfl,(Below.refl _ _).alloc (Nat.le_refl _) _⟩
theorem mayP_4 (a b c d:Int) (w:World) (wb: -9223372036854775808≤b∧b≤9223372036854775807) (h0:2≤a) (h1:a<4096) (h2:0≤b) (h3:b≤248) (h4:c<1):
  Calls Tryz.prog 93 #[.agg #[.int .i64 a,.int .i64 b,.int .i64 c,.int .i64 d]] w fun e w'=>e=.returned (.bool false)∧Below w.heap.size w w':=by
 go_enter Tryz.func93,Tryz.ntmps93
 go_wp2;go_ret
 exact ⟨rfl,(Below.refl _ _).alloc (Nat.le_refl _) _⟩
theorem mayP_5 (a b c d:Int) (w:World) (wb: -9223372036854775808≤b∧b≤9223372036854775807) (h0:2≤a) (h1:a<4096) (h2:0≤b) (h3:b≤248) (h4:1≤c) (h5:248<c):
  Calls Tryz.prog 93 #[.agg #[.int .i64 a,.int .i64 b,.int .i64 c,.int .i64 d]] w fun e w'=>e=.returned (.bool false)∧Below w.heap.size w w':=by
 go_enter Tryz.func93,Tryz.ntmps93
 go_wp2;go_ret
 exact ⟨rfl,(Below.refl _ _).alloc (Nat.le_refl _) _⟩
theorem mayP_6 (a b c d:Int) (w:World) (wb: -9223372036854775808≤b∧b≤9223372036854775807) (h0:2≤a) (h1:a<4096) (h2:0≤b) (h3:b≤248) (h4:1≤c) (h5:c≤248) (h6:248<b+c):
  Calls Tryz.prog 93 #[.agg #[.int .i64 a,.int .i64 b,.int .i64 c,.int .i64 d]] w fun e w'=>e=.returned (.bool false)∧Below w.heap.size w w':=by
 go_enter Tryz.func93,Tryz.ntmps93
 go_wp2;go_ret
 exact ⟨rfl,(Below.refl _ _).alloc (Nat.le_refl _) _⟩
theorem mayP_7 (a b c d:Int) (w:World) (wb: -9223372036854775808≤b∧b≤9223372036854775807) (h0:2≤a) (h1:a<4096) (h2:0≤b) (h3:b≤248) (h4:1≤c) (h5:c≤248) (h6:b+c≤248) (h7:d<0):
  Calls Tryz.prog 93 #[.agg #[.int .i64 a,.int .i64 b,.int .i64 c,.int .i64 d]] w fun e w'=>e=.returned (.bool false)∧Below w.heap.size w w':=by
 go_enter Tryz.func93,Tryz.ntmps93
 go_wp2;go_ret
 exact ⟨rfl,(Below.refl _ _).alloc (Nat.le_refl _) _⟩
theorem mayP_8 (a b c d:Int) (w:World) (wb: -9223372036854775808≤b∧b≤9223372036854775807) (h0:2≤a) (h1:a<4096) (h2:0≤b) (h3:b≤248) (h4:1≤c) (h5:c≤248) (h6:b+c≤248) (h7:0≤d) (h8:c<d):
  Calls Tryz.prog 93 #[.agg #[.int .i64 a,.int .i64 b,.int .i64 c,.int .i64 d]] w fun e w'=>e=.returned (.bool false)∧Below w.heap.size w w':=by
 go_enter Tryz.func93,Tryz.ntmps93
 go_wp2;go_ret
 exact ⟨by simp [show ¬d≤c from by omega],(Below.refl _ _).alloc (Nat.le_refl _) _⟩
theorem mayP_9 (a b c d:Int) (w:World) (wb: -9223372036854775808≤b∧b≤9223372036854775807) (h0:2≤a) (h1:a<4096) (h2:0≤b) (h3:b≤248) (h4:1≤c) (h5:c≤248) (h6:b+c≤248) (h7:0≤d) (h8:d≤c):
  Calls Tryz.prog 93 #[.agg #[.int .i64 a,.int .i64 b,.int .i64 c,.int .i64 d]] w fun e w'=>e=.returned (.bool true)∧Below w.heap.size w w':=by
 go_enter Tryz.func93,Tryz.ntmps93
 go_wp2;go_ret
 exact ⟨rfl,(Below.refl _ _).alloc (Nat.le_refl _) _⟩
theorem mayP_v (q:C4) (hq:wfC q) (w:World) (V:Bool) (hV:okC false q=V):
  Calls Tryz.prog 93 #[.agg #[.int .i64 q.a,.int .i64 q.b,.int .i64 q.c,.int .i64 q.d]] w fun e w'=>e=.returned (.bool V)∧Below w.heap.size w w':=by
 obtain ⟨a,b,c,d⟩:=q;subst hV;have wb: -9223372036854775808≤b∧b≤9223372036854775807:=hq.2.1;dsimp only;by_cases h0:2≤a;rotate_left
 ·rw [show okC false ⟨a,b,c,d⟩=false from decide_eq_false (show ¬((2≤a∧a≤4095)∧0≤b∧(1≤c∧c≤248-b)∧(0≤d∧d≤c)) by omega)];exact mayP_0 a b c d w wb (by omega)
 by_cases h1:a<4096;rotate_left
 ·rw [show okC false ⟨a,b,c,d⟩=false from decide_eq_false (show ¬((2≤a∧a≤4095)∧0≤b∧(1≤c∧c≤248-b)∧(0≤d∧d≤c)) by omega)];exact mayP_1 a b c d w wb h0 (by omega)
 by_cases h2:0≤b;rotate_left
 ·rw [show okC false ⟨a,b,c,d⟩=false from decide_eq_false (show ¬((2≤a∧a≤4095)∧0≤b∧(1≤c∧c≤248-b)∧(0≤d∧d≤c)) by omega)];exact mayP_2 a b c d w wb h0 h1 (by omega)
 by_cases h3:b≤248;rotate_left
 ·rw [show okC false ⟨a,b,c,d⟩=false from decide_eq_false (show ¬((2≤a∧a≤4095)∧0≤b∧(1≤c∧c≤248-b)∧(0≤d∧d≤c)) by omega)];exact mayP_3 a b c d w wb h0 h1 h2 (by omega)
 by_cases h4:1≤c;rotate_left
 ·rw [show okC false ⟨a,b,c,d⟩=false from decide_eq_false (show ¬((2≤a∧a≤4095)∧0≤b∧(1≤c∧c≤248-b)∧(0≤d∧d≤c)) by omega)];exact mayP_4 a b c d w wb h0 h1 h2 h3 (by omega)
 by_cases h5:c≤248;rotate_left
 ·rw [show okC false ⟨a,b,c,d⟩=false from decide_eq_false (show ¬((2≤a∧a≤4095)∧0≤b∧(1≤c∧c≤248-b)∧(0≤d∧d≤c)) by omega)];exact mayP_5 a b c d w wb h0 h1 h2 h3 h4 (by omega)
 by_cases h6:b+c≤248;rotate_left
 ·rw [show okC false ⟨a,b,c,d⟩=false from decide_eq_false (show ¬((2≤a∧a≤4095)∧0≤b∧(1≤c∧c≤248-b)∧(0≤d∧d≤c)) by omega)];exact mayP_6 a b c d w wb h0 h1 h2 h3 h4 h5 (by omega)
 by_cases h7:0≤d;rotate_left
 ·rw [show okC false ⟨a,b,c,d⟩=false from decide_eq_false (show ¬((2≤a∧a≤4095)∧0≤b∧(1≤c∧c≤248-b)∧(0≤d∧d≤c)) by omega)];exact mayP_7 a b c d w wb h0 h1 h2 h3 h4 h5 h6 (by omega)
 by_cases h8:d≤c;rotate_left
 ·rw [show okC false ⟨a,b,c,d⟩=false from decide_eq_false (show ¬((2≤a∧a≤4095)∧0≤b∧(1≤c∧c≤248-b)∧(0≤d∧d≤c)) by omega)];exact mayP_8 a b c d w wb h0 h1 h2 h3 h4 h5 h6 h7 (by omega)
 rw [show okC false ⟨a,b,c,d⟩=true from decide_eq_true (show ((2≤a∧a≤4095)∧0≤b∧(1≤c∧c≤248-b)∧(0≤d∧d≤c)) by omega)];exact mayP_9 a b c d w wb h0 h1 h2 h3 h4 h5 h6 h7 h8
theorem mayK_0 (a b c d:Int) (w:World) (wb: -9223372036854775808≤b∧b≤9223372036854775807) (h0:a<2):
  Calls Tryz.prog 94 #[.agg #[.int .i64 a,.int .i64 b,.int .i64 c,.int .i64 d]] w fun e w'=>e=.returned (.bool false)∧Below w.heap.size w w':=by
 go_enter Tryz.func94,Tryz.ntmps94
 go_wp2;go_ret
 exact ⟨rfl,(Below.refl _ _).alloc (Nat.le_refl _) _⟩
theorem mayK_1 (a b c d:Int) (w:World) (wb: -9223372036854775808≤b∧b≤9223372036854775807) (h0:2≤a) (h1:4096≤a):
  Calls Tryz.prog 94 #[.agg #[.int .i64 a,.int .i64 b,.int .i64 c,.int .i64 d]] w fun e w'=>e=.returned (.bool false)∧Below w.heap.size w w':=by
 go_enter Tryz.func94,Tryz.ntmps94
 go_wp2;go_ret
 exact ⟨rfl,(Below.refl _ _).alloc (Nat.le_refl _) _⟩
theorem mayK_2 (a b c d:Int) (w:World) (wb: -9223372036854775808≤b∧b≤9223372036854775807) (h0:2≤a) (h1:a<4096) (h2:b<1):
  Calls Tryz.prog 94 #[.agg #[.int .i64 a,.int .i64 b,.int .i64 c,.int .i64 d]] w fun e w'=>e=.returned (.bool false)∧Below w.heap.size w w':=by
 go_enter Tryz.func94,Tryz.ntmps94
 go_wp2;go_ret
 exact ⟨rfl,(Below.refl _ _).alloc (Nat.le_refl _) _⟩
theorem mayK_3 (a b c d:Int) (w:World) (wb: -9223372036854775808≤b∧b≤9223372036854775807) (h0:2≤a) (h1:a<4096) (h2:1≤b) (h3:c<b):
  Calls Tryz.prog 94 #[.agg #[.int .i64 a,.int .i64 b,.int .i64 c,.int .i64 d]] w fun e w'=>e=.returned (.bool false)∧Below w.heap.size w w':=by
 go_enter Tryz.func94,Tryz.ntmps94
 go_wp2;go_ret
 exact ⟨rfl,(Below.refl _ _).alloc (Nat.le_refl _) _⟩
theorem mayK_4 (a b c d:Int) (w:World) (wb: -9223372036854775808≤b∧b≤9223372036854775807) (h0:2≤a) (h1:a<4096) (h2:1≤b) (h3:b≤c) (h4:1048576<c):
  Calls Tryz.prog 94 #[.agg #[.int .i64 a,.int .i64 b,.int .i64 c,.int .i64 d]] w fun e w'=>e=.returned (.bool false)∧Below w.heap.size w w':=by
 go_enter Tryz.func94,Tryz.ntmps94
 go_wp2;go_ret
 exact ⟨rfl,(Below.refl _ _).alloc (Nat.le_refl _) _⟩
theorem mayK_5 (a b c d:Int) (w:World) (wb: -9223372036854775808≤b∧b≤9223372036854775807) (h0:2≤a) (h1:a<4096) (h2:1≤b) (h3:b≤c) (h4:c≤1048576) (h5:d<0):
  Calls Tryz.prog 94 #[.agg #[.int .i64 a,.int .i64 b,.int .i64 c,.int .i64 d]] w fun e w'=>e=.returned (.bool false)∧Below w.heap.size w w':=by
 go_enter Tryz.func94,Tryz.ntmps94
 go_wp2;go_ret
 exact ⟨rfl,(Below.refl _ _).alloc (Nat.le_refl _) _⟩
theorem mayK_6 (a b c d:Int) (w:World) (wb: -9223372036854775808≤b∧b≤9223372036854775807) (h0:2≤a) (h1:a<4096) (h2:1≤b) (h3:b≤c) (h4:c≤1048576) (h5:0≤d) (h6:c<d):
  Calls Tryz.prog 94 #[.agg #[.int .i64 a,.int .i64 b,.int .i64 c,.int .i64 d]] w fun e w'=>e=.returned (.bool false)∧Below w.heap.size w w':=by
 go_enter Tryz.func94,Tryz.ntmps94
 go_wp2;go_ret
 exact ⟨by simp [show ¬d≤c from by omega],(Below.refl _ _).alloc (Nat.le_refl _) _⟩
theorem mayK_7 (a b c d:Int) (w:World) (wb: -9223372036854775808≤b∧b≤9223372036854775807) (h0:2≤a) (h1:a<4096) (h2:1≤b) (h3:b≤c) (h4:c≤1048576) (h5:0≤d) (h6:d≤c):
  Calls Tryz.prog 94 #[.agg #[.int .i64 a,.int .i64 b,.int .i64 c,.int .i64 d]] w fun e w'=>e=.returned (.bool true)∧Below w.heap.size w w':=by
 go_enter Tryz.func94,Tryz.ntmps94
 go_wp2;go_ret
 exact ⟨rfl,(Below.refl _ _).alloc (Nat.le_refl _) _⟩
theorem mayK_v (q:C4) (hq:wfC q) (w:World) (V:Bool) (hV:okC true q=V):
  Calls Tryz.prog 94 #[.agg #[.int .i64 q.a,.int .i64 q.b,.int .i64 q.c,.int .i64 q.d]] w fun e w'=>e=.returned (.bool V)∧Below w.heap.size w w':=by
 obtain ⟨a,b,c,d⟩:=q;subst hV;have wb: -9223372036854775808≤b∧b≤9223372036854775807:=hq.2.1;dsimp only;by_cases h0:2≤a;rotate_left
 ·rw [show okC true ⟨a,b,c,d⟩=false from decide_eq_false (show ¬((2≤a∧a≤4095)∧1≤b∧(b≤c∧c≤1048576)∧(0≤d∧d≤c)) by omega)];exact mayK_0 a b c d w wb (by omega)
 by_cases h1:a<4096;rotate_left
 ·rw [show okC true ⟨a,b,c,d⟩=false from decide_eq_false (show ¬((2≤a∧a≤4095)∧1≤b∧(b≤c∧c≤1048576)∧(0≤d∧d≤c)) by omega)];exact mayK_1 a b c d w wb h0 (by omega)
 by_cases h2:1≤b;rotate_left
 ·rw [show okC true ⟨a,b,c,d⟩=false from decide_eq_false (show ¬((2≤a∧a≤4095)∧1≤b∧(b≤c∧c≤1048576)∧(0≤d∧d≤c)) by omega)];exact mayK_2 a b c d w wb h0 h1 (by omega)
 by_cases h3:b≤c;rotate_left
 ·rw [show okC true ⟨a,b,c,d⟩=false from decide_eq_false (show ¬((2≤a∧a≤4095)∧1≤b∧(b≤c∧c≤1048576)∧(0≤d∧d≤c)) by omega)];exact mayK_3 a b c d w wb h0 h1 h2 (by omega)
 by_cases h4:c≤1048576;rotate_left
 ·rw [show okC true ⟨a,b,c,d⟩=false from decide_eq_false (show ¬((2≤a∧a≤4095)∧1≤b∧(b≤c∧c≤1048576)∧(0≤d∧d≤c)) by omega)];exact mayK_4 a b c d w wb h0 h1 h2 h3 (by omega)
 by_cases h5:0≤d;rotate_left
 ·rw [show okC true ⟨a,b,c,d⟩=false from decide_eq_false (show ¬((2≤a∧a≤4095)∧1≤b∧(b≤c∧c≤1048576)∧(0≤d∧d≤c)) by omega)];exact mayK_5 a b c d w wb h0 h1 h2 h3 h4 (by omega)
 by_cases h6:d≤c;rotate_left
 ·rw [show okC true ⟨a,b,c,d⟩=false from decide_eq_false (show ¬((2≤a∧a≤4095)∧1≤b∧(b≤c∧c≤1048576)∧(0≤d∧d≤c)) by omega)];exact mayK_6 a b c d w wb h0 h1 h2 h3 h4 h5 (by omega)
 rw [show okC true ⟨a,b,c,d⟩=true from decide_eq_true (show ((2≤a∧a≤4095)∧1≤b∧(b≤c∧c≤1048576)∧(0≤d∧d≤c)) by omega)];exact mayK_7 a b c d w wb h0 h1 h2 h3 h4 h5 h6
theorem pieceFits_0 (a b c d:Int) (w:World) (wb: -9223372036854775808≤b∧b≤9223372036854775807) (h0:decide (2≤a∧a≤4095)=false):
  Calls Tryz.prog 140 #[.agg #[.int .i64 a,.int .i64 b,.int .i64 c,.int .i64 d]] w fun e w'=>e=.returned (.bool false)∧Below w.heap.size w w':=by
 go_enter Tryz.func140,Tryz.ntmps140
 go_wp2_with fail
 refine (cwithin_v _ _ _ _ h0 _).mono ?_;rintro e w1 ⟨rfl,rfl⟩;go_wp2;go_ret
 exact ⟨rfl,(Below.refl _ _).alloc (Nat.le_refl _) _⟩
theorem pieceFits_1 (a b c d:Int) (w:World) (wb: -9223372036854775808≤b∧b≤9223372036854775807) (h0:decide (2≤a∧a≤4095)=true) (h1:b<0):
  Calls Tryz.prog 140 #[.agg #[.int .i64 a,.int .i64 b,.int .i64 c,.int .i64 d]] w fun e w'=>e=.returned (.bool false)∧Below w.heap.size w w':=by
 go_enter Tryz.func140,Tryz.ntmps140
 go_wp2_with fail
 refine (cwithin_v _ _ _ _ h0 _).mono ?_;rintro e w1 ⟨rfl,rfl⟩;go_wp2;go_ret
 exact ⟨rfl,(Below.refl _ _).alloc (Nat.le_refl _) _⟩
theorem pieceFits_2 (a b c d:Int) (w:World) (wb: -9223372036854775808≤b∧b≤9223372036854775807) (h0:decide (2≤a∧a≤4095)=true) (h1:0≤b) (h2:decide (1≤c∧c≤248-b)=false):
  Calls Tryz.prog 140 #[.agg #[.int .i64 a,.int .i64 b,.int .i64 c,.int .i64 d]] w fun e w'=>e=.returned (.bool false)∧Below w.heap.size w w':=by
 go_enter Tryz.func140,Tryz.ntmps140
 go_wp2_with fail
 refine (cwithin_v _ _ _ _ h0 _).mono ?_;rintro e w1 ⟨rfl,rfl⟩;go_wp2_with fail
 refine (cwithin_v _ _ _ _ h2 _).mono ?_;rintro e w1 ⟨rfl,rfl⟩;go_wp2;go_ret
 exact ⟨rfl,(Below.refl _ _).alloc (Nat.le_refl _) _⟩
theorem pieceFits_3 (a b c d:Int) (w:World) (wb: -9223372036854775808≤b∧b≤9223372036854775807) (h0:decide (2≤a∧a≤4095)=true) (h1:0≤b) (h2:decide (1≤c∧c≤248-b)=true) (h3:decide (0≤d∧d≤c)=false):
  Calls Tryz.prog 140 #[.agg #[.int .i64 a,.int .i64 b,.int .i64 c,.int .i64 d]] w fun e w'=>e=.returned (.bool false)∧Below w.heap.size w w':=by
 go_enter Tryz.func140,Tryz.ntmps140
 go_wp2_with fail
 refine (cwithin_v _ _ _ _ h0 _).mono ?_;rintro e w1 ⟨rfl,rfl⟩;go_wp2_with fail
 refine (cwithin_v _ _ _ _ h2 _).mono ?_;rintro e w1 ⟨rfl,rfl⟩;go_wp2_with fail
 refine (cwithin_v _ _ _ _ h3 _).mono ?_;rintro e w1 ⟨rfl,rfl⟩;go_wp2;go_ret
 exact ⟨rfl,(Below.refl _ _).alloc (Nat.le_refl _) _⟩
theorem pieceFits_4 (a b c d:Int) (w:World) (wb: -9223372036854775808≤b∧b≤9223372036854775807) (h0:decide (2≤a∧a≤4095)=true) (h1:0≤b) (h2:decide (1≤c∧c≤248-b)=true) (h3:decide (0≤d∧d≤c)=true):
  Calls Tryz.prog 140 #[.agg #[.int .i64 a,.int .i64 b,.int .i64 c,.int .i64 d]] w fun e w'=>e=.returned (.bool true)∧Below w.heap.size w w':=by
 go_enter Tryz.func140,Tryz.ntmps140
 go_wp2_with fail
 refine (cwithin_v _ _ _ _ h0 _).mono ?_;rintro e w1 ⟨rfl,rfl⟩;go_wp2_with fail
 refine (cwithin_v _ _ _ _ h2 _).mono ?_;rintro e w1 ⟨rfl,rfl⟩;go_wp2_with fail
 refine (cwithin_v _ _ _ _ h3 _).mono ?_;rintro e w1 ⟨rfl,rfl⟩;go_wp2;go_ret
 exact ⟨rfl,(Below.refl _ _).alloc (Nat.le_refl _) _⟩
theorem pieceFits_v (q:C4) (hq:wfC q) (w:World) (V:Bool) (hV:okC false q=V):
  Calls Tryz.prog 140 #[.agg #[.int .i64 q.a,.int .i64 q.b,.int .i64 q.c,.int .i64 q.d]] w fun e w'=>e=.returned (.bool V)∧Below w.heap.size w w':=by
 obtain ⟨a,b,c,d⟩:=q;subst hV;have wb: -9223372036854775808≤b∧b≤9223372036854775807:=hq.2.1;dsimp only;by_cases h0:2≤a∧a≤4095;rotate_left
 ·rw [show okC false ⟨a,b,c,d⟩=false from decide_eq_false (show ¬((2≤a∧a≤4095)∧0≤b∧(1≤c∧c≤248-b)∧(0≤d∧d≤c)) by omega)];exact pieceFits_0 a b c d w wb (decide_eq_false h0)
 by_cases h1:0≤b;rotate_left
 ·rw [show okC false ⟨a,b,c,d⟩=false from decide_eq_false (show ¬((2≤a∧a≤4095)∧0≤b∧(1≤c∧c≤248-b)∧(0≤d∧d≤c)) by omega)];exact pieceFits_1 a b c d w wb (decide_eq_true h0) (by omega)
 by_cases h2:1≤c∧c≤248-b;rotate_left
 ·rw [show okC false ⟨a,b,c,d⟩=false from decide_eq_false (show ¬((2≤a∧a≤4095)∧0≤b∧(1≤c∧c≤248-b)∧(0≤d∧d≤c)) by omega)];exact pieceFits_2 a b c d w wb (decide_eq_true h0) h1 (decide_eq_false h2)
 by_cases h3:0≤d∧d≤c;rotate_left
 ·rw [show okC false ⟨a,b,c,d⟩=false from decide_eq_false (show ¬((2≤a∧a≤4095)∧0≤b∧(1≤c∧c≤248-b)∧(0≤d∧d≤c)) by omega)];exact pieceFits_3 a b c d w wb (decide_eq_true h0) h1 (decide_eq_true h2) (decide_eq_false h3)
 rw [show okC false ⟨a,b,c,d⟩=true from decide_eq_true (show ((2≤a∧a≤4095)∧0≤b∧(1≤c∧c≤248-b)∧(0≤d∧d≤c)) by omega)];exact pieceFits_4 a b c d w wb (decide_eq_true h0) h1 (decide_eq_true h2) (decide_eq_true h3)
theorem kidFits_0 (a b c d:Int) (w:World) (wb: -9223372036854775808≤b∧b≤9223372036854775807) (h0:decide (2≤a∧a≤4095)=false):
  Calls Tryz.prog 143 #[.agg #[.int .i64 a,.int .i64 b,.int .i64 c,.int .i64 d]] w fun e w'=>e=.returned (.bool false)∧Below w.heap.size w w':=by
 go_enter Tryz.func143,Tryz.ntmps143
 go_wp2_with fail
 refine (cwithin_v _ _ _ _ h0 _).mono ?_;rintro e w1 ⟨rfl,rfl⟩;go_wp2;go_ret
 exact ⟨rfl,(Below.refl _ _).alloc (Nat.le_refl _) _⟩
theorem kidFits_1 (a b c d:Int) (w:World) (wb: -9223372036854775808≤b∧b≤9223372036854775807) (h0:decide (2≤a∧a≤4095)=true) (h1:b<1):
  Calls Tryz.prog 143 #[.agg #[.int .i64 a,.int .i64 b,.int .i64 c,.int .i64 d]] w fun e w'=>e=.returned (.bool false)∧Below w.heap.size w w':=by
 go_enter Tryz.func143,Tryz.ntmps143
 go_wp2_with fail
 refine (cwithin_v _ _ _ _ h0 _).mono ?_;rintro e w1 ⟨rfl,rfl⟩;go_wp2;go_ret
 exact ⟨rfl,(Below.refl _ _).alloc (Nat.le_refl _) _⟩
theorem kidFits_2 (a b c d:Int) (w:World) (wb: -9223372036854775808≤b∧b≤9223372036854775807) (h0:decide (2≤a∧a≤4095)=true) (h1:1≤b) (h2:decide (b≤c∧c≤1048576)=false):
  Calls Tryz.prog 143 #[.agg #[.int .i64 a,.int .i64 b,.int .i64 c,.int .i64 d]] w fun e w'=>e=.returned (.bool false)∧Below w.heap.size w w':=by
 go_enter Tryz.func143,Tryz.ntmps143
 go_wp2_with fail
 refine (cwithin_v _ _ _ _ h0 _).mono ?_;rintro e w1 ⟨rfl,rfl⟩;go_wp2_with fail
 refine (cwithin_v _ _ _ _ h2 _).mono ?_;rintro e w1 ⟨rfl,rfl⟩;go_wp2;go_ret
 exact ⟨rfl,(Below.refl _ _).alloc (Nat.le_refl _) _⟩
theorem kidFits_3 (a b c d:Int) (w:World) (wb: -9223372036854775808≤b∧b≤9223372036854775807) (h0:decide (2≤a∧a≤4095)=true) (h1:1≤b) (h2:decide (b≤c∧c≤1048576)=true) (h3:decide (0≤d∧d≤c)=false):
  Calls Tryz.prog 143 #[.agg #[.int .i64 a,.int .i64 b,.int .i64 c,.int .i64 d]] w fun e w'=>e=.returned (.bool false)∧Below w.heap.size w w':=by
 go_enter Tryz.func143,Tryz.ntmps143
 go_wp2_with fail
 refine (cwithin_v _ _ _ _ h0 _).mono ?_;rintro e w1 ⟨rfl,rfl⟩;go_wp2_with fail
 refine (cwithin_v _ _ _ _ h2 _).mono ?_;rintro e w1 ⟨rfl,rfl⟩;go_wp2_with fail
 refine (cwithin_v _ _ _ _ h3 _).mono ?_;rintro e w1 ⟨rfl,rfl⟩;go_wp2;go_ret
 exact ⟨rfl,(Below.refl _ _).alloc (Nat.le_refl _) _⟩
theorem kidFits_4 (a b c d:Int) (w:World) (wb: -9223372036854775808≤b∧b≤9223372036854775807) (h0:decide (2≤a∧a≤4095)=true) (h1:1≤b) (h2:decide (b≤c∧c≤1048576)=true) (h3:decide (0≤d∧d≤c)=true):
  Calls Tryz.prog 143 #[.agg #[.int .i64 a,.int .i64 b,.int .i64 c,.int .i64 d]] w fun e w'=>e=.returned (.bool true)∧Below w.heap.size w w':=by
 go_enter Tryz.func143,Tryz.ntmps143
 go_wp2_with fail
 refine (cwithin_v _ _ _ _ h0 _).mono ?_;rintro e w1 ⟨rfl,rfl⟩;go_wp2_with fail
 refine (cwithin_v _ _ _ _ h2 _).mono ?_;rintro e w1 ⟨rfl,rfl⟩;go_wp2_with fail
 refine (cwithin_v _ _ _ _ h3 _).mono ?_;rintro e w1 ⟨rfl,rfl⟩;go_wp2;go_ret
 exact ⟨rfl,(Below.refl _ _).alloc (Nat.le_refl _) _⟩
theorem kidFits_v (q:C4) (hq:wfC q) (w:World) (V:Bool) (hV:okC true q=V):
  Calls Tryz.prog 143 #[.agg #[.int .i64 q.a,.int .i64 q.b,.int .i64 q.c,.int .i64 q.d]] w fun e w'=>e=.returned (.bool V)∧Below w.heap.size w w':=by
 obtain ⟨a,b,c,d⟩:=q;subst hV;have wb: -9223372036854775808≤b∧b≤9223372036854775807:=hq.2.1;dsimp only;by_cases h0:2≤a∧a≤4095;rotate_left
 ·rw [show okC true ⟨a,b,c,d⟩=false from decide_eq_false (show ¬((2≤a∧a≤4095)∧1≤b∧(b≤c∧c≤1048576)∧(0≤d∧d≤c)) by omega)];exact kidFits_0 a b c d w wb (decide_eq_false h0)
 by_cases h1:1≤b;rotate_left
 ·rw [show okC true ⟨a,b,c,d⟩=false from decide_eq_false (show ¬((2≤a∧a≤4095)∧1≤b∧(b≤c∧c≤1048576)∧(0≤d∧d≤c)) by omega)];exact kidFits_1 a b c d w wb (decide_eq_true h0) (by omega)
 by_cases h2:b≤c∧c≤1048576;rotate_left
 ·rw [show okC true ⟨a,b,c,d⟩=false from decide_eq_false (show ¬((2≤a∧a≤4095)∧1≤b∧(b≤c∧c≤1048576)∧(0≤d∧d≤c)) by omega)];exact kidFits_2 a b c d w wb (decide_eq_true h0) h1 (decide_eq_false h2)
 by_cases h3:0≤d∧d≤c;rotate_left
 ·rw [show okC true ⟨a,b,c,d⟩=false from decide_eq_false (show ¬((2≤a∧a≤4095)∧1≤b∧(b≤c∧c≤1048576)∧(0≤d∧d≤c)) by omega)];exact kidFits_3 a b c d w wb (decide_eq_true h0) h1 (decide_eq_true h2) (decide_eq_false h3)
 rw [show okC true ⟨a,b,c,d⟩=true from decide_eq_true (show ((2≤a∧a≤4095)∧1≤b∧(b≤c∧c≤1048576)∧(0≤d∧d≤c)) by omega)];exact kidFits_4 a b c d w wb (decide_eq_true h0) h1 (decide_eq_true h2) (decide_eq_true h3)
end Go.Proofs.YtjllhcifmfhkmaaGreat.Oct
namespace Go.Proofs.YtjllhcifmfhkmaaGreat.Oct
open Go.RowKit
def Fd4 (t:Bool) (w:World) (F B:Nat):Prop:=∀k,k<4→w.cell? ⟨F,k*2,none⟩=some (.int .i64 (wdC t k:Nat))∧w.cell? ⟨F,k*2+1,none⟩=some (.pointer (some ⟨B,k,none⟩))
theorem Fd4.lt {t:Bool} {w:World} {F B:Nat} (h:Fd4 t w F B):F<w.heap.size:=block_lt_of_cell (h 0 (by omega)).1
theorem Fd4.same {t:Bool} {w w1:World} {F B:Nat} (h:Fd4 t w F B) (k:w1.heap[F]?=w.heap[F]?):Fd4 t w1 F B:=fun i hi=>by
 obtain ⟨h0,h1⟩:=h i hi;exact ⟨(World.cell?_of_block k).trans h0,(World.cell?_of_block k).trans h1⟩
theorem Fd4.below {t:Bool} {w w1:World} {F B:Nat} (h:Fd4 t w F B) (k:Below w.heap.size w w1):Fd4 t w1 F B:=h.same (k.block F h.lt)
theorem pieceFd_new (w:World) (B:Nat) (t:TypeId):Fd4 false (w.alloc (.cells #[.int .i64 4,.pointer (some ⟨B,0,none⟩),.int .i64 2,.pointer (some ⟨B,1,none⟩),.int .i64 2,.pointer (some ⟨B,2,none⟩),.int .i64 2,.pointer (some ⟨B,3,none⟩)] t)) w.heap.size B:=by
 intro k hk;rcases four hk with rfl|rfl|rfl|rfl<;>simp [World.cell?_alloc_at,wdC]
set_option maxRecDepth 20000 in
theorem pieceFields_v (B:Nat) (w:World):
  Calls Tryz.prog 139 #[.pointer (some ⟨B,0,none⟩)] w fun e w'=>e=.returned (.slice (some ⟨w.heap.size,0,none⟩) 4 4)∧Fd4 false w' w.heap.size B∧Below w.heap.size w w':=by
 go_enter Tryz.func139,Tryz.ntmps139
 go_wp2_with fail
 go_still_tail 16,(by kernel_rfl)
 go_wp2;go_ret
 exact ⟨rfl,(pieceFd_new w B 203).same rfl,((Below.refl _ _).alloc (Nat.le_refl _) _).drew⟩
theorem kidFd_new (w:World) (B:Nat) (t:TypeId):Fd4 true (w.alloc (.cells #[.int .i64 4,.pointer (some ⟨B,0,none⟩),.int .i64 4,.pointer (some ⟨B,1,none⟩),.int .i64 8,.pointer (some ⟨B,2,none⟩),.int .i64 4,.pointer (some ⟨B,3,none⟩)] t)) w.heap.size B:=by
 intro k hk;rcases four hk with rfl|rfl|rfl|rfl<;>simp [World.cell?_alloc_at,wdC]
set_option maxRecDepth 20000 in
theorem kidFields_v (B:Nat) (w:World):
  Calls Tryz.prog 142 #[.pointer (some ⟨B,0,none⟩)] w fun e w'=>e=.returned (.slice (some ⟨w.heap.size,0,none⟩) 4 4)∧Fd4 true w' w.heap.size B∧Below w.heap.size w w':=by
 go_enter Tryz.func142,Tryz.ntmps142
 go_wp2_with fail
 go_still_tail 16,(by kernel_rfl)
 go_wp2;go_ret
 exact ⟨rfl,(kidFd_new w B 203).same rfl,((Below.refl _ _).alloc (Nat.le_refl _) _).drew⟩
end Go.Proofs.YtjllhcifmfhkmaaGreat.Oct
