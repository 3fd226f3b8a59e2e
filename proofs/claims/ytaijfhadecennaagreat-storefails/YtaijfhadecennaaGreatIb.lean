/- Part of a proof. -/
import Derived.Test.YtaijfhadecennaaGreatGm
import Derived.RegionTactic
import Derived.BigRegion
import Derived.ChangeAlike
import Derived.Defers
import Derived.Recover
import Derived.Laws.Rows
open Go.Proofs.Tryz
set_option maxHeartbeats 4000000
namespace Go.Proofs.YtaijfhadecennaaGreat.Oct
open Go.RowKit
def cyc (e:Nat) (bs:List Nat) (i:Nat):Nat:=(e::(bs++[e])).getD i e
theorem KB (e:Nat) (bs:List Nat):cyc e bs 0=e:=rfl
theorem ZC (e:Nat) (bs:List Nat):cyc e bs (bs.length+1)=e:=by simp [cyc]
theorem JD (e:Nat) (bs:List Nat) (i:Nat) (hi:i<bs.length):cyc e bs (i+1)=bs.getD i e:=by
 simp [cyc,qP hi]
theorem zN (e:Nat) (bs:List Nat) (i:Nat):cyc e bs i∈e::bs:=by
 rcases i with _|i
 ·simp [KB]
 ·by_cases hi:i<bs.length
  ·rw [JD _ _ _ hi,jA,jC hi];exact jM _ (qB hi)
  ·simp only [cyc,jA,qK,qY (by omega:bs.length<=i)];cases h:i-bs.length<;>simp
theorem GM {e:Nat} {bs:List Nat} (hn:(e::bs).Nodup) {i j:Nat} (hi:i<=bs.length) (hj:j<=bs.length) (h:cyc e bs i=cyc e bs j):i=j:=by
 have key:∀k,k<=bs.length->cyc e bs k=(e::bs).getD k e:=by
  intro k hk;rcases k with _|k
  ·rfl
  ·rw [JD _ _ _ (by omega)];rfl
 rw [key i hi,key j hj,jA,jA,jC (by simp;omega),jC (by simp;omega)] at h;have hp:=List.pairwise_iff_getElem.1 hn;simp only [qJ] at h;rcases Nat.lt_trichotomy i j with h1|h1|h1
 ·exact absurd h (hp i j _ _ h1)
 ·exact h1
 ·exact absurd h.symm (hp j i _ _ h1)
theorem getD_erase (bs:List Nat) (e i j:Nat):(bs.eraseIdx i).getD j e=if j<i then bs.getD j e else bs.getD (j+1) e:=by
 simp only [jA,List.getElem?_eraseIdx];split<;>rfl
theorem FF (e:Nat) (bs:List Nat) (i j:Nat) (hi:i<bs.length) (hj:j<=bs.length):cyc e (bs.eraseIdx i) j=if j<=i then cyc e bs j else cyc e bs (j+1):=by
 have hl:(bs.eraseIdx i).length=bs.length-1:=xF hi;rcases j with _|j
 ·simp [KB]
 ·by_cases hj':j<bs.length-1
  ·rw [JD _ _ _ (by omega),getD_erase];by_cases h:j<i
   ·rw [if_pos h,if_pos (by omega),JD _ _ _ (by omega)]
   ·rw [if_neg h,if_neg (by omega),JD _ _ _ (by omega)]
  ·have e1:j+1=(bs.eraseIdx i).length+1:=by omega
   rw [e1,ZC,if_neg (by omega),show (bs.eraseIdx i).length+1+1=bs.length+1 by omega,ZC]
theorem KC (e:Nat) (bs:List Nat) (g j:Nat) (hj:j<=bs.length):cyc e (bs++[g]) j=cyc e bs j:=by
 rcases j with _|j
 ·rfl
 ·rw [JD _ _ _ (by simp;omega),JD _ _ _ (by omega)];simp [qP (show j<bs.length by omega)]
theorem FE (e:Nat) (bs:List Nat) (g:Nat):cyc e (bs++[g]) (bs.length+1)=g:=by
 rw [JD _ _ _ (by simp)];simp
theorem cyc_snoc2 (e:Nat) (bs:List Nat) (g:Nat):cyc e (bs++[g]) (bs.length+2)=e:=by
 have:=ZC e (bs++[g])
 simpa using this
def upF {α:Type} (f:Nat->α) (g:Nat) (v:α):Nat->α:=fun x=>if x=g then v else f x
theorem yV {α:Type} (f:Nat->α) (g:Nat) (v:α):upF f g v g=v:=by simp [upF]
theorem yT {α:Type} (f:Nat->α) {g x:Nat} (v:α) (h:x≠g):upF f g v x=f x:=by simp [upF,h]
def Ring (e:Nat) (bs:List Nat) (ol nw:Nat->Nat):Prop:=∀i,i<=bs.length->nw (cyc e bs i)=cyc e bs (i+1)/\ol (cyc e bs (i+1))=cyc e bs i
theorem Ring.out {e:Nat} {bs:List Nat} {ol nw:Nat->Nat} (h:Ring e bs ol nw) (hn:(e::bs).Nodup) (i:Nat) (hi:i<bs.length):
  Ring e (bs.eraseIdx i) (upF ol (cyc e bs (i+2)) (cyc e bs i)) (upF nw (cyc e bs i) (cyc e bs (i+2))):=by
 have hl:(bs.eraseIdx i).length=bs.length-1:=xF hi;have hinj:=fun {a b:Nat} (ha:a<=bs.length) (hb:b<=bs.length) (hab:cyc e bs a=cyc e bs b)=>GM hn ha hb hab
 have hend:cyc e bs (bs.length+1)=cyc e bs 0:=by rw [ZC,KB]
 have inj2:∀{a b:Nat},1<=a->1<=b->a<=bs.length+1->b<=bs.length+1->cyc e bs a=cyc e bs b->a=b:=by
  intro a b h1 h2 h3 h4 hab;by_cases ha:a=bs.length+1
  ·by_cases hb:b=bs.length+1
   ·omega
   ·rw [ha,hend] at hab;have:=hinj (by omega) (by omega) hab;omega
  ·by_cases hb:b=bs.length+1
   ·rw [hb,hend] at hab;have:=hinj (by omega) (by omega) hab;omega
   ·exact hinj (by omega) (by omega) hab
 intro j hj;rw [hl] at hj;rw [FF _ _ _ _ hi (by omega),FF _ _ _ _ hi (by omega)];by_cases h1:j<i
 ·rw [if_pos (by omega),if_pos (by omega)];refine ⟨?_,?_⟩
  ·rw [yT _ _ (fun e1=>by have:=hinj (by omega) (by omega) e1;omega)];exact (h j (by omega)).1
  ·rw [yT _ _ (fun e1=>by have:=inj2 (by omega) (by omega) (by omega) (by omega) e1;omega)];exact (h j (by omega)).2
 ·by_cases h2:j=i
  ·subst h2;rw [if_pos (by omega),if_neg (by omega)];exact ⟨yV _ _ _,yV _ _ _⟩
  ·rw [if_neg (by omega),if_neg (by omega)];refine ⟨?_,?_⟩
   ·rw [yT _ _ (fun e1=>by have:=hinj (by omega) (by omega) e1;omega)];exact (h (j+1) (by omega)).1
   ·rw [yT _ _ (fun e1=>by have:=inj2 (by omega) (by omega) (by omega) (by omega) e1;omega)];exact (h (j+1) (by omega)).2
theorem Ring.snoc {e:Nat} {bs:List Nat} {ol nw:Nat->Nat} (h:Ring e bs ol nw) (hn:(e::bs).Nodup) (g:Nat) (hg:g∉e::bs):
  Ring e (bs++[g]) (upF (upF ol g (cyc e bs bs.length)) e g) (upF (upF nw g e) (cyc e bs bs.length) g):=by
 have hne:∀k,cyc e bs k≠g:=fun k e1=>hg (e1▸zN e bs k)
 intro j hj;simp only [jN,qN,yG,qT] at hj;by_cases h1:j<bs.length
 ·rw [KC _ _ _ _ (by omega),KC _ _ _ _ (by omega)];have h0:cyc e bs (j+1)≠e:=fun e1=>by have:=GM hn (i:=j+1) (j:=0) (by omega) (by omega) e1;omega
  refine ⟨?_,?_⟩
  ·rw [yT _ _ (fun e1=>by have:=GM hn (by omega) (by omega) e1;omega),yT _ _ (hne _)];exact (h j (by omega)).1
  ·rw [yT _ _ h0,yT _ _ (hne _)];exact (h j (by omega)).2
 ·by_cases h2:j=bs.length
  ·subst h2;rw [KC _ _ _ _ (by omega),FE];refine ⟨yV _ _ _,?_⟩;rw [yT _ _ (fun e1=>hg (by rw [e1];simp)),yV]
  ·have h3:j=bs.length+1:=by omega
   subst h3;rw [FE,cyc_snoc2];refine ⟨?_,yV _ _ _⟩;rw [yT _ _ (fun e1=>hne _ e1.symm),yV]
def psOf (bs:List Nat) (fr:Nat->Fr):List (Nat × Nat):=bs.map fun g=>((fr g).page,g)
structure PoolC (w:World) (p d m e N np:Nat) (bs:List Nat) (fr:Nat->Fr) (ol nw:Nat->Nat):Prop where
 cells:w.heap[p]?=some (.cells #[.pointer (some ⟨d,0,none⟩),.int .i64 N,.map (some m),.pointer (some ⟨e,0,none⟩)] 121 (0,0))
 held:Held w m (psOf bs fr)
 node:∀g∈e::bs,Node w g (fr g) (ol g) (nw g)
 ring:Ring e bs ol nw
 ok:∀g∈e::bs,(fr g).ok
 pg:∀g∈bs,(fr g).page<np
 ap:(p::m::e::bs).Nodup
 n8:8<=N
 n4:N<=4096
 len:bs.length<=N
 np4:np<=4096
theorem PoolC.apart {w:World} {p d m e N np:Nat} {bs:List Nat} {fr:Nat->Fr} {ol nw:Nat->Nat} (h:PoolC w p d m e N np bs fr ol nw):
  p≠m/\p∉e::bs/\m∉e::bs/\(e::bs).Nodup/\e∉bs/\bs.Nodup:=by
 have:=h.ap;simp only [xK,yK,not_or] at this;obtain ⟨⟨a1,a2,a3⟩,⟨b1,b2⟩,c1,c2⟩:=this;refine ⟨a1,by simp [a2,a3],by simp [b1,b2],by simp [c1,c2],c1,c2⟩
theorem PoolC.at {w:World} {p d m e N np:Nat} {bs:List Nat} {fr:Nat->Fr} {ol nw:Nat->Nat} (h:PoolC w p d m e N np bs fr ol nw):
  w.cell? ⟨p,0,none⟩=some (.pointer (some ⟨d,0,none⟩))/\w.cell? ⟨p,1,none⟩=some (.int .i64 N)/\w.cell? ⟨p,2,none⟩=some (.map (some m))/\w.cell? ⟨p,3,none⟩=some (.pointer (some ⟨e,0,none⟩)):=by
 have hc:=h.cells;refine ⟨?_,?_,?_,?_⟩
 all_goals (rw [cell_of_row w p _ _ _ (0,0) hc];rfl)
def footP (p m e:Nat) (bs:List Nat) (k:Nat):Prop:=k=p\/k=m\/k∈e::bs
theorem PoolC.keep {w w':World} {p d m e N np:Nat} {bs:List Nat} {fr:Nat->Fr} {ol nw:Nat->Nat} (h:PoolC w p d m e N np bs fr ol nw) (k:∀g,footP p m e bs g->w'.heap[g]?=w.heap[g]?):PoolC w' p d m e N np bs fr ol nw:=
 {h with
  cells:=(k p (.inl rfl)).trans h.cells
  held:=h.held.keep (k m (.inr (.inl rfl)))
  node:=fun g hg=>(h.node g hg).keep (k g (.inr (.inr hg)))}
theorem PoolC.lt {w:World} {p d m e N np:Nat} {bs:List Nat} {fr:Nat->Fr} {ol nw:Nat->Nat} (h:PoolC w p d m e N np bs fr ol nw):∀g,footP p m e bs g->g<w.heap.size:=by
 intro g hg;rcases hg with rfl|rfl|hg
 ·exact yR h.cells
 ·exact h.held.lt
 ·exact yR (h.node g hg)
theorem PoolC.re {w w':World} {p d m e N np:Nat} {bs:List Nat} {fr fr':Nat->Fr} {ol nw:Nat->Nat} (h:PoolC w p d m e N np bs fr ol nw)
  (hp:w'.heap[p]?=w.heap[p]?) (hm:w'.heap[m]?=w.heap[m]?) (hn:∀g∈e::bs,Node w' g (fr' g) (ol g) (nw g)) (hok:∀g∈e::bs,(fr' g).ok) (hpg:∀g,(fr' g).page=(fr g).page):PoolC w' p d m e N np bs fr' ol nw:=
 {h with
  cells:=hp.trans h.cells
  held:=by
   have e1:psOf bs fr'=psOf bs fr:=by simp only [psOf];exact xC (fun g _=>by rw [hpg])
   rw [e1];exact h.held.keep hm
  node:=hn
  ok:=hok
  pg:=fun g hg=>by rw [hpg];exact h.pg g hg}
theorem vQ {bs:List Nat} {fr:Nat->Fr} {k:Int} {g:Nat} (h:findP (psOf bs fr) k=some g):g∈bs/\k=(fr g).page:=by
 obtain ⟨pg,hk,hm⟩:=XY h;simp only [psOf,List.mem_map,xQ] at hm;obtain ⟨g',hg',h1,h2⟩:=hm;subst h2;exact ⟨hg',by rw [hk,h1]⟩
structure PD (w:World) (p d m e N:Nat) (Fd F:Nat->Prop) (D:Dv) (bs:List Nat) (fr:Nat->Fr) (ol nw:Nat->Nat):Prop where
 dev:Dev w d Fd D
 pool:PoolC w p d m e N D.n bs fr ol nw
 fd:∀k,Fd k->F k/\¬footP p m e bs k
 fp:∀k,footP p m e bs k->F k
 flt:∀k,F k->k<w.heap.size
theorem PD.keep {w w':World} {p d m e N:Nat} {Fd F:Nat->Prop} {D:Dv} {bs:List Nat} {fr:Nat->Fr} {ol nw:Nat->Nat} (h:PD w p d m e N Fd F D bs fr ol nw) (hs:w.heap.size<=w'.heap.size) (k:∀g,F g->w'.heap[g]?=w.heap[g]?):PD w' p d m e N Fd F D bs fr ol nw:=
 ⟨h.dev.keep hs (fun g hg=>k g (h.fd g hg).1),h.pool.keep (fun g hg=>k g (h.fp g hg)),h.fd,h.fp,fun g hg=>qA (h.flt g hg) hs⟩
theorem PD.ch {w w':World} {p d m e N:Nat} {Fd F G:Nat->Prop} {D:Dv} {bs:List Nat} {fr:Nat->Fr} {ol nw:Nat->Nat} (h:PD w p d m e N Fd F D bs fr ol nw) (hc:Ch w.heap.size G w w') (hd:∀k,F k->¬G k):PD w' p d m e N Fd F D bs fr ol nw:=
 h.keep hc.size (fun g hg=>hc.block g (h.flt g hg) (hd g hg))
theorem PD.below {w w':World} {p d m e N:Nat} {Fd F:Nat->Prop} {D:Dv} {bs:List Nat} {fr:Nat->Fr} {ol nw:Nat->Nat} (h:PD w p d m e N Fd F D bs fr ol nw) (hc:Below w.heap.size w w'):PD w' p d m e N Fd F D bs fr ol nw:=
 h.ch (Ch.of (fun _=>False) hc) (fun _ _ h=>h)
theorem PD.turn {w w':World} {p d m e N:Nat} {Fd F Fd':Nat->Prop} {D D':Dv} {bs:List Nat} {fr:Nat->Fr} {ol nw:Nat->Nat} (h:PD w p d m e N Fd F D bs fr ol nw)
  (h':Dev w' d Fd' D') (hn:D'.n=D.n) (hs:Step Fd Fd' w w'):PD w' p d m e N Fd' (fun k=>F k\/w.heap.size<=k/\k<w'.heap.size) D' bs fr ol nw/\Step F (fun k=>F k\/w.heap.size<=k/\k<w'.heap.size) w w':=by
 have hlt:=h.pool.lt;have hsz:=hs.1.size;refine ⟨⟨h',?_,fun k hk=>?_,fun k hk=>.inl (h.fp k hk),fun k hk=>?_⟩,hs.1.mono (jB _) (fun k _ hk=>(h.fd k hk).1),fun k hk=>?_⟩
 ·rw [hn];exact h.pool.keep (fun g hg=>hs.1.block g (hlt g hg) (fun e1=>(h.fd g e1).2 hg))
 ·rcases hs.2 k hk with h1|h1
  ·exact ⟨.inl (h.fd k h1).1,(h.fd k h1).2⟩
  ·exact ⟨.inr ⟨h1,h'.2.1 k hk⟩,fun e1=>by have:=hlt k e1;omega⟩
 ·rcases hk with hk|hk
  ·have:=h.flt k hk;omega
  ·exact hk.2
 ·rcases hk with hk|hk
  ·exact .inl hk
  ·exact .inr hk.1
def Pool (w:World) (p d:Nat) (F:Nat->Prop) (D:Dv) (N:Nat) (L:List Fr):Prop:=
 ∃(Fd:Nat->Prop) (m e:Nat) (bs:List Nat) (fr:Nat->Fr) (ol nw:Nat->Nat),PD w p d m e N Fd F D bs fr ol nw/\L=bs.map fr
theorem Pool.lt {w:World} {p d:Nat} {F:Nat->Prop} {D:Dv} {N:Nat} {L:List Fr} (h:Pool w p d F D N L):∀k,F k->k<w.heap.size:=by
 obtain ⟨Fd,m,e,bs,fr,ol,nw,h1,_⟩:=h;exact h1.flt
theorem Pool.keep {w w':World} {p d:Nat} {F:Nat->Prop} {D:Dv} {N:Nat} {L:List Fr} (h:Pool w p d F D N L) (hs:w.heap.size<=w'.heap.size) (k:∀g,F g->w'.heap[g]?=w.heap[g]?):Pool w' p d F D N L:=by
 obtain ⟨Fd,m,e,bs,fr,ol,nw,h1,h2⟩:=h;exact ⟨Fd,m,e,bs,fr,ol,nw,h1.keep hs k,h2⟩
theorem Pool.ch {w w':World} {p d:Nat} {F G:Nat->Prop} {D:Dv} {N:Nat} {L:List Fr} (h:Pool w p d F D N L) (hc:Ch w.heap.size G w w') (hd:∀k,F k->¬G k):Pool w' p d F D N L:=
 h.keep hc.size (fun g hg=>hc.block g (h.lt g hg) (hd g hg))
theorem Pool.below {w w':World} {p d:Nat} {F:Nat->Prop} {D:Dv} {N:Nat} {L:List Fr} (h:Pool w p d F D N L) (hc:Below w.heap.size w w'):Pool w' p d F D N L:=
 h.ch (Ch.of (fun _=>False) hc) (fun _ _ h=>h)
theorem ZH (w:World) (g n:Nat) (h:w.cell? ⟨g,258,none⟩=some (.int .i64 n)):
  Calls prog 125 #[.pointer (some ⟨g,0,none⟩)] w fun e w'=>e=.returned (.bool (decide (0<n)))/\w=w':=by
 go_enter func125,ntmps125
 go_wp2;go_ret
 refine ⟨?_,rfl⟩
 congr 2
def Mem (w w':World):Prop:=w'.heap=w.heap/\w'.os=w.os/\w'.tape=w.tape/\w'.output=w.output
theorem VE (w:World) (g a c:Nat) (va vc:Value) (h1:w.cell? ⟨g,259,none⟩=some (.pointer (some ⟨a,0,none⟩))) (h2:w.cell? ⟨g,260,none⟩=some (.pointer (some ⟨c,0,none⟩)))
  (h3:w.cell? ⟨a,260,none⟩=some va) (h4:w.cell? ⟨c,259,none⟩=some vc) (z1:w.frozen? ⟨a,260,none⟩=false) (z2:w.frozen? ⟨c,259,none⟩=false):
  Calls prog 157 #[.pointer (some ⟨g,0,none⟩)] w fun e w'=>e=.returned (.tuple #[])/\Mem ((w.setCell ⟨a,260,none⟩ (.pointer (some ⟨c,0,none⟩))).setCell ⟨c,259,none⟩ (.pointer (some ⟨a,0,none⟩))) w':=by
 go_enter func157,ntmps157
 go_wp2;go_region
 all_goals (go_end0;exact ⟨rfl,rfl,rfl,rfl,rfl⟩)
theorem link_any (w:World) (g e a:Nat) (v1 v2 va:Value) (h0:w.cell? ⟨e,259,none⟩=some (.pointer (some ⟨a,0,none⟩))) (h1:w.cell? ⟨g,259,none⟩=some v1) (h2:w.cell? ⟨g,260,none⟩=some v2)
  (h3:w.cell? ⟨a,260,none⟩=some va) (z1:w.frozen? ⟨a,260,none⟩=false) (z2:w.frozen? ⟨e,259,none⟩=false) (z3:w.frozen? ⟨g,259,none⟩=false) (z4:w.frozen? ⟨g,260,none⟩=false) (hag:¬a=g) (heg:¬e=g):
  Calls prog 158 #[.pointer (some ⟨g,0,none⟩),.pointer (some ⟨e,0,none⟩)] w fun x w'=>x=.returned (.tuple #[])/\Mem ((((w.setCell ⟨g,259,none⟩ (.pointer (some ⟨a,0,none⟩))).setCell ⟨g,260,none⟩ (.pointer (some ⟨e,0,none⟩))).setCell ⟨a,260,none⟩ (.pointer (some ⟨g,0,none⟩))).setCell ⟨e,259,none⟩ (.pointer (some ⟨g,0,none⟩))) w':=by
 go_enter func158,ntmps158
 go_wp2
 obtain ⟨w1,hw1,a1,a2,a3,a4,y1,y2⟩:∃w1,(w.setCell ⟨g,259,none⟩ (.pointer (some ⟨a,0,none⟩))).setCell ⟨g,260,none⟩ (.pointer (some ⟨e,0,none⟩))=w1/\w1.cell? ⟨g,259,none⟩=some (.pointer (some ⟨a,0,none⟩))/\w1.cell? ⟨g,260,none⟩=some (.pointer (some ⟨e,0,none⟩))/\w1.cell? ⟨a,260,none⟩=some va/\w1.cell? ⟨e,259,none⟩=some (.pointer (some ⟨a,0,none⟩))/\w1.frozen? ⟨a,260,none⟩=false/\w1.frozen? ⟨e,259,none⟩=false:=
  ⟨_,rfl,by go_simp,by go_simp,by go_simp,by go_simp,by go_simp,by go_simp⟩
 simp only [hw1];have HW:Hid ((w.setCell ⟨g,259,none⟩ (.pointer (some ⟨a,0,none⟩))).setCell ⟨g,260,none⟩ (.pointer (some ⟨e,0,none⟩))=w1):=hw1;clear hw1 h0 h1 h2 h3 z1 z2 z3 z4;go_region
 all_goals (go_end0;exact ⟨rfl,by rw [HW.out];exact ⟨rfl,rfl,rfl,rfl⟩⟩)
def thrown (k:Int):Ending:=.panicked [{v:=.iface 25 (.int .i64 k),recovered:=false}]
theorem check_ok (w:World):Calls prog 172 #[.int .i64 0] w fun e w'=>e=.returned (.tuple #[])/\w=w':=by
 go_enter func172,ntmps172
 go_wp2;go_end0
 exact ⟨rfl,rfl⟩
theorem check_no (k:Int) (hk:¬k=0) (w:World):Calls prog 172 #[.int .i64 k] w fun e w'=>e=thrown k/\w=w':=by
 have hk':(k !=0)=true:=by simpa using hk
 go_enter func172,ntmps172
 go_wp2;exact ⟨rfl,rfl,rfl⟩
theorem as_err (v:Value) (w:World):(Instr.typeAssert (.iface 25 v) 20 25 false).run prog w=.ok v w:=by kernel_rfl
theorem UC (q:Addr) (x k:Int) (older:List PanicEntry) (w:World) (hq:w.cell? q=some (.int .i64 x)) (hqz:w.frozen? q=false):
  CallsD prog 155 #[.pointer (some q)] (.panicking ({v:=.iface 25 (.int .i64 k),recovered:=false}::older)) w fun e u' w'=>
   e=.returned (.tuple #[])/\u'=.panicking ({v:=.iface 25 (.int .i64 k),recovered:=true}::older)/\w'=w.setCell q (.int .i64 k):=by
 refine callsD_of_wpS func155 rfl fun c₀ cs hu=>?_
 apply wpS_seq;apply wpS_region;simp [wpOpsS,go_sem,recoverD,hu,ntmps155,Exit.thenS];apply wpS_seq;apply wpS_region;simp [wpOpsS,go_sem,Exit.thenS];refine wpS_cond (t:=true) (by simp [Act.eval,Array.replicate]) ?_;simp only [if_true];apply wpS_region;simp [wpOpsS,go_sem,hq,hqz,as_err,bodyPostS,results,Tryz.results155]
theorem KL (q:Addr) (w:World):
  CallsD prog 155 #[.pointer (some q)] .returning w fun e u' w'=>e=.returned (.tuple #[])/\u'=.returning/\w'=w:=by
 refine callsD_of_wpS func155 rfl fun c₀ cs hu=>?_
 apply wpS_seq;apply wpS_region;simp [wpOpsS,go_sem,recoverD,hu,ntmps155,Exit.thenS];apply wpS_seq;apply wpS_region;simp [wpOpsS,go_sem,Exit.thenS];refine wpS_cond (t:=false) (by simp [Act.eval,Array.replicate]) ?_;simp only [yC,if_false];refine wpS_of_wp (wp_skip ?_);cases c₀
 simp_all [bodyPostS,results,Tryz.results155]
def CEnd (k:Int) (e:Ending):Prop:=(k=0/\e=.returned (.tuple #[]))\/(¬k=0/\e=thrown k)
def ErrAt (w:World) (q:Nat):Prop:=w.heap[q]?=some (.cells #[.int .i64 0] 25 (0,0))
theorem ErrAt.at {w:World} {q:Nat} (h:ErrAt w q):w.cell? ⟨q,0,none⟩=some (.int .i64 0)/\w.frozen? ⟨q,0,none⟩=false:=by
 unfold ErrAt at h;refine ⟨?_,?_⟩
 ·rw [cell_of_row w q _ _ _ (0,0) h];rfl
 ·unfold World.frozen?;rw [h];simp
theorem GK (w:World):ErrAt (w.alloc (.cells #[.int .i64 0] 25)) w.heap.size:=heap_alloc_new w _
theorem caught_Pin (w:World) (cap:Array Value) (R:Int->World->Prop)
  (hc:Calls prog 126 cap (w.alloc (.cells #[.int .i64 0] 25)) fun e w1=>∃k,CEnd k e/\R k w1/\ErrAt w1 w.heap.size):
  Calls prog 105 #[.func (.func 126) #[] cap] w fun e w'=>∃k w1,e=.returned (.int .i64 k)/\R k w1/\ErrAt w1 w.heap.size/\w'=w1.setCell ⟨w.heap.size,0,none⟩ (.int .i64 k):=by
 have hmf:∀(fn:Fn) (first cap:Array Value) (w:World),(Instr.makeFunc fn first cap).run prog w=.ok (.func fn first cap) w:=fun _ _ _ _=>rfl
 go_enter_defers func105,ntmps105
 go_wp2_with fail
 refine hc.mono ?_;clear hc;rintro e w1 ⟨k,hend,hr,he⟩;obtain ⟨c0,z0⟩:=he.at;have q0:∀x:Value,(w1.setCell ⟨w.heap.size,0,none⟩ x).cell? ⟨w.heap.size,0,none⟩=some x:=fun x=>World.cell?_setCell_same _ _ _ c0
 have HR:Hid (R k w1):=hr;have HE:Hid (ErrAt w1 w.heap.size):=he;clear hr he;rcases hend with ⟨rfl,rfl⟩|⟨hk,rfl⟩
 ·go_wp2;refine leaves_cons (f:=155) (args:= #[.pointer (some ⟨w.heap.size,0,none⟩)]) (by simp) (by simp [go_sem]) ?_;refine (KL ⟨w.heap.size,0,none⟩ _).mono ?_;rintro e u' w'' ⟨rfl,rfl,rfl⟩;simp [Leaves,settle,results,Tryz.results105,go_sem,q0];exact ⟨w1,HR.out,HE.out,rfl⟩
 ·clear hk;unfold thrown;go_wp2;refine leaves_cons (f:=155) (args:= #[.pointer (some ⟨w.heap.size,0,none⟩)]) (by simp) (by simp [go_sem]) ?_;refine (UC ⟨w.heap.size,0,none⟩ 0 k [] _ c0 z0).mono ?_;rintro e u' w'' ⟨rfl,rfl,rfl⟩;simp [Leaves,settle,results,Tryz.results105,go_sem,q0];exact ⟨w1,HR.out,HE.out,rfl⟩
theorem caught_Put (w:World) (cap:Array Value) (R:Int->World->Prop)
  (hc:Calls prog 106 cap (w.alloc (.cells #[.int .i64 0] 25)) fun e w1=>∃k,CEnd k e/\R k w1/\ErrAt w1 w.heap.size):
  Calls prog 105 #[.func (.func 106) #[] cap] w fun e w'=>∃k w1,e=.returned (.int .i64 k)/\R k w1/\ErrAt w1 w.heap.size/\w'=w1.setCell ⟨w.heap.size,0,none⟩ (.int .i64 k):=by
 have hmf:∀(fn:Fn) (first cap:Array Value) (w:World),(Instr.makeFunc fn first cap).run prog w=.ok (.func fn first cap) w:=fun _ _ _ _=>rfl
 go_enter_defers func105,ntmps105
 go_wp2_with fail
 refine hc.mono ?_;clear hc;rintro e w1 ⟨k,hend,hr,he⟩;obtain ⟨c0,z0⟩:=he.at;have q0:∀x:Value,(w1.setCell ⟨w.heap.size,0,none⟩ x).cell? ⟨w.heap.size,0,none⟩=some x:=fun x=>World.cell?_setCell_same _ _ _ c0
 have HR:Hid (R k w1):=hr;have HE:Hid (ErrAt w1 w.heap.size):=he;clear hr he;rcases hend with ⟨rfl,rfl⟩|⟨hk,rfl⟩
 ·go_wp2;refine leaves_cons (f:=155) (args:= #[.pointer (some ⟨w.heap.size,0,none⟩)]) (by simp) (by simp [go_sem]) ?_;refine (KL ⟨w.heap.size,0,none⟩ _).mono ?_;rintro e u' w'' ⟨rfl,rfl,rfl⟩;simp [Leaves,settle,results,Tryz.results105,go_sem,q0];exact ⟨w1,HR.out,HE.out,rfl⟩
 ·clear hk;unfold thrown;go_wp2;refine leaves_cons (f:=155) (args:= #[.pointer (some ⟨w.heap.size,0,none⟩)]) (by simp) (by simp [go_sem]) ?_;refine (UC ⟨w.heap.size,0,none⟩ 0 k [] _ c0 z0).mono ?_;rintro e u' w'' ⟨rfl,rfl,rfl⟩;simp [Leaves,settle,results,Tryz.results105,go_sem,q0];exact ⟨w1,HR.out,HE.out,rfl⟩
theorem GP (w:World) (cap:Array Value) (R:Int->World->Prop)
  (hc:Calls prog 178 cap (w.alloc (.cells #[.int .i64 0] 25)) fun e w1=>∃k,CEnd k e/\R k w1/\ErrAt w1 w.heap.size):
  Calls prog 105 #[.func (.func 178) #[] cap] w fun e w'=>∃k w1,e=.returned (.int .i64 k)/\R k w1/\ErrAt w1 w.heap.size/\w'=w1.setCell ⟨w.heap.size,0,none⟩ (.int .i64 k):=by
 have hmf:∀(fn:Fn) (first cap:Array Value) (w:World),(Instr.makeFunc fn first cap).run prog w=.ok (.func fn first cap) w:=fun _ _ _ _=>rfl
 go_enter_defers func105,ntmps105
 go_wp2_with fail
 refine hc.mono ?_;clear hc;rintro e w1 ⟨k,hend,hr,he⟩;obtain ⟨c0,z0⟩:=he.at;have q0:∀x:Value,(w1.setCell ⟨w.heap.size,0,none⟩ x).cell? ⟨w.heap.size,0,none⟩=some x:=fun x=>World.cell?_setCell_same _ _ _ c0
 have HR:Hid (R k w1):=hr;have HE:Hid (ErrAt w1 w.heap.size):=he;clear hr he;rcases hend with ⟨rfl,rfl⟩|⟨hk,rfl⟩
 ·go_wp2;refine leaves_cons (f:=155) (args:= #[.pointer (some ⟨w.heap.size,0,none⟩)]) (by simp) (by simp [go_sem]) ?_;refine (KL ⟨w.heap.size,0,none⟩ _).mono ?_;rintro e u' w'' ⟨rfl,rfl,rfl⟩;simp [Leaves,settle,results,Tryz.results105,go_sem,q0];exact ⟨w1,HR.out,HE.out,rfl⟩
 ·clear hk;unfold thrown;go_wp2;refine leaves_cons (f:=155) (args:= #[.pointer (some ⟨w.heap.size,0,none⟩)]) (by simp) (by simp [go_sem]) ?_;refine (UC ⟨w.heap.size,0,none⟩ 0 k [] _ c0 z0).mono ?_;rintro e u' w'' ⟨rfl,rfl,rfl⟩;simp [Leaves,settle,results,Tryz.results105,go_sem,q0];exact ⟨w1,HR.out,HE.out,rfl⟩
def frV (f:Fr) (vo vn:Value):List Value:=.int .i64 f.page::(f.b.map (Value.int .u8)++[.bool f.dirty,.int .i64 f.pins,vo,vn])
theorem frV_frC (f:Fr) (o n:Nat):frV f (.pointer (some ⟨o,0,none⟩)) (.pointer (some ⟨n,0,none⟩))=frC f o n:=rfl
theorem frV_set {f:Fr} (h:f.ok) (vo vn x y:Value):((frV f vo vn).set 259 x).set 260 y=frV f x y:=by
 unfold frV;rw [jI,jI,xH _ _ (by simp [h.1]),xH _ _ (by simp [h.1])];simp [h.1]
theorem frV_at {f:Fr} (h:f.ok) (vo vn:Value):(frV f vo vn)[259]?=some vo/\(frV f vo vn)[260]?=some vn:=by
 have hl:=h.1;refine ⟨?_,?_⟩
 iterate 2 (unfold frV;rw [qK,qY (by simp [hl])];simp [hl])
def AllocA:Sem Value:=Instr.alloc 109 true undef
theorem allocA_eq (old:Value):Instr.alloc 109 true old=AllocA:=by simp [AllocA,Instr.alloc]
def StoreA (a v:Value):Sem Unit:=Instr.storeAt 109 a v
theorem YQ (a v:Value):Instr.storeAt 109 a v=StoreA a v:=rfl
def BuildA (ps:Array (Nat × Value)):Sem Value:=Instr.build 109 ps
theorem buildA_eq (ps:Array (Nat × Value)):Instr.build 109 ps=BuildA ps:=rfl
def BuildF (ps:Array (Nat × Value)):Sem Value:=Instr.build 118 ps
theorem FO (ps:Array (Nat × Value)):Instr.build 118 ps=BuildF ps:=rfl
def BoxF (v:Value):Sem Value:=Instr.box 118 v
theorem boxF_eq (v:Value):Instr.box 118 v=BoxF v:=rfl
def zeA:Array Value:=(List.replicate 256 (Value.int .u8 0)).toArray
theorem VA:zeA.size=256:=by unfold zeA;rw [xT,jK]
def zeF:Array Value:=(frV fr0 (.pointer none) (.pointer none)).toArray
theorem build_a (w:World):(BuildA #[]).run prog w=.ok (.agg zeA) w:=by kernel_rfl
theorem build_f0 (w:World):(BuildF #[]).run prog w=.ok (.agg zeF) w:=by kernel_rfl
theorem alloc_a (w:World):AllocA.run prog w=.ok (.pointer (some ⟨w.heap.size,0,none⟩)) (w.alloc (.cells zeA 109)):=by kernel_rfl
theorem box_f (w:World) (cs:Array Value):(BoxF (.agg cs)).run prog w=.ok (.pointer (some ⟨w.heap.size,0,none⟩)) (w.alloc (.cells cs 118)):=by
 simp [BoxF,Instr.box,newVar,newRow,Value.cells]
theorem zero_f (w:World):(zeroValue 118).run prog w=.ok (.agg zeF) w:=by kernel_rfl
theorem infB:(prog.info? 4).map (fun i=>(i.zero.map (·.cells.size),i.size,i.bytes))=some (some 1,1,1):=by kernel_rfl
theorem infP:(prog.info? 116).map (fun i=>(i.zero.map (·.cells.size),i.size,i.bytes))=some (some 1,1,8):=by kernel_rfl
theorem build_f (w:World) (pg:Nat) (zs:List Int) (hl:zs.length=256):(BuildF #[(0,.int .i64 pg),(1,.agg (zs.map (Value.int .u8)).toArray)]).run prog w=.ok (.agg (frV ⟨pg,zs,false,0⟩ (.pointer none) (.pointer none)).toArray) w:=by
 have hz:zeF.size=261:=by
  unfold zeF frV;rw [xT,qN,jN,qU,fr0_ok.1];rfl
 obtain ⟨_,_,h3,_⟩:=zM inf3;obtain ⟨_,_,h62,_⟩:=zM inf62;obtain ⟨_,_,h4,_⟩:=zM infB;obtain ⟨_,_,h50,_⟩:=zM infP;unfold BuildF Instr.build;simp only [Sem.run_bind,zero_f,Result.andThen_ok,run_underlying underlying118];simp [h3,h62,h4,h50];rw [show (Value.agg zeF).cells=zeF from rfl];rw [YZ _ _ 0 0 1 _ _ rfl rfl (by omega)];rw [YZ _ _ 1 1 256 _ _ rfl (by show (zs.map (Value.int .u8)).toArray.size=256;simp [hl]) (by simp [Value.cells,hz])];unfold Instr.fill;simp only [Sem.run_pure,Result.ok.injEq,Value.agg.injEq,and_true]
 congr 1
theorem store_a (w:World) (z:Array Value) (cs:List Value) (hz:z.size=256) (hl:cs.length=256) (h1:∀v∈cs,v.oneCell'=true):(StoreA (.pointer (some ⟨w.heap.size,0,none⟩)) (.agg cs.toArray)).run prog (w.alloc (.cells z 109))=.ok () (w.alloc (.cells cs.toArray 109)):=by
 have:=run_storeVar_new (P:=prog) w 109 z cs.toArray (by rw [size62];simp [hl]) (by simp [hz,hl]) (all_oneCell_toArray h1);simp only [StoreA,Instr.storeAt,Instr.sureAddr,Sem.run_bind,Sem.run_pure,Result.andThen_ok,this]
theorem UO {ops:Array Oper} {rest:List Oper} {o:Oper} {a:Act} {Q:Exit->Act->World->Prop} (w:World) (hg:o.guard=none) (x y:Operand) (hop:o.op=Op.call {callee:=Callee.builtin Builtin.delete,args:= #[x,y],argTypes:= #[119,3]})
  (m pg:Nat) (ps:List (Nat × Nat)) (hx:a.eval x=.map (some m)) (hy:a.eval y=.int .i64 pg) (h:Held w m ps) (hp:pg<=1000000)
  (hK:∀w',Held w' m (ps.filter (fun y=>decide (y.1≠pg)))->w.mapTurned w' m->wpList prog ops Q rest (a.put o.dst (.tuple #[])) w'):wpList prog ops Q (o::rest) a w:=by
 refine wpList_plain hg fun K' hK'=>?_
 obtain ⟨w',hrun,r1,r2⟩:=h.del pg hp o.type;unfold Oper.wp;simp [execOp,hop,resolve,invoke,builtin,hx,hy,hrun,Result.andThen];exact hK' _ _ (hK w' r1 r2)
theorem YC {ops:Array Oper} {rest:List Oper} {o:Oper} {a:Act} {Q:Exit->Act->World->Prop} (w:World) (hg:o.guard=none) (x y v:Operand) (hop:o.op=Op.mapUpdate 119 x y v)
  (m pg g:Nat) (ps:List (Nat × Nat)) (hx:a.eval x=.map (some m)) (hy:a.eval y=.int .i64 pg) (hv:a.eval v=.pointer (some ⟨g,0,none⟩)) (h:Held w m ps) (hp:pg<=1000000) (hl:ps.length<=1000000) (hf:findP ps pg=none)
  (hK:∀w',Held w' m (ps++[(pg,g)])->w.mapTurned w' m->wpList prog ops Q rest (a.put o.dst undef) w'):wpList prog ops Q (o::rest) a w:=by
 refine wpList_plain hg fun K' hK'=>?_
 obtain ⟨w',hrun,r1,r2⟩:=h.put pg g hp hl hf;unfold Oper.wp;simp [execOp,hop,hx,hy,hv,hrun,Result.andThen];exact hK' _ _ (hK w' r1 r2)
section
variable {w:World} {p d m e N:Nat} {Fd F:Nat->Prop} {D:Dv} {bs:List Nat} {fr:Nat->Fr} {ol nw:Nat->Nat}
theorem zV (h:PD w p d m e N Fd F D bs fr ol nw):Calls prog 103 #[.pointer (some ⟨p,0,none⟩)] w fun x w'=>x=.returned (.bool true)/\w=w':=by
 obtain ⟨c0,c1,c2,c3⟩:=h.pool.at;have n8:=h.pool.n8;have hN:0<N:=by omega
 clear h;go_enter func103,ntmps103
 go_wp2;go_ret
 refine ⟨?_,rfl⟩;rfl
theorem UK (h:PD w p d m e N Fd F D bs fr ol nw) (pg:Int):Calls prog 104 #[.pointer (some ⟨p,0,none⟩),.int .i64 pg] w fun x w'=>x=.returned (.bool (hasB D pg))/\w=w':=by
 obtain ⟨c0,c1,c2,c3⟩:=h.pool.at;have hp:=YT h.dev;have ht:∀(b:Bool),b=hasB D pg->Ending.returned (.bool b)=.returned (.bool (hasB D pg)):=fun b h=>by rw [h]
 clear h;by_cases h0:0<=pg
 ·by_cases h1:pg<D.n
  ·go_enter func104,ntmps104
   go_wp2_with (go_at_call 48;refine hp.mono ?_;rintro e w' ⟨rfl,rfl⟩)
   go_ret
   exact ⟨ht _ (by simp [hasB];omega),rfl⟩
  ·go_enter func104,ntmps104
   go_wp2_with (go_at_call 48;refine hp.mono ?_;rintro e w' ⟨rfl,rfl⟩)
   go_ret
   exact ⟨ht _ (by simp [hasB];omega),rfl⟩
 ·go_enter func104,ntmps104
  go_wp2_with (go_at_call 48;refine hp.mono ?_;rintro e w' ⟨rfl,rfl⟩)
  go_ret
  exact ⟨ht _ (by simp [hasB];omega),rfl⟩
theorem Mem.heap {w w':World} (h:Mem w w') (k:Nat):w'.heap[k]?=w.heap[k]?:=by rw [h.1]
theorem Mem.ch {w w':World} (h:Mem w w') (B:Nat) (G:Nat->Prop):Ch B G w w':=⟨h.2.1,h.2.2.1,h.2.2.2,by rw [h.1];exact jB _,fun k _ _=>h.heap k⟩
theorem Mem.drew (w:World):Mem w w.drew:=⟨rfl,rfl,rfl,rfl⟩
theorem Mem.trans {a b c:World} (h:Mem a b) (k:Mem b c):Mem a c:=⟨k.1.trans h.1,k.2.1.trans h.2.1,k.2.2.1.trans h.2.2.1,k.2.2.2.trans h.2.2.2⟩
theorem fR (hn:∀g∈e::bs,Node w g (fr g) (ol g) (nw g)) (hok:∀g∈e::bs,(fr g).ok) (a c:Nat) (x:Nat) (hx:x∈e::bs):
  Node ((w.setCell ⟨a,260,none⟩ (.pointer (some ⟨c,0,none⟩))).setCell ⟨c,259,none⟩ (.pointer (some ⟨a,0,none⟩))) x (fr x) (upF ol c a x) (upF nw a c x):=by
 have o1:∀(W:World) (q i:Nat) (v:Value),x≠q->(W.setCell ⟨q,i,none⟩ v).heap[x]?=W.heap[x]?:=fun W q i v hq=>Below.heap_setCell W ⟨q,i,none⟩ v x hq
 have h0:=hn x hx;have k0:=hok x hx;by_cases h1:x=a
 ·subst h1;rw [yV]
  have s1:Node (w.setCell ⟨x,260,none⟩ (.pointer (some ⟨c,0,none⟩))) x (fr x) (ol x) c:=by
   have:=h0.set 260 (.pointer (some ⟨c,0,none⟩));rw [fJ k0] at this;exact this
  by_cases h2:x=c
  ·subst h2;rw [yV];have:=s1.set 259 (.pointer (some ⟨x,0,none⟩));rw [vI k0] at this;exact this
  ·rw [yT _ _ h2];exact s1.keep (o1 _ _ _ _ h2)
 ·rw [yT _ _ h1];have s1:Node (w.setCell ⟨a,260,none⟩ (.pointer (some ⟨c,0,none⟩))) x (fr x) (ol x) (nw x):=h0.keep (o1 _ _ _ _ h1);by_cases h2:x=c
  ·subst h2;rw [yV];have:=s1.set 259 (.pointer (some ⟨a,0,none⟩));rw [vI k0] at this;exact this
  ·rw [yT _ _ h2];exact s1.keep (o1 _ _ _ _ h2)
theorem zS {i:Nat} (hi:i<bs.length):bs.getD i e∈bs:=by
 rw [jA,jC hi];exact qB hi
theorem psOf_out (hn:((psOf bs fr).map (·.1)).Nodup) {i:Nat} (hi:i<bs.length):(psOf bs fr).filter (fun y=>decide (y.1≠(fr (bs.getD i e)).page))=psOf (bs.eraseIdx i) fr:=by
 induction bs generalizing i with
 |nil=>simp at hi
 |cons b r ih=>
  simp only [psOf,qQ,xK] at hn;obtain ⟨h1,h2⟩:=hn;cases i with
  |zero=>
   simp only [psOf,qQ,List.getD_cons_zero,List.filter_cons,ne_eq,not_true_eq_false,decide_false,yC,if_false,List.eraseIdx_cons_zero];refine List.filter_eq_self.2 (fun y hy=>?_);simp only [jR];intro e1;exact h1 (e1▸xL hy)
  |succ i=>
   have hi':i<r.length:=by simpa using hi
   have hne:(fr b).page≠(fr (r.getD i e)).page:=fun e1=>h1 (by
    rw [e1];exact List.mem_map.2 ⟨_,xL (zS (e:=e) hi'),rfl⟩)
   have:=ih (i:=i) h2 hi';simp only [psOf,qQ,List.getD_cons_succ,List.filter_cons,ne_eq,hne,not_false_eq_true,decide_true,if_true,List.eraseIdx_cons_succ] at this ⊢;rw [this]
theorem QQ {i x:Nat} (h:x∈bs.eraseIdx i):x∈bs:=List.mem_of_mem_eraseIdx h
theorem fX {i k:Nat} (h:footP p m e (bs.eraseIdx i) k):footP p m e bs k:=by
 rcases h with h|h|h
 ·exact .inl h
 ·exact .inr (.inl h)
 ·rcases List.mem_cons.1 h with h|h
  ·exact .inr (.inr (by simp [h]))
  ·exact .inr (.inr (jM _ (QQ h)))
theorem PD.out (h:PD w p d m e N Fd F D bs fr ol nw) {i:Nat} (hi:i<bs.length) {w1 w2:World}
  (hm:Mem ((w.setCell ⟨cyc e bs i,260,none⟩ (.pointer (some ⟨cyc e bs (i+2),0,none⟩))).setCell ⟨cyc e bs (i+2),259,none⟩ (.pointer (some ⟨cyc e bs i,0,none⟩))) w1)
  (hh:Held w2 m ((psOf bs fr).filter (fun y=>decide (y.1≠(fr (bs.getD i e)).page)))) (ht:w1.mapTurned w2 m):
  PD w2 p d m e N Fd F D (bs.eraseIdx i) fr (upF ol (cyc e bs (i+2)) (cyc e bs i)) (upF nw (cyc e bs i) (cyc e bs (i+2)))/\Ch w.heap.size F w w2:=by
 obtain ⟨a1,a2,a3,a4,a5,a6⟩:=h.pool.apart;have hF:=h.flt;have ha:=zN e bs i;have hc:=zN e bs (i+2)
 have c1:Ch w.heap.size F w w1:=by
  refine Ch.trans ?_ (hm.ch _ _);exact ((Ch.refl w.heap.size F w).setCell (p:=⟨cyc e bs i,260,none⟩) (.inr (h.fp _ (.inr (.inr ha)))) _).setCell (p:=⟨cyc e bs (i+2),259,none⟩) (.inr (h.fp _ (.inr (.inr hc)))) _
 have c2:Ch w.heap.size F w w2:=by
  refine c1.trans ⟨ht.grown.os,ht.grown.tape,ht.grown.output,ht.grown.size,fun k hk hf=>ht.grown.block k (qA hk c1.size) (fun e1=>hf ?_)⟩;simp at e1;rw [e1];exact h.fp m (.inr (.inl rfl))
 have hmw:m<w.heap.size:=h.pool.lt m (.inr (.inl rfl));have k2:∀k,k≠m->k<w.heap.size->w2.heap[k]?=w1.heap[k]?:=fun k hk hl=>UG ht hk (qA hl c1.size)
 have k1:∀k,k∉e::bs->w1.heap[k]?=w.heap[k]?:=fun k hk=>by
  rw [hm.heap,Below.heap_setCell _ ⟨cyc e bs (i+2),259,none⟩ _ k (fun e1=>hk (e1▸hc)),Below.heap_setCell _ ⟨cyc e bs i,260,none⟩ _ k (fun e1=>hk (e1▸ha))]
 refine ⟨⟨?_,?_,fun k hk=>⟨(h.fd k hk).1,fun e1=>(h.fd k hk).2 (fX e1)⟩,fun k hk=>h.fp k (fX hk),fun k hk=>qA (hF k hk) c2.size⟩,c2⟩
 ·refine h.dev.keep c2.size (fun g hg=>?_);have hg2:=(h.fd g hg).2;exact (k2 g (fun e1=>hg2 (.inr (.inl e1))) (hF g (h.fd g hg).1)).trans (k1 g (fun e1=>hg2 (.inr (.inr e1))))
 ·refine {h.pool with cells:=?_,held:=?_,node:=?_,ring:=h.pool.ring.out a4 i hi,ok:=?_,pg:=?_,ap:=?_,len:=?_}
  ·have hp:=h.pool.lt p (.inl rfl);exact ((k2 p a1 hp).trans (k1 p a2)).trans h.pool.cells
  ·rw [<-psOf_out (e:=e) h.pool.held.1 hi];exact hh
  ·intro x hx
   have hx':x∈e::bs:=by
    rcases List.mem_cons.1 hx with hx|hx
    ·simp [hx]
    ·exact jM _ (QQ hx)
   have hxl:=h.pool.lt x (.inr (.inr hx'));exact ((fR h.pool.node h.pool.ok _ _ x hx').keep (hm.heap x)).keep (k2 x (fun e1=>a3 (e1▸hx')) hxl)
  ·intro x hx;refine h.pool.ok x ?_;rcases List.mem_cons.1 hx with hx|hx
   ·simp [hx]
   ·exact jM _ (QQ hx)
  ·exact fun x hx=>h.pool.pg x (QQ hx)
  ·have:(p::m::e::bs.eraseIdx i).Sublist (p::m::e::bs):=((List.eraseIdx_sublist bs i).cons_cons e |>.cons_cons m).cons_cons p;exact h.pool.ap.sublist this
  ·have:=List.length_eraseIdx_le bs i;have:=h.pool.len;omega
set_option maxRecDepth 20000 in
theorem fV (h:PD w p d m e N Fd F D bs fr ol nw) (i:Nat) (hi:i<bs.length):
  Calls prog 170 #[.pointer (some ⟨p,0,none⟩),.pointer (some ⟨bs.getD i e,0,none⟩)] w fun x w'=>x=.returned (.tuple #[])/\(∃ol' nw',PD w' p d m e N Fd F D (bs.eraseIdx i) fr ol' nw')/\Ch w.heap.size F w w':=by
 obtain ⟨a1,a2,a3,a4,a5,a6⟩:=h.pool.apart;obtain ⟨c0,c1,c2,c3⟩:=h.pool.at;have hgm:bs.getD i e∈e::bs:=jM _ (zS hi);have hcy:cyc e bs (i+1)=bs.getD i e:=JD e bs i hi;have hend:=fun (w1 w2:World) hm hh ht=>h.out hi (w1:=w1) (w2:=w2) hm hh ht
 have ho:ol (bs.getD i e)=cyc e bs i:=by rw [<-hcy];exact (h.pool.ring i (by omega)).2
 have hw:nw (bs.getD i e)=cyc e bs (i+2):=by rw [<-hcy];exact (h.pool.ring (i+1) (by omega)).1
 obtain ⟨g0,_,_,g3,g4,gz⟩:=(h.pool.node _ hgm).at (h.pool.ok _ hgm);rw [ho] at g3;rw [hw] at g4;have ha:=zN e bs i;have hc:=zN e bs (i+2);obtain ⟨_,_,_,_,ha4,haz⟩:=(h.pool.node _ ha).at (h.pool.ok _ ha);obtain ⟨_,_,_,hc3,_,hcz⟩:=(h.pool.node _ hc).at (h.pool.ok _ hc);have hun:=VE w (bs.getD i e) (cyc e bs i) (cyc e bs (i+2)) _ _ g3 g4 ha4 hc3 (haz _) (hcz _);have hpg:(fr (bs.getD i e)).page<=1000000:=by have:=h.pool.pg _ (zS (e:=e) hi);have:=h.pool.np4;omega
 have hheld:=h.pool.held;obtain ⟨g,hg⟩:∃g,bs.getD i e=g:=⟨_,rfl⟩;obtain ⟨a,hae⟩:∃a,cyc e bs i=a:=⟨_,rfl⟩;obtain ⟨c,hce⟩:∃c,cyc e bs (i+2)=c:=⟨_,rfl⟩;obtain ⟨P,hP⟩:∃P,(fr g).page=P:=⟨_,rfl⟩;rw [hg] at hun hend hgm hpg g0 ⊢;rw [hP] at hend hpg g0;rw [hae,hce] at hun hend;rw [hae] at ha;rw [hce] at hc;have hpa:p≠a:=fun e1=>a2 (e1▸ha)
 have hpc:p≠c:=fun e1=>a2 (e1▸hc)
 have hma:m≠a:=fun e1=>a3 (e1▸ha)
 have hmc:m≠c:=fun e1=>a3 (e1▸hc)
 have HE:Hid (∀w1 w2,Mem ((w.setCell ⟨a,260,none⟩ (.pointer (some ⟨c,0,none⟩))).setCell ⟨c,259,none⟩ (.pointer (some ⟨a,0,none⟩))) w1->Held w2 m ((psOf bs fr).filter (fun y=>decide (y.1≠P)))->w1.mapTurned w2 m->PD w2 p d m e N Fd F D (bs.eraseIdx i) fr (upF ol c a) (upF nw a c)/\Ch w.heap.size F w w2):=hend;have HH:Hid (Held w m (psOf bs fr)):=hheld;clear hend hheld h ho hw hcy hg hae hce hP gz haz hcz g3 g4 ha4 hc3 c0 c1 c3 a1 a2 a3 a4 a5 a6 hgm ha hc hi;go_enter func170,ntmps170
 go_wp2_with (go_at_call 157;refine hun.mono ?_;rintro x w1 ⟨rfl,hm⟩)
 have d2:w1.cell? ⟨p,2,none⟩=some (.map (some m)):=by
  rw [<-c2];refine World.cell?_of_block (a:=⟨p,2,none⟩) ?_;show w1.heap[p]?=w.heap[p]?;rw [hm.heap,Below.heap_setCell _ ⟨c,259,none⟩ _ p hpc,Below.heap_setCell _ ⟨a,260,none⟩ _ p hpa]
 have d0:w1.cell? ⟨g,0,none⟩=some (.int .i64 P):=by
  have e1:∀(W:World),W.heap[g]?=w1.heap[g]?->W.cell? ⟨g,0,none⟩=w1.cell? ⟨g,0,none⟩:=fun W hW=>World.cell?_of_block (a:=⟨g,0,none⟩) hW
  rw [<-e1 _ (hm.heap g).symm];go_simp
 have HH1:Hid (Held w1 m (psOf bs fr)):=HH.out.keep (by rw [hm.heap,Below.heap_setCell _ ⟨c,259,none⟩ _ m hmc,Below.heap_setCell _ ⟨a,260,none⟩ _ m hma]);have HM:Hid (Mem ((w.setCell ⟨a,260,none⟩ (.pointer (some ⟨c,0,none⟩))).setCell ⟨c,259,none⟩ (.pointer (some ⟨a,0,none⟩))) w1):=hm;clear hm hun c2 g0 HH;go_still_tail 8,(by kernel_rfl)
 refine UO _ rfl _ _ rfl m P _ rfl rfl HH1.out hpg ?_;intro w2 hh2 ht2;have HF:Hid (PD w2 p d m e N Fd F D (bs.eraseIdx i) fr (upF ol c a) (upF nw a c)/\Ch w.heap.size F w w2):=HE.out _ w2 (HM.out.trans (Mem.drew w1)) hh2 ht2;clear hh2 ht2;go_wp2;go_end0
 exact ⟨rfl,⟨_,_,HF.out.1⟩,HF.out.2⟩
end
end Go.Proofs.YtaijfhadecennaaGreat.Oct
