/- Part of a proof. -/
import Derived.Test.YtaijfhadecennabGreatBv
import Derived.Test.YtaijfhadecennabGreatStc
import Derived.Deep.RegionHeld3
import Derived.BigRegion
import Derived.Test.YtaijfhadecennabGreatKo
import Derived.Test.YtaijfhadecennabGreatLg
import Derived.Test.YtaijfhadecennabGreatEmt
import Derived.Test.YtaijfhadecennabGreatEnc
open Go.Proofs.Tryz
set_option maxHeartbeats 8000000
namespace Go.Proofs.YtaijfhadecennabGreat.Oct
open Go.RowKit
def spC' (S:Sp):Array Value:= #[.int .i64 S.g,.int .i64 S.p,.int .i64 S.r,.int .i64 S.h,.int .i64 S.b,.int .i64 S.l,.int .i64 S.s,.int .i64 S.f]
def rpt0:Array Value:= #[.int .i64 0,.int .i64 0,.int .i64 0,.int .i64 0,.int .i64 0,.int .i64 0,.int .i64 0,.int .i64 0,.int .i64 0,.slice none 0 0,.slice none 0 0,.slice none 0 0,.slice none 0 0]
def spx (w:World) (S:Sp):World:=(w.alloc (.cells (spC' S) 26)).alloc (.cells rpt0 55)
theorem kU (w:World) (S:Sp):Below w.heap.size w (spx w S):=by
 have h1:Below w.heap.size w (w.alloc (.cells (spC' S) 26)):=(Below.refl _ w).alloc (jB _) _;exact h1.alloc h1.size _
theorem info4b:(prog.info? 4).map (fun i=>(i.zero,i.size,i.bytes))=some (some (.bool false),1,1):=by kernel_rfl
theorem KH {B g N:Nat} {w:World} (h:w.ownsRow B 4 1 (.slice (some ⟨g,0,none⟩) N N) N (madeCells (Value.bool false).cells (N*1)).toList):OwnL B w (.slice (some ⟨g,0,none⟩) N N) (List.replicate N false):=by
 unfold OwnL;rw [show (Value.bool false).cells= #[Value.bool false] from rfl,toList_madeCells_one,Nat.mul_one] at h;rw [jJ,List.map_replicate];exact h
theorem cnt_none (N:Nat):cnt (List.replicate N false)=0:=by
 unfold cnt
 induction N with
 |zero=>rfl
 |succ N ih=>simpa [List.replicate_succ] using ih
theorem rN_len (L:List Int):(rN L).length=pgN L:=by simp [rN]
def rpP (S:Sp) (pl:Int) (vP vT vS vG:Value):Array Value:= #[.int .i64 S.g,.int .i64 S.p,.int .i64 S.r,.int .i64 S.h,.int .i64 S.b,.int .i64 S.l,.int .i64 S.s,.int .i64 S.f,.int .i64 pl,vP,vT,vS,vG]
def RepP (F G:Nat->Prop) (w:World) (v:Value) (R:Rp):Prop:=∃aP cP aT cT aS cS aG cG,v=.agg (rpP R.s R.pl (.slice aP R.pc.length cP) (.slice aT R.tx.length cT) (.slice aS R.st.length cS) (.slice aG R.pg.length cG))/\RowC w aP cP R.pc/\Row w aT cT R.tx/\Row w aS cS R.st/\RowI w aG cG R.pg/\∀k,(obl aP k\/obl aT k\/obl aS k\/obl aG k)->(¬F k/\k<w.heap.size)/\G k
theorem RowI.keepO' {w w':World} {a:Option Addr} {c:Nat} {zs:List Int} (h:RowI w a c zs) (k:∀g,obl a g->w'.heap[g]?=w.heap[g]?):RowI w' a c zs:=by
 obtain ⟨h2,h3,h4⟩:=h;refine ⟨h2,h3,?_⟩;rcases h4 with h4|⟨b,off,e,hi⟩
 ·exact .inl h4
 ·exact .inr ⟨b,off,e,fun i hl=>(World.cell?_of_block (w:=w) (a:=⟨b,off+i,none⟩) (k b ⟨_,e,rfl⟩)).trans (hi i hl)⟩
def StP (x y:Value):Sem Unit:=Instr.storeAt 55 x y
theorem uT (x y:Value):Instr.storeAt 55 x y=StP x y:=rfl
def LdP (x:Value):Sem Value:=Instr.loadAt 55 x
theorem FU (x:Value):Instr.loadAt 55 x=LdP x:=rfl
theorem QI (S:Sp) (pl:Int) (aP aT aS aG:Option Addr) (nP nT nS nG cP cT cS cG:Nat):(rpP S pl (.slice aP nP cP) (.slice aT nT cT) (.slice aS nS cS) (.slice aG nG cG)).all (·.oneCell')=true:=by
 simp [rpP,Value.oneCell']
theorem JZ {w:World} {g:Nat} {old cs:Array Value} (hg:w.heap[g]?=some (.cells old 55 (0,0))) (ho:old.size=13) (hc:cs.size=13) (h1:cs.all (·.oneCell')=true):(StP (.pointer (some ⟨g,0,none⟩)) (.agg cs)).run prog w=.ok () (w.setRow g cs):=by
 unfold StP;simp only [Instr.storeAt,Instr.sureAddr,Sem.run_bind,Sem.run_pure,Result.andThen_ok];rw [run_storeVar_row w g 55 55 old cs hg (by rw [hc];kernel_rfl) (by omega) h1]
theorem vW {w:World} {g:Nat} {cs:Array Value} (hg:w.heap[g]?=some (.cells cs 55 (0,0))) (hc:cs.size=13):(LdP (.pointer (some ⟨g,0,none⟩))).run prog w=.ok (.agg cs) w:=by
 unfold LdP;simp only [Instr.loadAt,Instr.sureAddr,Sem.run_bind,Sem.run_pure,Result.andThen_ok,run_loadVar_row (P:=prog) w g 55 55 cs (0,0) _ hg underlying55 rfl (by rw [hc];kernel_rfl)]
theorem StP_new (w:World) {cs:Array Value} (hc:cs.size=13) (h1:cs.all (·.oneCell')=true):(StP (.pointer (some ⟨w.heap.size,0,none⟩)) (.agg cs)).run prog (w.alloc (.cells rpt0 55)).drew=.ok () ((w.alloc (.cells rpt0 55)).drew.setRow w.heap.size cs):=JZ (w:=(w.alloc (.cells rpt0 55)).drew) (heap_alloc_new w _) rfl hc h1
theorem setRow_new (w:World) (o:Array Value) (t:TypeId) (cs:Array Value):((w.alloc (.cells o t)).drew.setRow w.heap.size cs).heap[w.heap.size]?=some (.cells cs t (0,0))/\Below w.heap.size w ((w.alloc (.cells o t)).drew.setRow w.heap.size cs):=
 ⟨setRow_heap (w.alloc (.cells o t)).drew _ _ _ _ _ (heap_alloc_new w _),((Ch.of (fun _=>False) ((Below.refl _ w).alloc (jB _) _).drew).setRow (.inl (jB _)) _).below (fun k e=>by cases e)⟩
section
variable {w wr w':World} {p d rb gr cr m cP cT cS:Nat} {F FD:Nat->Prop} {D0:Dv} {L tx st:List Int} {vM:Value} {aP aT aS:Option Addr} {R:List Bool} {cs:List Int} {S:Sp}
def RwK (w wr:World) (F:Nat->Prop) (rb:Nat) (a:Option Addr) (c:Nat) (zs:List Int):Prop:=Row wr a c zs/\∀k,obl a k->(¬F k/\¬k=rb)/\w.heap.size+2<=k/\k<wr.heap.size
theorem rwK_nil (w wr:World) (F:Nat->Prop) (rb:Nat):RwK w wr F rb none 0 []:=⟨⟨fun z hz=>(by cases hz),jB _,jW _,.inl rfl⟩,fun k ⟨x,e,_⟩=>(by cases e)⟩
theorem RwK.keep {a:Option Addr} {c:Nat} {zs:List Int} (h:RwK w wr F rb a c zs) (hs:wr.heap.size<=w'.heap.size) (k:∀g,¬F g->¬g=rb->g<wr.heap.size->w'.heap[g]?=wr.heap[g]?):RwK w w' F rb a c zs:=
 ⟨h.1.keepO (fun g hg=>k g (h.2 g hg).1.1 (h.2 g hg).1.2 (h.2 g hg).2.2),fun g hg=>⟨(h.2 g hg).1,(h.2 g hg).2.1,jV (h.2 g hg).2.2 hs⟩⟩
theorem w0_new {w2:World} {g N:Nat} (hd:Dev w d FD D0) (hw:Well D0) (hL:D0.now=L) (hN:D0.n=N) (hops:D0.ops<=1000000000000) (hb:Below w.heap.size w w2)
  (hc:w2.heap[p]?=some (.cells #[.pointer (some ⟨d,0,none⟩),.slice (some ⟨g,0,none⟩) N N,.slice none 0 0,.slice none 0 0,vM] 215 (0,0)))
  (ho:OwnL w.heap.size w2 (.slice (some ⟨g,0,none⟩) N N) (List.replicate N false)) (lp:w.heap.size<=p) (lg:w.heap.size<=g) (npg:¬p=g):
  W0A w2 p d (fun k=>FD k\/k=p\/k=g) FD D0 L vM (List.replicate N false) []:=by
 have hF:∀k,FD k->k<w.heap.size:=hd.2.1;refine ⟨g,N,none,0,{lt:=fun k hk=>?_,dev:=?_,well:=hw,now:=hL,rn:=by rw [jJ];exact hN.symm,ops:=hops,cells:=by rw [jJ];exact hc,rch:=?_,ch:=⟨rfl,.inl ⟨rfl,rfl⟩⟩,fD:=fun k hk=>.inl hk,fp:=.inr (.inl rfl),fg:=.inr (.inr rfl),fC:=fun k ⟨x,e,_⟩=>(by cases e),pD:=fun e=>?_,gD:=fun e=>?_,CD:=fun k ⟨x,e,_⟩=>(by cases e),pg:=npg,pC:=fun ⟨x,e,_⟩=>(by cases e),gC:=fun ⟨x,e,_⟩=>(by cases e)}⟩
 ·rcases hk with hk|rfl|rfl
  ·exact jV (hF k hk) hb.size
  ·exact yO hc
  ·exact ho.cap.2.2.2.1
 ·rw [cnt_none];exact hd.below hb
 ·rw [jJ];have:=ho;unfold OwnL World.ownsRow at this ⊢;obtain ⟨h1,h2|⟨q,cap,cur,e,h3,h4⟩⟩:=this
  ·exact ⟨h1,.inl h2⟩
  ·exact ⟨h1,.inr ⟨q,cap,cur,e,jW _,h4⟩⟩
 ·have:=hF _ e;omega
 ·have:=hF _ e;omega
structure SvI (w wr:World) (p d rb:Nat) (FD F:Nat->Prop) (D0:Dv) (L:List Int) (vM:Value) (R:List Bool) (cs:List Int) (S:Sp) (aS:Option Addr) (cS:Nat) (st:List Int):Prop where
 pw:W0A wr p d F FD D0 L vM R cs
 bk:wr.heap[rb]?=some (.cells (rpP S (-1) (.slice none 0 0) (.slice none 0 0) (.slice aS st.length cS) (.slice none 0 0)) 55 (0,0))
 s0:wr.heap[w.heap.size]?=some (.cells (spC' S) 26 (0,0))
 s1:wr.heap[w.heap.size+1]?=some (.cells rpt0 55 (0,0))
 stp:Step FD F w wr
 nf:¬F rb/\¬F w.heap.size/\¬F (w.heap.size+1)
 lo:w.heap.size+2<=rb
 kS:RwK w wr F rb aS cS st
theorem SvI.went (h:SvI w wr p d rb FD F D0 L vM R cs S aS cS st) {w2:World} {F2:Nat->Prop} {R':List Bool} {cs':List Int} (h1:W0A w2 p d F2 FD D0 L vM R' cs') (hc:Step F F2 wr w2):SvI w w2 p d rb FD F2 D0 L vM R' cs' S aS cS st:=by
 have k:∀g,¬F g->g<wr.heap.size->w2.heap[g]?=wr.heap[g]?:=fun g h1 h2=>hc.1.block g h2 h1
 have nf:∀g,¬F g->g<wr.heap.size->¬F2 g:=fun g h1 h2 e=>by rcases hc.2 g e with e|e;exact h1 e;omega
 refine ⟨h1,(k _ h.nf.1 (yO h.bk)).trans h.bk,(k _ h.nf.2.1 (yO h.s0)).trans h.s0,(k _ h.nf.2.2 (yO h.s1)).trans h.s1,h.stp.trans hc,⟨nf _ h.nf.1 (yO h.bk),nf _ h.nf.2.1 (yO h.s0),nf _ h.nf.2.2 (yO h.s1)⟩,h.lo,?_⟩;exact ⟨h.kS.1.keepO (fun g hg=>k g (h.kS.2 g hg).1.1 (h.kS.2 g hg).2.2),fun g hg=>⟨⟨nf g (h.kS.2 g hg).1.1 (h.kS.2 g hg).2.2,(h.kS.2 g hg).1.2⟩,(h.kS.2 g hg).2.1,jV (h.kS.2 g hg).2.2 hc.1.size⟩⟩
theorem SvI.below (h:SvI w wr p d rb FD F D0 L vM R cs S aS cS st) {w2:World} (hb:Below wr.heap.size wr w2):SvI w w2 p d rb FD F D0 L vM R cs S aS cS st:=
 h.went (h.pw.below hb) (Step.ofB hb)
theorem SvI.cell (h:SvI w wr p d rb FD F D0 L vM R cs S aS cS st) (i:Nat):wr.cell? ⟨rb,i,none⟩=(rpP S (-1) (.slice none 0 0) (.slice none 0 0) (.slice aS st.length cS) (.slice none 0 0))[i]?:=cell_of_row wr _ _ _ _ (0,0) h.bk
theorem SvI.sup (h:SvI w wr p d rb FD F D0 L vM R cs S aS cS st) (i:Nat):wr.cell? ⟨w.heap.size,i,none⟩=(spC' S)[i]?:=cell_of_row wr _ _ _ _ (0,0) h.s0
theorem SvI.frz (h:SvI w wr p d rb FD F D0 L vM R cs S aS cS st) (i:Nat):wr.frozen? ⟨rb,i,none⟩=false:=by unfold World.frozen?;rw [h.bk];simp
theorem SvI.low (h:SvI w wr p d rb FD F D0 L vM R cs S aS cS st):w.heap.size+2<=wr.heap.size/\rb<wr.heap.size/\∀k,F k->k<wr.heap.size:=⟨by have:=h.lo;have:=yO h.bk;omega,yO h.bk,h.pw.lt⟩
theorem SvI.set (h:SvI w wr p d rb FD F D0 L vM R cs S aS cS st) (i:Nat) (v:Value):W0A (wr.setCell ⟨rb,i,none⟩ v) p d F FD D0 L vM R cs/\Ch wr.heap.size (fun x=>x=rb) wr (wr.setCell ⟨rb,i,none⟩ v)/\Step FD F w (wr.setCell ⟨rb,i,none⟩ v):=by
 have hc:Ch wr.heap.size (fun x=>x=rb) wr (wr.setCell ⟨rb,i,none⟩ v):=(Ch.refl _ (fun x=>x=rb) wr).setCell (p:=⟨rb,i,none⟩) (.inr rfl) v;refine ⟨h.pw.keep hc.size (fun g hg=>hc.block g (h.pw.lt g hg) (fun e=>h.nf.1 (e▸hg))),hc,⟨?_,h.stp.2⟩⟩;have:=h.lo;exact h.stp.1.setCell (p:=⟨rb,i,none⟩) (.inl (by show _<=rb;omega)) v
theorem SvI.text (h:SvI w wr p d rb FD F D0 L vM R cs S aS cS st):SvI w (wr.setCell ⟨rb,10,none⟩ (.slice none 0 0)) p d rb FD F D0 L vM R cs S aS cS st:=by
 obtain ⟨h1,hc,h2⟩:=h.set 10 (.slice none 0 0);have hlo:=h.lo;have k:∀g,¬g=rb->g<wr.heap.size->(wr.setCell ⟨rb,10,none⟩ (.slice none 0 0)).heap[g]?=wr.heap[g]?:=fun g h1 h2=>hc.block g h2 h1
 refine ⟨h1,?_,(k _ (by omega) (yO h.s0)).trans h.s0,(k _ (by omega) (yO h.s1)).trans h.s1,h2,h.nf,h.lo,h.kS.keep hc.size (fun g _ h1 h2=>k g h1 h2)⟩;rw [yK _ _ _ _ _ _ _ h.bk];rfl
theorem SvI.state (h:SvI w wr p d rb FD F D0 L vM R cs S none 0 []) {a:Option Addr} {c:Nat} {zs:List Int} (hk:RwK w wr F rb a c zs):SvI w (wr.setCell ⟨rb,11,none⟩ (.slice a zs.length c)) p d rb FD F D0 L vM R cs S a c zs:=by
 obtain ⟨h1,hc,h2⟩:=h.set 11 (.slice a zs.length c);have hlo:=h.lo;have k:∀g,¬g=rb->g<wr.heap.size->(wr.setCell ⟨rb,11,none⟩ (.slice a zs.length c)).heap[g]?=wr.heap[g]?:=fun g h1 h2=>hc.block g h2 h1
 refine ⟨h1,?_,(k _ (by omega) (yO h.s0)).trans h.s0,(k _ (by omega) (yO h.s1)).trans h.s1,h2,h.nf,h.lo,hk.keep hc.size (fun g _ h1 h2=>k g h1 h2)⟩;rw [yK _ _ _ _ _ _ _ h.bk];rfl
end
end Go.Proofs.YtaijfhadecennabGreat.Oct
namespace Go.Proofs.YtaijfhadecennabGreat.Oct.Sx
open Go.RowKit
section
variable {w w':World} {s d:Nat} {F:Nat->Prop} {X:St}
theorem part_any (h:Sto w s d F X) (fi:FI X.D X.N X.L) (nd:∀k,¬DP X.L k) (hw:Well X.D) (hops:X.D.ops<=999999000) (hsi:X.D.since.length<=1000000) (x:Nat) (hx:x<X.D.n) (z:List Int) (hz:pageOf X.D.now x=z) (hE:ptE z=0):
  Calls prog 45 #[.pointer (some ⟨s,0,none⟩),.int .i64 x] w fun e w'=>∃b o c X' F',e=.returned (.tuple #[.slice (some ⟨b,o,none⟩) (ptL z).length c,.int .i64 (ptN z),.int .i64 0])/\w.heap.size<=b/\Row w' (some ⟨b,o,none⟩) c (ptL z)/\¬F' b/\RdS X X'/\Sto w' s d F' X'/\Step F F' w w':=by
 have hrd:=Read_any h fi nd hw hops hsi x hx;have hzb:Bys z:=by rw [<-hz];exact JE fi.ok.bnow _
 have hzl:z.length=256:=by rw [<-hz];exact JJ (by have:=fi.ok.now;omega)
 rw [hz] at hrd;have HZ:Hid (Bys z/\z.length=256/\ptE z=0):=⟨hzb,hzl,hE⟩;clear h fi nd hw hops hsi hx hz hzb hzl hE;go_enter func45,ntmps45
 go_wp2_with (first
  |(go_at_call 72;refine hrd.mono ?_;rintro e w1 ⟨g,c,X',F',rfl,ho,hr,hs,st⟩
    have hpt:=Chs.Part_new (some ⟨g,0,none⟩) c z w1 (ho.row' HZ.out.1).2 HZ.out.2.2;rw [HZ.out.2.1] at hpt;have H1:Hid (RdS X X'/\Sto w1 s d F' X'/\Step F F' w w1):=⟨hr,hs,st⟩;clear hrd ho hr hs st)
  |(go_at_call 73;refine hpt.mono ?_;rintro e w2 ⟨b,o,c2,rfl,hlo,hrow,hb⟩
    have H2:Hid (w1.heap.size<=b/\Row w2 (some ⟨b,o,none⟩) c2 (ptL z)/\Below w1.heap.size w1 w2):=⟨hlo,hrow,hb⟩;clear hpt hlo hrow hb))
 go_ret3
 obtain ⟨h1,h2,h3⟩:=H1.out;obtain ⟨k1,k2,k3⟩:=H2.out;have hl:=h2.lt;exact ⟨b,o,c2,X',F',rfl,jR h3.1.size k1,k2,fun e=>by have:=hl b e;omega,h1,h2.below k3,h3.trans (Step.ofB k3)⟩
structure RdC (X X':St) (c:Nat):Prop where
 eq:X'={X with D:=X'.D,L:=X'.L}
 fi:FI X'.D X'.N X'.L
 nd:∀k,¬DP X'.L k
 ac:Acts (fun _=>False) c X.D X'.D
theorem RdC.next {X X1 X2:St} {c:Nat} (h:RdC X X1 c) (k:RdS X1 X2):RdC X X2 (c+2):=by
 obtain ⟨c2,ha,hc⟩:=k.ac;refine ⟨?_,k.fi,k.nd,(h.ac.trans ha).mono (fun _ e=>e) (by omega)⟩;have e1:=k.eq;rw [h.eq] at e1;exact e1
structure BtI (w wr:World) (s d gr N:Nat) (F:Nat->Prop) (X:St) (f:Nat) (n:Int) (v:Value) (R:List Bool) (out:List Int) (fin:List Bool × List Int):Prop where
 st:∃X' F' c,Sto wr s d F' X'/\Step F F' w wr/\RdC X X' c/\c<=2*cnt R/\(¬F' gr)/\∀g,v.ownBlock=some g->¬F' g
 seen:OwnL w.heap.size wr (.slice (some ⟨gr,0,none⟩) N N) R
 ng:∀g,v.ownBlock=some g->¬g=gr
 rl:R.length=N
 fin:chB X.D.now f n R out=some fin
 own:Own w.heap.size wr v out
 by':Bys out
 n:0<=n/\n<=9223372036854775807
 fu:N<f+cnt R
 ln:out.length<=244*cnt R
def BtE (w:World) (s d:Nat) (F:Nat->Prop) (X:St) (fin:List Bool × List Int) (e:Ending) (w':World):Prop:=
 ∃g c X' F' k,e=.returned (.tuple #[.slice g fin.2.length c,.int .i64 0])/\Own w.heap.size w' (.slice g fin.2.length c) fin.2/\Bys fin.2/\fin.2.length<=999424/\Sto w' s d F' X'/\Step F F' w w'/\RdC X X' k/\k<=8192
set_option maxRecDepth 20000 in
theorem Bytes_any (h:Sto w s d F X) (fi:FI X.D X.N X.L) (nd:∀k,¬DP X.L k) (hw:Well X.D) (hops:X.D.ops<=999900000) (hsi:X.D.since.length<=1000000) (n:Int) (hn:0<=n/\n<X.D.n) (fin:List Bool × List Int) (hfin:chB X.D.now (X.D.n+1) n (List.replicate X.D.n false) []=some fin):
  Calls prog 11 #[.pointer (some ⟨s,0,none⟩),.int .i64 n] w (BtE w s d F X fin):=by
 obtain ⟨N,hN⟩:∃N,X.D.n=N:=⟨_,rfl⟩;have hmd:=QV s d w (h.cell 0 (.pointer (some ⟨d,0,none⟩)) (fun _ _ _=>rfl));have hha:=has_any h n hn;have s0:=h.cell 0 (.pointer (some ⟨d,0,none⟩)) (fun _ _ _=>rfl)
 have hpg:Calls prog 39 #[.pointer (some ⟨d,0,none⟩)] w fun e w'=>e=.returned (.int .i64 N)/\w=w':=by
  obtain ⟨p,sp,aC,cC,lab,hS,_⟩:=h;obtain ⟨F1,hp,_⟩:=hS.pool;rw [<-hN];exact JP hp
 have HK:Hid (Sto w s d F X/\FI X.D X.N X.L/\(∀k,¬DP X.L k)/\Well X.D/\X.D.ops<=999900000/\X.D.since.length<=1000000/\X.D.n=N/\(8<=N/\N<=4096)/\chB X.D.now (N+1) n (List.replicate N false) []=some fin/\0<=n/\n<N/\Bys X.D.now):=
  ⟨h,fi,nd,hw,hops,hsi,hN,by rw [<-hN];exact ⟨fi.ok.n8,fi.ok.n4⟩,by rw [<-hN];exact hfin,hn.1,by rw [<-hN];exact hn.2,fi.ok.bnow⟩
 have hN4:N<=4096:=HK.out.2.2.2.2.2.2.2.1.2;have hm:N<=maxLen:=by unfold maxLen;omega
 obtain ⟨i0,hi0,hz0,hz1,hz2⟩:=info_parts info4b;clear h fi nd hw hops hsi hn hfin hN;go_enter func11,ntmps11
 go_wp2_with (first
  |(go_at_call 43;refine hmd.mono ?_;rintro e w' ⟨rfl,rfl⟩;clear hmd)
  |(go_at_call 44;refine hha.mono ?_;rintro e w' ⟨rfl,rfl⟩;clear hha)
  |(go_at_call 39;refine hpg.mono ?_;rintro e w' ⟨rfl,rfl⟩;clear hpg)
  |(at_make;refine wpList_make_full _ rfl _ _ 98 rfl w.heap.size 4 i0 (.bool false) 1 underlying98 hi0 hz0 hz1 .i64 .i64 _ _ N rfl rfl rfl rfl (by rw [hz2];omega) hm (jB _) ?_;intro w1 hown1 hgrow1
    have HO:Hid (OwnL w.heap.size w1 (.slice (some ⟨w.heap.size,0,none⟩) N N) (List.replicate N false)/\Below w.heap.size w w1):=⟨KH hown1,(Below.refl _ w).grown hgrow1 (jB _) (by simp)⟩;clear hown1 hgrow1 hm hi0 hz0 hz1 hz2))
 obtain ⟨gr,hgr⟩:∃gr,w.heap.size=gr:=⟨_,rfl⟩;have HGR:Hid (w.heap.size=gr):=hgr
 have HI0:Hid (BtI w w1 s d gr N F X (N+1) n (.slice none 0 0) (List.replicate N false) [] fin):=by
  obtain ⟨h1,h2,h3,_,_,_,_,h8,h9,h10,h11,_⟩:=HK.out;exact ⟨⟨X,F,0,h1.below HO.out.2,Step.ofB HO.out.2,⟨rfl,h2,h3,Acts.refl _ _⟩,jW _,fun e=>by have:=h1.lt gr e;omega,fun g e=>(by cases e)⟩,by rw [<-hgr];exact HO.out.1,fun g e=>(by cases e),jJ,h9,⟨rfl,.inl ⟨rfl,rfl⟩⟩,fun z hz=>(by cases hz),⟨h10,by omega⟩,by omega,by simp⟩
 rw [hgr];obtain ⟨f0,hf0⟩:∃f0,N+1=f0:=⟨_,rfl⟩;rw [hf0] at HI0;clear HO hgr s0 hf0;go_loopg [1,6] f0 (fun k i v wr=>∃(n':Int) (R':List Bool) (out:List Int),i=.int .i64 n'/\Hid (BtI w wr s d gr N F X k n' v R' out fin))
 case atStart=>exact ⟨n,_,[],rfl,HI0.out⟩
 case round=>
  clear HI0;obtain ⟨n',R',out,rfl,HI⟩:=hrel;obtain ⟨ov,oc,hv,hrow⟩:=HI.out.own.row HI.out.by';have hcl:=XU R';rw [HI.out.rl] at hcl;have hol:out.length<=999424:=by have:=HI.out.ln;omega
  have hoc:=hrow.2.2.1;unfold maxLen at hoc;have hoc2:=hrow.2.1;obtain ⟨f1,hf1⟩:∃f1,gk=f1+1:=⟨gk-1,by have:=HI.out.fu;omega⟩;subst hf1;subst hv;by_cases hn0:n'=0
  ·subst hn0
   have HD:Hid (BtE w s d F X fin (.returned (.tuple #[.slice ov out.length oc,.int .i64 0])) wr):=by
    have e1:=HI.out.fin;rw [VX] at e1;cases e1;obtain ⟨X',F',c,a1,a2,a3,a4,_,_⟩:=HI.out.st;exact ⟨ov,oc,X',F',c,rfl,HI.out.own,HI.out.by',hol,a1,a2,a3,by omega⟩
   clear HI hrow hcl;go_wp2_with fail
   go_ret2
   exact HD.out
  ·have hn1:(n'==0)=false:=by simpa using hn0
   have hn2:(n' !=0)=true:=by simpa using hn0
   obtain ⟨hy,hE0,hfn⟩:=VV hn0 HI.out.fin;obtain ⟨r1,r2,r3⟩:=XA hy;rw [HI.out.rl] at r2;obtain ⟨X',F',c,a1,a2,a3,a4,a5,a6⟩:=HI.out.st;have hXn:X'.D.n=N:=a3.ac.n.trans HK.out.2.2.2.2.2.2.1;have hha2:=has_any a1 n' ⟨r1,by rw [hXn];exact r2⟩;obtain ⟨x,hx⟩:∃x:Nat,n'=(x:Int):=⟨n'.toNat,(qD r1).symm⟩;subst hx;rw [jS] at hE0 hfn r3;obtain ⟨z,hz⟩:∃z,pageOf X.D.now x=z:=⟨_,rfl⟩;rw [hz] at hE0 hfn;have hnow:=acts_now a3.ac;have hwl:=HK.out.2.2.2.1.mo a3.ac.mo;have hac:=a3.ac.ops;have hpt:=fun (wx:World) (hsx:Sto wx s d F' X')=>part_any hsx a3.fi a3.nd hwl (by have:=HK.out.2.2.2.2.1;omega) (by rw [hnow.2.2];exact HK.out.2.2.2.2.2.1) x (by rw [hXn];omega) z (by rw [hnow.1];exact hz) hE0
   have hca:=ZM HI.out.seen x (by rw [HI.out.rl];omega);have hcap:=HI.out.seen.cap;have hxN:x<N:=by omega
   have hxN2:(x:Int)<(N:Int):=r2;have hpN:(w.heap.size=gr):=HGR.out;have hs0:=a1.lt2;obtain ⟨wS,hwS⟩:∃wS,wr.setCell ⟨gr,x,none⟩ (.bool true)=wS:=⟨_,rfl⟩;have hcS:Ch wr.heap.size (fun k=>k=gr) wr wS:=by rw [<-hwS];exact (Ch.refl wr.heap.size (fun k=>k=gr) wr).setCell (p:=⟨gr,x,none⟩) (.inr rfl) _
   have a1S:Sto wS s d F' X':=a1.ch hcS (fun k hk e=>a5 (by rw [<-e];exact hk));have hpt2:=hpt wS a1S;obtain ⟨T,hT⟩:∃T,ptL z=T:=⟨_,rfl⟩;obtain ⟨Y,hY⟩:∃Y,ptN z=Y:=⟨_,rfl⟩;obtain ⟨tl,htl⟩:∃tl,T.length=tl:=⟨_,rfl⟩;have hzb:Bys z:=by rw [<-hz];exact JE HK.out.2.2.2.2.2.2.2.2.2.2.2 _
   have HZB:Hid (Bys T/\0<=Y/\Y<=4096/\tl<=244/\0<tl/\T.length=tl):=⟨by rw [<-hT];exact ptL_bys hzb,by rw [<-hY];exact (nx_bd hzb).1,by rw [<-hY];exact (nx_bd hzb).2,by rw [<-htl,<-hT];exact ptL_le,by rw [<-htl,<-hT];exact ptL_pos hzb hE0,htl⟩;have htl4:=HZB.out.2.2.2.1;have htl0:=HZB.out.2.2.2.2.1;rw [hT,hY,htl] at hpt2;rw [hT,hY] at hfn;obtain ⟨-,t2,t3,t4⟩:=hca;rw [r3] at t2
   have HQ:Hid (chB X.D.now f1 Y (R'.set x true) (out++T)=some fin/\rcB R' (x:Int)=true/\RdC X X' c/\c<=2*cnt R'/\Step F F' w wr/\Ch wr.heap.size (fun k=>k=gr) wr wS/\(∀k,F' k->k<wr.heap.size)/\(¬F' gr)/\(∀g,(Value.slice ov out.length oc).ownBlock=some g->¬F' g)/\OwnL w.heap.size wS (.slice (some ⟨gr,0,none⟩) N N) (R'.set x true)/\gr<wr.heap.size):=
    ⟨hfn,hy,a3,a4,a2,hcS,a1.lt,a5,a6,by rw [<-hwS];exact t4 true,hcap.2.2.2.1⟩
   clear hrow hn0 hy hE0 hfn a1 a2 a3 a4 a5 a6 hnow hwl hac hpt t4 hcap hcS a1S hT hY htl hzb hpN r1 r3 hXn
   go_wp2_with (first
    |(go_at_call 44;refine hha2.mono ?_;rintro e w' ⟨rfl,rfl⟩;clear hha2)
    |(go_at_call 45;refine hpt2.mono ?_;rintro e w2 ⟨tb,tof,tc,X2,F2,rfl,hlo,hrow2,hnb,hrd,hs2,st2⟩
      have H2:Hid (wS.heap.size<=tb/\Row w2 (some ⟨tb,tof,none⟩) tc T/\(¬F2 tb)/\RdS X' X2/\Sto w2 s d F2 X2/\Step F' F2 wS w2):=⟨hlo,hrow2,hnb,hrd,hs2,st2⟩;have hsS:wS.heap.size=wr.heap.size:=by rw [<-hwS];exact yL _ _ _
      have hz2:=st2.1.size
      have H6:Hid (Own w.heap.size w2 (.slice ov out.length oc) out/\OwnL w.heap.size w2 (.slice (some ⟨gr,0,none⟩) N N) (R'.set x true)/\w.heap.size<=w2.heap.size/\wS.heap.size=wr.heap.size):=
       ⟨yN HI.out.own (fun g hg=>by
        have h1:=(World.ownsRow.lt HI.out.own g hg).2;exact (st2.1.block g (by omega) (HQ.out.2.2.2.2.2.2.2.2.1 g hg)).trans (HQ.out.2.2.2.2.2.1.block g h1 (HI.out.ng g hg))),
        yN HQ.out.2.2.2.2.2.2.2.2.2.1 (fun g hg=>by
         cases hg;exact st2.1.block gr (by have:=HQ.out.2.2.2.2.2.2.2.2.2.2;omega) HQ.out.2.2.2.2.2.2.2.1),
        by have h1:=HQ.out.2.2.2.2.1.1.size;omega,hsS⟩
      clear hpt2 hlo hrow2 hnb hrd hs2 st2 hsS hz2)
    |(at_builtin;refine vD rfl _ _ rfl w.heap.size (.slice ov out.length oc) out rfl H6.out.1 ⟨tb,tof,none⟩ T tl tc rfl HZB.out.2.2.2.2.2 htl0 H2.out.2.1 (by omega) H6.out.2.2.1 ?_;intro g7 cap7 w7 ho7 hg7 ht7;have H7:Hid _:=And.intro ho7 (And.intro hg7 ht7);clear ho7 hg7 ht7))
   go_roundg f1
   case rel=>
    refine ⟨Y,R'.set x true,out++T,rfl,?_⟩;obtain ⟨o7,g7',t7⟩:=H7.out;obtain ⟨b1,b2,b3,b4,b5,b6⟩:=H2.out;obtain ⟨e1,e2,e3,e4⟩:=H6.out;obtain ⟨q1,q2,q3,q4,q5,q6,q7,q8,q9,q10,q11⟩:=HQ.out;have hq:=XA q2;rw [HI.out.rl] at hq;have hcn:=vU (R:=R') (n:=x) (by rw [HI.out.rl];exact hxN) hq.2.2;have h1:=HI.out.fu;have h2:=HI.out.ln;have hl2:=b5.lt
    have hf2:∀k,F2 k->F' k\/wr.heap.size<=k:=fun k hk=>by
     rcases b6.2 k hk with e|e
     ·exact .inl e
     ·exact .inr (by omega)
    have hov:∀k,(Value.slice ov out.length oc).ownBlock=some k->¬F2 k:=fun k hk e=>by
     have h3:=(World.ownsRow.lt HI.out.own k hk).2;rcases hf2 k e with h4|h4
     ·exact q9 k hk h4
     ·omega
    have hgr:Ch w2.heap.size (fun k=>(Value.slice ov out.length oc).ownBlock=some k) w2 w7:=(Ch.refl _ _ _).grown g7' (jB _) (fun k hk=>.inr hk);have hbase:∀k,(Value.slice ov out.length oc).ownBlock=some k->w.heap.size<=k:=fun k hk=>(World.ownsRow.lt HI.out.own k hk).1
    have hs7:Sto w7 s d F2 X2:=b5.ch hgr (fun k hk e=>hov k e hk);have stS:Step F F' w wS:=⟨q5.1.trans (q6.mono q5.1.size (fun k hk e=>by have:=HGR.out;omega)),q5.2⟩;have st2:=stS.trans b6;have st3:Step F F2 w w7:=⟨st2.1.trans (hgr.mono st2.1.size (fun k hlt hk=>absurd hlt (Nat.not_lt.2 (hbase k hk)))),st2.2⟩
    have hg7:∀k,(Value.slice (some ⟨g7,0,none⟩) (out.length+tl) cap7).ownBlock=some k->(Value.slice ov out.length oc).ownBlock=some k\/k=w2.heap.size:=fun k hk=>by
     have e:g7=k:=by simpa [Value.ownBlock] using hk
     subst e;exact t7
    have hgrl:=q11;refine {st:=⟨X2,F2,c+2,hs7,st3,q3.next b4,by rw [hcn];omega,fun e=>?_,fun k hk e=>?_⟩,seen:=?_,ng:=fun k hk=>?_,rl:=by rw [qC];exact HI.out.rl,fin:=q1,own:=?_,by':=HI.out.by'.app HZB.out.1,n:=by have:=HZB.out.2.1;have:=HZB.out.2.2.1;omega,fu:=by rw [hcn];omega,ln:=by rw [hcn,jO,HZB.out.2.2.2.2.2];omega}
    ·rcases hf2 gr e with h4|h4
     ·exact q8 h4
     ·omega
    ·rcases hg7 k hk with h4|h4
     ·exact hov k h4 e
     ·have:=hl2 k e;omega
    ·exact yN e2 (fun g hg=>by
      cases hg;exact hgr.block gr (by have:=b6.1.size;omega) (fun e=>HI.out.ng gr e rfl))
    ·rcases hg7 k hk with h4|h4
     ·exact HI.out.ng k h4
     ·have:=b6.1.size;omega
    ·rw [<-HZB.out.2.2.2.2.2,<-jO] at o7 ⊢;exact o7
   case measure=>omega
end
end Go.Proofs.YtaijfhadecennabGreat.Oct.Sx
namespace Go.Proofs.YtaijfhadecennabGreat.Oct.Sx
open Go.RowKit
theorem UI (g n cap q:Nat) (zs:List Int) (k:Nat) (w:World) (h:Own 0 w (.slice (some ⟨g,0,none⟩) n cap) zs) (hb:Bys zs) (hl:zs.length<=1000000) (hk:k<zs.length*8) (hq:w.cell? ⟨q,0,none⟩=some (.slice (some ⟨g,0,none⟩) n cap)):
  Calls prog 68 #[.int .i64 k,.pointer (some ⟨q,0,none⟩)] w fun e w'=>e=.returned (.tuple #[])/\Own 0 w' (.slice (some ⟨g,0,none⟩) n cap) (zs.set (k/8) (bits .or .u8 (zs.getD (k/8) 0) (2^(k%8)%256)))/\Ch w.heap.size (fun x=>x=g) w w':=by
 obtain ⟨hn,b1,b2,hst⟩:=YC h (k/8) (by omega);obtain ⟨-,-,hcap,hm,-⟩:=h.cur;unfold maxLen at hm;have hkj:((k:Int)/8)=((k/8:Nat):Int):=by omega
 have hkr:((k:Int)%8)=((k%8:Nat):Int):=by omega
 have hr8:k%8<8:=by omega
 have hj:k/8<n:=by omega
 have HS:Hid (∀y:Int,Own 0 (w.setCell ⟨g,k/8,none⟩ (.int .u8 y)) (.slice (some ⟨g,0,none⟩) n cap) (zs.set (k/8) y)):=hst;have hzb:=hb.at (k/8);obtain ⟨z,hz'⟩:∃z,zs.getD (k/8) 0=z:=⟨_,rfl⟩;rw [hz'] at b1 hzb ⊢;obtain ⟨j,hj'⟩:∃j,k/8=j:=⟨_,rfl⟩;obtain ⟨r,hr'⟩:∃r,k%8=r:=⟨_,rfl⟩;rw [hj'] at b1 b2 hkj hj HS ⊢;rw [hr'] at hkr hr8 ⊢;have HL:Hid (n<=1000000):=by show _<=_;omega
 have hn1:=HL.out;clear hz' hj' hr' h hst hb hn hl hk;go_enter func68,ntmps68
 go_region
 go_end0
 exact ⟨rfl,HS.out _,(Ch.set (F:=fun x=>x=g) rfl _ _).drew⟩
def btK (N:Nat) (l:List Int) (k m:Nat):List Int:=bitsP (fun i=>decide (i<k)||decide ((i:Int)∈l.take m)) N
theorem FQ (N:Nat) (l:List Int) (k m:Nat):(btK N l k m).length=(N+7)/8:=yT _ _
theorem btK_sup {N:Nat} {l:List Int} {k:Nat} (hk:k<N):(btK N l k 0).set (k/8) (bits .or .u8 ((btK N l k 0).getD (k/8) 0) (2^(k%8)%256))=btK N l (k+1) 0:=by
 unfold btK;refine XV hk (by simp) fun i hi=>?_
 simp only [List.take_zero,yH,decide_false,Bool.or_false];exact decide_eq_decide.2 (by omega)
theorem btK_more {N:Nat} {l:List Int} {m x:Nat} (hx:x<N) (hm:m<l.length) (hl:l.getD m 0=(x:Int)):(btK N l 2 m).set (x/8) (bits .or .u8 ((btK N l 2 m).getD (x/8) 0) (2^(x%8)%256))=btK N l 2 (m+1):=by
 have e:l.take (m+1)=l.take m++[(x:Int)]:=by
  rw [xK,<-hl,jA,jC hm];rfl
 unfold btK;refine XV hx ?_ fun i hi=>?_
 ·rw [e];simp
 ·rw [e]
  congr 1
  refine decide_eq_decide.2 ?_;rw [qR,xT];constructor
  ·rintro (h|h)
   ·exact h
   ·omega
  ·exact .inl
section
variable {w:World}
set_option maxRecDepth 20000 in
theorem bitsOf_any (N:Nat) (a:Option Addr) (cap:Nat) (l:List Int) (hr:RowI w a cap l) (h8:8<=N) (h4:N<=4096) (hl:∀z∈l,0<=z/\z<(N:Int)) (hln:l.length<=4096):
  Calls prog 40 #[.int .i64 N,.slice a l.length cap] w fun e w'=>∃g c,e=.returned (.slice (some ⟨g,0,none⟩) ((N+7)/8) c)/\Own w.heap.size w' (.slice (some ⟨g,0,none⟩) ((N+7)/8) c) (btK N l 2 l.length)/\Below w.heap.size w w':=by
 obtain ⟨nb,hnb⟩:∃nb,(N+7)/8=nb:=⟨_,rfl⟩;obtain ⟨ln,hlen⟩:∃ln,l.length=ln:=⟨_,rfl⟩;have hmf:∀(fn:Fn) (first cap:Array Value) (w:World),(Instr.makeFunc fn first cap).run prog w=.ok (.func fn first cap) w:=fun _ _ _ _=>rfl
 have hq:((N:Int)+7)/8=(nb:Int):=by omega
 have hm:nb<=maxLen:=by unfold maxLen;omega
 have hnb1:nb<=513:=by omega
 have hrc:=hr.1;have hcm:=hr.2.1;unfold maxLen at hcm;have HK:Hid (RowI w a cap l/\8<=N/\N<=4096/\(∀z∈l,0<=z/\z<(N:Int))/\l.length=ln/\ln<=4096/\(N+7)/8=nb):=⟨hr,h8,h4,hl,hlen,by omega,hnb⟩;obtain ⟨i0,hi0,hz0,hz1,hz2⟩:=info_parts info5;rw [hlen,hnb];clear hr hl hln hlen hnb;go_enter func40,ntmps40
 go_upto_region 2 with (first
  |(at_make;refine wpList_make_full _ rfl _ _ 22 rfl w.heap.size 5 i0 (.int .u8 0) 1 underlying22 hi0 hz0 hz1 .i64 .i64 _ _ nb rfl rfl hq hq (by rw [hz2];omega) hm (jB _) ?_;intro w1 hown1 hgrow1
    have HO:Hid (Own w.heap.size w1 (.slice (some ⟨w.heap.size,0,none⟩) nb nb) (List.replicate nb 0)/\Below w.heap.size w w1):=⟨JG hown1,(Below.refl _ w).grown hgrow1 (jB _) (by simp)⟩;clear hown1 hgrow1 hm hi0 hz0 hz1 hz2))
 obtain ⟨wB,hwB⟩:∃wB,w1.alloc (.cells #[Value.slice (some {block:=w.heap.size,off:=0}) nb nb] 22)=wB:=⟨_,rfl⟩;rw [hwB];obtain ⟨qb,hqb⟩:∃qb,w1.heap.size=qb:=⟨_,rfl⟩;obtain ⟨gb,hgb⟩:∃gb,w.heap.size=gb:=⟨_,rfl⟩
 have HB:Hid (w.heap.size=gb/\gb<qb/\wB.heap[qb]?=some (.cells #[.slice (some ⟨gb,0,none⟩) nb nb] 22 (0,0))/\Own 0 wB (.slice (some ⟨gb,0,none⟩) nb nb) (btK N l 0 0)/\Below w.heap.size w wB):=by
  have hb:Below w1.heap.size w1 wB:=by rw [<-hwB];exact (Below.refl _ w1).alloc (jB _) _
  have h1:=World.ownsRow.lt HO.out.1 w.heap.size rfl;refine ⟨hgb,by omega,?_,?_,HO.out.2.trans (hb.mono HO.out.2.size)⟩
  ·rw [<-hwB,<-hqb,<-hgb];exact heap_alloc_new w1 _
  ·have h2:btK N l 0 0=List.replicate nb 0:=by
    unfold btK;rw [<-HK.out.2.2.2.2.2.2,<-YX];exact zA fun i _=>by simp
   rw [h2,<-hgb];exact yS (yN HO.out.1 (fun k hk=>hb.block k (World.ownsRow.lt HO.out.1 k hk).2)) (fun _ _=>jW _)
 rw [hqb,hgb];clear HO hwB hqb hq hgb;go_wp2;go_loopg [15] 2 (fun gh i wr=>∃k:Nat,k<=2/\gh=2-k/\i=.int .i64 (k:Int)/\Hid (Own 0 wr (.slice (some ⟨gb,0,none⟩) nb nb) (btK N l k 0)/\wr.heap[qb]?=some (.cells #[.slice (some ⟨gb,0,none⟩) nb nb] 22 (0,0))/\Below w.heap.size w wr))
 case atStart=>exact ⟨0,by omega,rfl,rfl,HB.out.2.2.2.1,HB.out.2.2.1,HB.out.2.2.2.2⟩
 case round=>
  obtain ⟨k,hk,hgk,rfl,HI⟩:=hrel;have HGK:Hid (gk=2-k):=hgk;clear hgk;by_cases hlt:k<2
  ·have hlt2:(k:Int)<2:=by omega
   have hbl:(btK N l k 0).length=nb:=(FQ ..).trans HK.out.2.2.2.2.2.2;have hsb:=UI gb nb nb qb (btK N l k 0) k wr HI.out.1 (zP _ _) (by omega) (by have:=HK.out.2.1;have:=HK.out.2.2.2.2.2.2;omega) (by rw [cell_of_row _ _ _ _ _ (0,0) HI.out.2.1];rfl);rw [btK_sup (show k<N by have:=HK.out.2.1;omega)] at hsb;clear hbl;go_wp2_with (go_at_call 68;refine hsb.mono ?_;rintro e w2 ⟨rfl,h1,h2⟩;have HJ:Hid (Own 0 w2 (.slice (some ⟨gb,0,none⟩) nb nb) (btK N l (k+1) 0)/\w2.heap[qb]?=some (.cells #[.slice (some ⟨gb,0,none⟩) nb nb] 22 (0,0))/\Below w.heap.size w w2):=⟨h1,(h2.block qb (yO HI.out.2.1) (by have:=HB.out.2.1;omega)).trans HI.out.2.1,HI.out.2.2.trans ((h2.mono HI.out.2.2.size (fun _ _ e=>e)).below (fun _ e=>by have:=HB.out.1;omega))⟩;clear hsb h1 h2)
   go_roundg (2-(k+1))
   case rel=>exact ⟨k+1,by omega,rfl,by go_num,HJ.out⟩
   case measure=>have:=HGK.out;omega
  ·obtain rfl:k=2:=by omega
   go_wp2;go_loopg [24] ln (fun gh i wr=>∃k:Nat,k<=ln/\gh=ln-k/\i=.int .i64 (k:Int)/\Hid (Own 0 wr (.slice (some ⟨gb,0,none⟩) nb nb) (btK N l 2 k)/\wr.heap[qb]?=some (.cells #[.slice (some ⟨gb,0,none⟩) nb nb] 22 (0,0))/\Below w.heap.size w wr))
   case atStart=>exact ⟨0,by omega,rfl,rfl,HI.out⟩
   case round=>
    clear HI HGK;obtain ⟨k,hk2,hgk,rfl,HI⟩:=hrel;have HGK:Hid (_=ln-k):=hgk;clear hgk;by_cases hlt2:k<ln
    ·obtain ⟨h1,h2,h3,h4,h5,h6,h7⟩:=HK.out;obtain ⟨ab,ao,rfl,hac⟩:=h1.at' k (by omega);have hcl:=(HI.out.2.2.cell (p:=⟨ab,ao+k,none⟩) (block_lt_of_cell hac)).trans hac;have hmem:l.getD k 0∈l:=by rw [jA,jC (by omega)];exact qA _
     obtain ⟨x,hx⟩:∃x:Nat,l.getD k 0=(x:Int):=⟨_,(qD (h4 _ hmem).1).symm⟩;have hxn:=(h4 _ hmem).2;rw [hx] at hcl hxn;have hsb:=UI gb nb nb qb (btK N l 2 k) x wr HI.out.1 (zP _ _) (by rw [FQ,h7];omega) (by rw [FQ,h7];omega) (by rw [cell_of_row _ _ _ _ _ (0,0) HI.out.2.1];rfl);rw [btK_more (show x<N by omega) (by omega) hx] at hsb;have hkc:k<cap:=by omega
     clear h1 h2 h3 h4 h5 h6 h7 hac hmem hx hxn;go_wp2_with (go_at_call 68;refine hsb.mono ?_;rintro e w2 ⟨rfl,h1,h2⟩;have HJ:Hid (Own 0 w2 (.slice (some ⟨gb,0,none⟩) nb nb) (btK N l 2 (k+1))/\w2.heap[qb]?=some (.cells #[.slice (some ⟨gb,0,none⟩) nb nb] 22 (0,0))/\Below w.heap.size w w2):=⟨h1,(h2.block qb (yO HI.out.2.1) (by have:=HB.out.2.1;omega)).trans HI.out.2.1,HI.out.2.2.trans ((h2.mono HI.out.2.2.size (fun _ _ e=>e)).below (fun _ e=>by have:=HB.out.1;omega))⟩;clear hsb h1 h2)
     go_roundg (ln-(k+1))
     case rel=>exact ⟨k+1,by omega,rfl,by go_num,HJ.out⟩
     case measure=>have:=HGK.out;omega
    ·obtain rfl:k=ln:=by omega
     have hqc:wr.cell? ⟨qb,0,none⟩=some (.slice (some ⟨gb,0,none⟩) nb nb):=by rw [cell_of_row _ _ _ _ _ (0,0) HI.out.2.1];rfl
     have HE:Hid (Own w.heap.size wr (.slice (some ⟨gb,0,none⟩) nb nb) (btK N l 2 k)/\Below w.heap.size w wr):=⟨yS HI.out.1 (fun j hj=>by cases hj;exact xO HB.out.1),HI.out.2.2⟩;clear HI;go_wp2;go_ret
     exact ⟨_,_,rfl,HE.out.1,HE.out.2⟩
end
end Go.Proofs.YtaijfhadecennabGreat.Oct.Sx
namespace Go.Proofs.YtaijfhadecennabGreat.Oct.Sx
open Go.RowKit
attribute [local go_sem ↓] kA
theorem StS_at {w:World} {b o:Nat} {cur:Array Value} {t:TypeId} (S:Sp) (h:w.heap[b]?=some (.cells cur t (0,0))) (ho:o+8<=cur.size):∃w9,(StS (.pointer (some ⟨b,o,none⟩)) (.agg (spC S))).run prog w=.ok () w9/\
  w9.heap[b]?=some (.cells ((((((((cur.setIfInBounds o (.int .i64 S.g)).setIfInBounds (o+1) (.int .i64 S.p)).setIfInBounds (o+2) (.int .i64 S.r)).setIfInBounds (o+3) (.int .i64 S.h)).setIfInBounds (o+4) (.int .i64 S.b)).setIfInBounds (o+5) (.int .i64 S.l)).setIfInBounds (o+6) (.int .i64 S.s)).setIfInBounds (o+7) (.int .i64 S.f)) t (0,0))/\Ch w.heap.size (fun k=>k=b) w w9/\w9.heap.size=w.heap.size:=by
 refine ⟨w.setCells b o (spC S).toList,?_,?_,uW b (spC S).toList o w,JQ b _ o w⟩
 ·unfold StS;refine run_storeAt_mid w b o 26 (spC S) ?_ (by kernel_rfl) (by simp [spC,Value.oneCell']);intro j hj;have hj':j<8:=hj;refine ⟨?_,by unfold World.frozen?;rw [h];simp⟩;rw [cell_of_row w b _ _ _ (0,0) h,qX (by omega)];rfl
 ·simp only [spC,World.setCells];rw [yK _ _ _ _ _ _ _ (yK _ _ _ _ _ _ _ (yK _ _ _ _ _ _ _ (yK _ _ _ _ _ _ _ (yK _ _ _ _ _ _ _ (yK _ _ _ _ _ _ _ (yK _ _ _ _ _ _ _ (yK _ _ _ _ _ _ _ h)))))))]
theorem cmC_put (s:Nat) (v:Value) (S0 S:Sp) (vC vT vB:Value) (bg:Bool):(((((((((cmC s v S0 vC vT vB bg).setIfInBounds 2 (.int .i64 S.g)).setIfInBounds (2+1) (.int .i64 S.p)).setIfInBounds (2+2) (.int .i64 S.r)).setIfInBounds (2+3) (.int .i64 S.h)).setIfInBounds (2+4) (.int .i64 S.b)).setIfInBounds (2+5) (.int .i64 S.l)).setIfInBounds (2+6) (.int .i64 S.s)).setIfInBounds (2+7) (.int .i64 S.f))=cmC s v S vC vT vB bg:=by
 simp [cmC]
def cmW (w:World) (s:Nat) (aS:Option Addr) (n cS:Nat):World:=(w.alloc (.cells #[Value.int IntKind.i64 0,Value.int IntKind.i64 0,Value.int IntKind.i64 0,Value.int IntKind.i64 0,Value.int IntKind.i64 0,Value.int IntKind.i64 0,Value.int IntKind.i64 0,Value.int IntKind.i64 0] 26)).alloc (.cells #[.pointer (some ⟨s,0,none⟩),.slice aS n cS,.int .i64 0,.int .i64 0,.int .i64 0,.int .i64 0,.int .i64 0,.int .i64 0,.int .i64 0,.int .i64 0,.slice none 0 0,.pointer none,.pointer none,.bool false] 107)
theorem cmW_all (w:World) (s:Nat) (aS:Option Addr) (n cS:Nat):Below w.heap.size w (cmW w s aS n cS)/\(cmW w s aS n cS).heap.size=w.heap.size+2/\
  (∀i,(cmW w s aS n cS).cell? ⟨w.heap.size,i,none⟩= #[Value.int IntKind.i64 0,Value.int IntKind.i64 0,Value.int IntKind.i64 0,Value.int IntKind.i64 0,Value.int IntKind.i64 0,Value.int IntKind.i64 0,Value.int IntKind.i64 0,Value.int IntKind.i64 0][i]?)/\
  (cmW w s aS n cS).heap[w.heap.size+1]?=some (.cells (cmC s (.slice aS n cS) sp0 (.slice none 0 0) (.pointer none) (.pointer none) false) 107 (0,0)):=by
 have h0:(cmW w s aS n cS).heap[w.heap.size]?=some (.cells #[Value.int IntKind.i64 0,Value.int IntKind.i64 0,Value.int IntKind.i64 0,Value.int IntKind.i64 0,Value.int IntKind.i64 0,Value.int IntKind.i64 0,Value.int IntKind.i64 0,Value.int IntKind.i64 0] 26 (0,0)):=heap_alloc2_old w _ _;refine ⟨((Below.refl _ w).alloc (jB _) _).alloc (by simp) _,by unfold cmW;simp,fun i=>cell_of_row _ _ _ _ _ (0,0) h0,heap_alloc2_new w _ _⟩
section
variable {w:World} {s d p sp cC cS:Nat} {aC aS:Option Addr} {X:St} {zs:List Int} {lab:Nat->Nat}
set_option maxRecDepth 20000 in
theorem GU (h:StoC w s d p sp aC cC lab X) (hg:0<=X.g/\X.g+1<=1000000000) (R:Int->World->Prop)
  (hQ:∀wC,Below w.heap.size w wC->wC.heap.size=w.heap.size+2->wC.heap[w.heap.size+1]?=some (.cells (cmC s (.slice aS zs.length cS) (sup (X.g+1) X.D.n 0 0) (.slice none 0 0) (.pointer none) (.pointer none) false) 107 (0,0))->
   Calls prog 51 #[.func (.func 52) #[.pointer (some ⟨w.heap.size+1,0,none⟩)] #[],.func (.func 53) #[.pointer (some ⟨w.heap.size+1,0,none⟩)] #[]] wC fun e w'=>∃k,e=.returned (.int .i64 k)/\R k w'):
  Calls prog 21 #[.pointer (some ⟨s,0,none⟩),spV (sup 0 0 0 0),.slice aS zs.length cS] w fun e w'=>∃k,e=.returned (.int .i64 k)/\R k w':=by
 obtain ⟨s0,s1,s2,s11,s12,s13,_⟩:=h.at;obtain ⟨F1,hp,_⟩:=h.pool;have hmd:=fun (wx:World) (hx:wx.cell? ⟨s,0,none⟩=some (.pointer (some ⟨d,0,none⟩)))=>QV s d wx hx
 unfold spV sup;have hmf:∀(fn:Fn) (first cap:Array Value) (w:World),(Instr.makeFunc fn first cap).run prog w=.ok (.func fn first cap) w:=fun _ _ _ _=>rfl
 have HP:Hid (Pool w p d F1 X.D X.N X.L):=hp;have hsl:=h.lt
 have HQ:Hid (∀wC,Below w.heap.size w wC->wC.heap.size=w.heap.size+2->wC.heap[w.heap.size+1]?=some (.cells (cmC s (.slice aS zs.length cS) (sup (X.g+1) X.D.n 0 0) (.slice none 0 0) (.pointer none) (.pointer none) false) 107 (0,0))->
   Calls prog 51 #[.func (.func 52) #[.pointer (some ⟨w.heap.size+1,0,none⟩)] #[],.func (.func 53) #[.pointer (some ⟨w.heap.size+1,0,none⟩)] #[]] wC fun e w'=>∃k,e=.returned (.int .i64 k)/\R k w'):=hQ
 clear h hp hQ;go_enter func21,ntmps21
 go_wp2_with (go_at_call 43;refine (hmd _ (by go_simp)).mono ?_;rintro e w' ⟨rfl,rfl⟩)
 obtain ⟨hbB,hsz,k0,hk1⟩:=cmW_all w s aS zs.length cS;obtain ⟨wB,hwB⟩:∃wB,cmW w s aS zs.length cS=wB:=⟨_,rfl⟩;rw [hwB] at hbB hsz k0 hk1;unfold cmW at hwB;rw [hwB];clear hwB;have e0:=(hbB.cell (p:=⟨s,0,none⟩) hsl).trans s0;have e13:=(hbB.cell (p:=⟨s,13,none⟩) hsl).trans s13;have a2:=k0 2;have a3:=k0 3;have a4:=k0 4;have a5:=k0 5;simp only [xA,qV,qH] at a2 a3 a4 a5;have hpgB:=JP (w:=wB.drew) (Pool.keep HP.out hbB.size (fun g hg=>hbB.block g (HP.out.lt g hg)));have HB:Hid (Below w.heap.size w wB/\wB.heap.size=w.heap.size+2/\wB.heap[w.heap.size+1]?=some (.cells (cmC s (.slice aS zs.length cS) sp0 (.slice none 0 0) (.pointer none) (.pointer none) false) 107 (0,0))):=⟨hbB,hsz,hk1⟩;clear k0 s0 s1 s2 s11 s12 s13 hmd hbB hsz hk1;have e0d:wB.drew.cell? ⟨s,0,none⟩=some (.pointer (some ⟨d,0,none⟩)):=e0;obtain ⟨wC,hst,hcC,hchC,hszC⟩:=StS_at (w:=wB.drew) (o:=2) (sup (X.g+1) X.D.n 0 0) HB.out.2.2 (by simp [cmC])
 have HC:Hid (Below w.heap.size w wC/\wC.heap.size=w.heap.size+2/\wC.heap[w.heap.size+1]?=some (.cells (cmC s (.slice aS zs.length cS) (sup (X.g+1) X.D.n 0 0) (.slice none 0 0) (.pointer none) (.pointer none) false) 107 (0,0))):=by
  obtain ⟨h1,h2,h3⟩:=HB.out;refine ⟨h1.trans ⟨hchC.os,hchC.tape,hchC.output,hchC.size,fun i hi=>hchC.block i ?_ (by omega)⟩,hszC.trans h2,by rw [hcC,cmC_put]⟩;show i<wB.heap.size;omega
 have hwr:IntKind.i64.wrap (X.g+1)=X.g+1:=by rw [IntKind.wrap_i64];omega
 unfold spC sup at hst;dsimp only at hst;rw [<-hwr] at hst;have y0:wC.cell? ⟨s,0,none⟩=some (.pointer (some ⟨d,0,none⟩)):=(hchC.cell (p:=⟨s,0,none⟩) (by show s<wB.heap.size;have:=HB.out.2.1;omega) (by show ¬s=_;omega)).trans e0;have y13:wC.cell? ⟨s,13,none⟩=some (.int .i64 X.g):=(hchC.cell (p:=⟨s,13,none⟩) (by show s<wB.heap.size;have:=HB.out.2.1;omega) (by show ¬s=_;omega)).trans e13;have yb:∀i v,wB.cell? ⟨w.heap.size,i,none⟩=some v->wC.cell? ⟨w.heap.size,i,none⟩=some v:=fun i v hv=>(hchC.cell (p:=⟨w.heap.size,i,none⟩) (by show w.heap.size<wB.heap.size;have:=HB.out.2.1;omega) (by show ¬w.heap.size=_;omega)).trans hv
 have y2:=yb 2 _ a2;have y3:=yb 3 _ a3;have y4:=yb 4 _ a4;have y5:=yb 5 _ a5;clear yb hcC hchC hszC hwr;refine wp_region_held_drew (S:=fun w'=>w'.cell? ⟨s,0,none⟩=some (.pointer (some ⟨d,0,none⟩))/\w'.cell? ⟨s,13,none⟩=some (.int .i64 X.g)/\w'.cell? ⟨w.heap.size,2,none⟩=some (.int .i64 0)/\w'.cell? ⟨w.heap.size,3,none⟩=some (.int .i64 0)/\w'.cell? ⟨w.heap.size,4,none⟩=some (.int .i64 0)/\w'.cell? ⟨w.heap.size,5,none⟩=some (.int .i64 0)) (by kernel_rfl) ?_ (fun hHeld=>?_)
 ·(first|go_keep|exact ⟨by assumption,by assumption,by assumption,by assumption,by assumption,by assumption⟩)
 refine wpAnyH_take (i:=0) (v:=?_) rfl (by kernel_rfl) (by kernel_rfl) (by kernel_rfl) (fun _ _ _ h=>h) (Or.inl ⟨by rfl,?_⟩) (by assumption) ?_;rotate_left
 ·intro w hSw;(try dsimp only at hSw);go_simp;try with_reducible rfl
 simp only [jI,jE,Act.put,jD,jK,jH];refine wpAnyH_take (i:=1) (v:=?_) rfl (by kernel_rfl) (by kernel_rfl) (by kernel_rfl) (fun _ _ _ h=>h) (Or.inl ⟨by rfl,?_⟩) (by assumption) ?_;rotate_left
 ·intro w hSw;(try dsimp only at hSw);go_simp;try with_reducible rfl
 simp only [jI,jG,jE,Act.put,jD,jK,jH];refine wpAnyH_take (i:=2) (v:=?_) rfl (by kernel_rfl) (by kernel_rfl) (by kernel_rfl) (fun _ _ _ h=>h) (Or.inl ⟨by rfl,?_⟩) (by assumption) ?_;rotate_left
 ·intro w hSw;(try dsimp only at hSw);go_simp;try with_reducible rfl
 simp only [jI,jG,jE,Act.put,jD,jK,jH];refine wpAnyH_take (i:=3) (v:=?_) rfl (by kernel_rfl) (by kernel_rfl) (by kernel_rfl) (fun _ _ _ h=>h) (Or.inl ⟨by rfl,?_⟩) (by assumption) ?_;rotate_left
 ·intro w hSw;(try dsimp only at hSw);go_simp;try with_reducible rfl
 simp only [jI,jG,jE,Act.put,jD,jK,jH];refine wpAnyH_take (i:=4) (v:=?_) rfl (by kernel_rfl) (by kernel_rfl) (by kernel_rfl) (fun _ _ _ h=>h) (Or.inl ⟨by rfl,?_⟩) (by assumption) ?_;rotate_left
 ·intro w hSw;(try dsimp only at hSw);go_simp;try with_reducible rfl
 simp only [jI,jG,jE,Act.put,jD,jK,jH];refine wpAnyH_take (i:=5) (v:=?_) rfl (by kernel_rfl) (by kernel_rfl) (by kernel_rfl) (fun _ _ _ h=>h) (Or.inl ⟨by rfl,?_⟩) (by assumption) ?_;rotate_left
 ·intro w hSw;(try dsimp only at hSw);go_simp;try with_reducible rfl
 simp only [jI,jG,jE,Act.put,jD,jK,jH];refine wpAnyH_take (i:=6) (v:=?_) rfl (by kernel_rfl) (by kernel_rfl) (by kernel_rfl) (fun _ _ _ h=>h) (Or.inl ⟨by rfl,?_⟩) (by assumption) ?_;rotate_left
 ·intro w hSw;(try dsimp only at hSw);go_simp;try with_reducible rfl
 simp only [jI,jG,jE,Act.put,jD,jK,jH];refine wpAnyH_take (i:=7) (v:=?_) rfl (by kernel_rfl) (by kernel_rfl) (by kernel_rfl) (fun _ _ _ h=>h) (Or.inl ⟨by rfl,?_⟩) (by assumption) ?_;rotate_left
 ·intro w hSw;(try dsimp only at hSw);go_simp;try with_reducible rfl
 simp only [jI,jG,jE,Act.put,jD,jK,jH];refine wpAnyH_take (i:=8) (v:=?_) rfl (by kernel_rfl) (by kernel_rfl) (by kernel_rfl) (fun _ _ _ h=>h) (Or.inl ⟨by rfl,?_⟩) (by assumption) ?_;rotate_left
 ·intro w hSw;(try dsimp only at hSw);go_simp;try with_reducible rfl
 simp only [jI,jG,jE,Act.put,jD,jK,jH];refine wpAnyH_take (i:=9) (v:=?_) rfl (by kernel_rfl) (by kernel_rfl) (by kernel_rfl) (fun _ _ _ h=>h) (Or.inl ⟨by rfl,?_⟩) (by assumption) ?_;rotate_left
 ·intro w hSw;(try dsimp only at hSw);go_simp;try with_reducible rfl
 simp only [jI,jG,jE,Act.put,jD,jK,jH];refine wpAnyH_take (i:=11) (v:=?_) rfl (by kernel_rfl) (by kernel_rfl) (by kernel_rfl) (fun _ _ _ h=>h) (Or.inl ⟨by rfl,?_⟩) (by assumption) ?_;rotate_left
 ·intro w hSw;(try dsimp only at hSw);go_simp;try with_reducible rfl
 simp only [jI,jG,jE,Act.put,jD,jK,jH];refine wpAnyH_take (i:=12) (v:=?_) rfl (by kernel_rfl) (by kernel_rfl) (by kernel_rfl) (fun _ _ _ h=>h) (Or.inl ⟨by rfl,?_⟩) (by assumption) ?_;rotate_left
 ·intro w hSw;(try dsimp only at hSw);go_simp;try with_reducible rfl
 simp only [jI,jG,jE,Act.put,jD,jK,jH];refine wpAnyH_take (i:=13) (v:=?_) rfl (by kernel_rfl) (by kernel_rfl) (by kernel_rfl) (fun _ _ _ h=>h) (Or.inl ⟨by rfl,?_⟩) (by assumption) ?_;rotate_left
 ·intro w hSw;(try dsimp only at hSw);go_simp;try with_reducible rfl
 simp only [jI,jG,jE,Act.put,jD,jK,jH];refine wpAnyH_take (i:=14) (v:=?_) rfl (by kernel_rfl) (by kernel_rfl) (by kernel_rfl) (fun _ _ _ h=>h) (Or.inl ⟨by rfl,?_⟩) (by assumption) ?_;rotate_left
 ·intro w hSw;(try dsimp only at hSw);go_simp;try with_reducible rfl
 simp only [jI,jG,jE,Act.put,jD,jK,jH];refine wpAnyH_take (i:=15) (v:=?_) rfl (by kernel_rfl) (by kernel_rfl) (by kernel_rfl) (fun _ _ _ h=>h) (Or.inl ⟨by rfl,?_⟩) (by assumption) ?_;rotate_left
 ·intro w hSw;(try dsimp only at hSw);go_simp;try with_reducible rfl
 simp only [jI,jG,jE,Act.put,jD,jK,jH];refine wpAnyH_take (i:=16) (v:=?_) rfl (by kernel_rfl) (by kernel_rfl) (by kernel_rfl) (fun _ _ _ h=>h) (Or.inl ⟨by rfl,?_⟩) (by assumption) ?_;rotate_left
 ·intro w hSw;(try dsimp only at hSw);go_simp;try with_reducible rfl
 simp only [jI,jG,jE,Act.put,jD,jK,jH];refine wpAnyH_take (i:=17) (v:=?_) rfl (by kernel_rfl) (by kernel_rfl) (by kernel_rfl) (fun _ _ _ h=>h) (Or.inl ⟨by rfl,?_⟩) (by assumption) ?_;rotate_left
 ·intro w hSw;(try dsimp only at hSw);go_simp;try with_reducible rfl
 simp only [jI,jG,jE,Act.put,jD,jK,jH];refine wpAnyH_take (i:=18) (v:=?_) rfl (by kernel_rfl) (by kernel_rfl) (by kernel_rfl) (fun _ _ _ h=>h) (Or.inl ⟨by rfl,?_⟩) (by assumption) ?_;rotate_left
 ·intro w hSw;(try dsimp only at hSw);go_simp;try with_reducible rfl
 simp only [jI,jG,jE,Act.put,jD,jK,jH];refine wpAnyH_ready (rs:=[10]) (by kernel_rfl) (by simp) ?_;refine AllReadyH.cons rfl (fun K hK=>?_) AllReadyH.nil;go_simp
 (go_at_call 39;refine hpgB.mono ?_;rintro e w' ⟨rfl,rfl⟩)
 go_wp2_with fail
 refine hK.out _ _ ?_ (fun hHeld2=>?_)
 ·(first|go_keep|exact ⟨by assumption,by assumption,by assumption,by assumption,by assumption,by assumption⟩)
 clear hK K hHeld;have hHeld:=hHeld2;clear hHeld2;refine wpAnyH_take (i:=19) (v:=?_) rfl (by kernel_rfl) (by kernel_rfl) (by kernel_rfl) (fun _ _ _ h=>h) (Or.inl ⟨by rfl,?_⟩) (by assumption) ?_;rotate_left
 ·intro w hSw;(try dsimp only at hSw);go_simp;try with_reducible rfl
 simp only [jI,jG,jE,Act.put,jD,jK,jH];refine wpAnyH_take (i:=20) (v:=?_) rfl (by kernel_rfl) (by kernel_rfl) (by kernel_rfl) (fun _ _ _ h=>h) (Or.inl ⟨by rfl,?_⟩) (by assumption) ?_;rotate_left
 ·intro w hSw;(try dsimp only at hSw);go_simp;try with_reducible rfl
 simp only [jI,jG,jE,Act.put,jD,jK,jH];refine wpAnyH_take (i:=21) (v:=?_) rfl (by kernel_rfl) (by kernel_rfl) (by kernel_rfl) (fun _ _ _ h=>h) (Or.inl ⟨by rfl,?_⟩) (by assumption) ?_;rotate_left
 ·intro w hSw;(try dsimp only at hSw);go_simp;try with_reducible rfl
 simp only [jI,jG,jE,Act.put,jD,jK,jH];refine wpAnyH_ready (rs:=[22]) (by kernel_rfl) (by simp) ?_;refine AllReadyH.cons rfl (fun K hK=>?_) AllReadyH.nil;go_simp
 skip
 go_wp2_with fail
 refine hK.out _ _ ?_ (fun hHeld2=>?_)
 ·(first|go_keep|exact ⟨by assumption,by assumption,by assumption,by assumption,by assumption,by assumption⟩)
 clear hK K hHeld;have hHeld:=hHeld2;clear hHeld2;refine wpAnyH_done (by kernel_rfl) ?_ _;clear y0 y13 y2 y3 y4 y5 hHeld hpgB e0 e13 e0d a2 a3 a4 a5 hst HB HP;have hca:=HQ.out wC HC.out.1 HC.out.2.1 HC.out.2.2;clear HQ HC;go_wp2_with (go_at_call 51;refine hca.mono ?_;rintro e w' ⟨k,rfl,hr⟩)
 go_ret
 exact ⟨k,rfl,hr⟩
end
end Go.Proofs.YtaijfhadecennabGreat.Oct.Sx
