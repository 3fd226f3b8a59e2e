/- Part of a proof. -/
import Derived.Test.YtjllhcifmfhkmaaGreatAuo
import Derived.Test.YtjllhcifmfhkmaaGreatBe
import Derived.Test.YtjllhcifmfhkmaaGreatAug
import Derived.Test.YtjllhcifmfhkmaaGreatGc
import Derived.Deep.RegionHeld3
import Derived.BigRegion
set_option maxHeartbeats 4000000
namespace Go.Proofs.YtjllhcifmfhkmaaGreat.Oct
open Go.RowKit
def rpt0:Array Value:= #[.int .i64 0,.int .i64 0,.int .i64 0,.int .i64 0,.int .i64 0,.int .i64 0,.int .i64 0,.int .i64 0,.int .i64 0,.slice none 0 0,.slice none 0 0,.slice none 0 0,.slice none 0 0]
def spx (w:World) (S:Sp):World:=(w.alloc (.cells (spC' S) 28)).alloc (.cells rpt0 33)
theorem spx_below (w:World) (S:Sp):Below w.heap.size w (spx w S):=by
 have h1:Below w.heap.size w (w.alloc (.cells (spC' S) 28)):=(Below.refl _ w).alloc (Nat.le_refl _) _;exact h1.alloc h1.size _
set_option maxRecDepth 20000 in
theorem survey_pages {w:World} {d N:Nat} {FD:Nat→Prop} {D0:Dv} (hd:Dev w d FD D0) (hN:D0.n=N) (S:Sp) (hne:¬S.p=(N:Int)):
  Calls Tryz.prog 29 #[.pointer (some ⟨d,0,none⟩),spV S] w fun e w'=>e=thrA 8∧Below w.heap.size w w':=by
 have HDV:Hid (Dev (spx w S).drew d FD D0):=hd.below (spx_below w S).drew;have HB:Hid (Below w.heap.size w (spx w S)):=spx_below w S;have HN:Hid (D0.n=N):=hN;have hne1:(S.p==(N:Int))=false:=by rw [beq_eq_false_iff_ne];exact hne
 have hp1:(spx w S).cell? ⟨w.heap.size,1,none⟩=some (.int .i64 S.p):=by unfold spx;rw [cell_of_row _ _ _ (spC' S) 28 (0,0) (heap_alloc2_old w _ _)];rfl
 unfold spV;clear hd hne hN;go_enter Tryz.func29,Tryz.ntmps29
 go_upto_region 1 with fail
 rw [show ((w.alloc (.cells #[.int .i64 S.g,.int .i64 S.p,.int .i64 S.r,.int .i64 S.h,.int .i64 S.b,.int .i64 S.l,.int .i64 S.s,.int .i64 S.f] 28)).alloc (.cells #[.int .i64 0,.int .i64 0,.int .i64 0,.int .i64 0,.int .i64 0,.int .i64 0,.int .i64 0,.int .i64 0,.int .i64 0,.slice none 0 0,.slice none 0 0,.slice none 0 0,.slice none 0 0] 33))=spx w S from rfl];generalize spx w S=ws at hp1 HDV HB ⊢;refine wp_region_held_drew (S:=(fun w'=>w'.cell? ⟨w.heap.size,1,none⟩=some (.int .i64 S.p))) (by kernel_rfl) ?_ (fun hHeld=>?_)
 ·(first|go_keep|assumption)
 refine tkH ?_ 0 ?_ ?_;rotate_left
 ·(intro w hSw;(try dsimp only at hSw);go_simp;first|done|with_reducible rfl)
 simp only [gx];refine tkH ?_ 1 ?_ ?_;rotate_left
 ·(intro w hSw;(try dsimp only at hSw);go_simp;first|done|with_reducible rfl)
 simp only [gx];refine tkH ?_ 2 ?_ ?_;rotate_left
 ·(intro w hSw;(try dsimp only at hSw);go_simp;first|done|with_reducible rfl)
 simp only [gx];refine wpAnyH_ready (rs:=[3]) (by kernel_rfl) (by simp) ?_;refine AllReadyH.cons rfl (fun K hK=>?_) AllReadyH.nil;go_simp;refine (pages_any HDV.out).mono ?_;rintro e w' ⟨rfl,rfl⟩;rw [HN.out];go_wp2_with fail
 refine hK.out _ _ ?_ (fun hHeld2=>?_)
 ·(first|go_keep|assumption)
 clear hK K hHeld;have hHeld:=hHeld2;clear hHeld2;refine tkH ?_ 4 ?_ ?_;rotate_left
 ·(intro w hSw;(try dsimp only at hSw);go_simp;first|done|with_reducible rfl)
 simp only [gx];refine wpAnyH_ready (rs:=[5]) (by kernel_rfl) (by simp) ?_;refine AllReadyH.cons rfl (fun K hK=>?_) AllReadyH.nil;go_simp;refine (demand_no ws.drew).mono ?_;rintro e w' ⟨rfl,rfl⟩;have HE:Hid (Below w.heap.size w ws.drew):=HB.out.drew;unfold thrA;clear hHeld HDV HB;go_wp2;exact ⟨rfl,rfl,HE.out⟩
def rpP (S:Sp) (pl:Int) (vP vT vS vG:Value):Array Value:= #[.int .i64 S.g,.int .i64 S.p,.int .i64 S.r,.int .i64 S.h,.int .i64 S.b,.int .i64 S.l,.int .i64 S.s,.int .i64 S.f,.int .i64 pl,vP,vT,vS,vG]
def RepP (F G:Nat→Prop) (w:World) (v:Value) (R:Rp):Prop:=∃aP cP aT cT aS cS aG cG,v=.agg (rpP R.s R.pl (.slice aP R.pc.length cP) (.slice aT R.tx.length cT) (.slice aS R.st.length cS) (.slice aG R.pg.length cG))∧RowC w aP cP R.pc∧Row w aT cT R.tx∧Row w aS cS R.st∧RowI w aG cG R.pg∧∀k,(obl aP k∨obl aT k∨obl aS k∨obl aG k)→(¬F k∧k<w.heap.size)∧G k
theorem su_okC {L:List Int} {S:Sp} {T:Tc} (hL:Bys L) (h:suT L S=some T) {x:C4} (hx:x∈T.pc):okC false x=true:=by
 unfold suT at h;split at h
 ·cases h;cases hx
 ·exact (tcT_in hL _ _ _ _ h).2 x hx
def SvE (w:World) (d:Nat) (FD:Nat→Prop) (D0:Dv) (L:List Int) (N:Nat) (S:Sp) (e:Ending) (w':World):Prop:=
 (∃r v,e=.returned v∧Su L S r∧∃k FD',RepP FD' (fun k=>FD k∨w.heap.size≤k) w' v r∧k≤N∧Dev w' d FD' (rdK D0 k)∧(∀j,j<k→tellsD (rdK D0 j)=true)∧Step FD FD' w w')∨AuBad w FD d D0 N e w' (∀r,¬Su L S r)
theorem rpP_no8 (S:Sp) (pl:Int) (a1 a2 a3 a4:Option Addr) (n1 n2 n3 n4 c1 c2 c3 c4:Nat) (z:Int):∀i:Nat,(rpP S pl (.slice a1 n1 c1) (.slice a2 n2 c2) (.slice a3 n3 c3) (.slice a4 n4 c4))[i]?≠some (.int .u8 z)
 |0|1|2|3|4|5|6|7|8|9|10|11|12=>by unfold rpP;simp
 |i+13=>by unfold rpP;simp
theorem RowI.keepO' {w w':World} {a:Option Addr} {c:Nat} {zs:List Int} (h:RowI w a c zs) (k:∀g,obl a g→w'.heap[g]?=w.heap[g]?):RowI w' a c zs:=by
 obtain ⟨h2,h3,h4⟩:=h;refine ⟨h2,h3,?_⟩;rcases h4 with h4|⟨b,off,e,hi⟩
 ·exact .inl h4
 ·exact .inr ⟨b,off,e,fun i hl=>(World.cell?_of_block (w:=w) (a:=⟨b,off+i,none⟩) (k b ⟨_,e,rfl⟩)).trans (hi i hl)⟩
def StP (x y:Value):Sem Unit:=Instr.storeAt 33 x y
theorem StP_eq (x y:Value):Instr.storeAt 33 x y=StP x y:=rfl
def LdP (x:Value):Sem Value:=Instr.loadAt 33 x
theorem LdP_eq (x:Value):Instr.loadAt 33 x=LdP x:=rfl
theorem rpP_one (S:Sp) (pl:Int) (aP aT aS aG:Option Addr) (nP nT nS nG cP cT cS cG:Nat):(rpP S pl (.slice aP nP cP) (.slice aT nT cT) (.slice aS nS cS) (.slice aG nG cG)).all (·.oneCell')=true:=by
 simp [rpP,Value.oneCell']
theorem StP_run {w:World} {g:Nat} {old cs:Array Value} (hg:w.heap[g]?=some (.cells old 33 (0,0))) (ho:old.size=13) (hc:cs.size=13) (h1:cs.all (·.oneCell')=true):(StP (.pointer (some ⟨g,0,none⟩)) (.agg cs)).run Tryz.prog w=.ok () (w.setRow g cs):=by
 unfold StP;simp only [Instr.storeAt,Instr.sureAddr,Sem.run_bind,Sem.run_pure,Result.andThen_ok];rw [run_storeVar_row w g 33 33 old cs hg (by rw [hc];kernel_rfl) (by omega) h1]
theorem LdP_run {w:World} {g:Nat} {cs:Array Value} (hg:w.heap[g]?=some (.cells cs 33 (0,0))) (hc:cs.size=13):(LdP (.pointer (some ⟨g,0,none⟩))).run Tryz.prog w=.ok (.agg cs) w:=by
 unfold LdP;simp only [Instr.loadAt,Instr.sureAddr,Sem.run_bind,Sem.run_pure,Result.andThen_ok,run_loadVar_row (P:=Tryz.prog) w g 33 33 cs (0,0) _ hg Tryz.underlying33 rfl (by rw [hc];kernel_rfl)]
theorem StP_new (w:World) {cs:Array Value} (hc:cs.size=13) (h1:cs.all (·.oneCell')=true):(StP (.pointer (some ⟨w.heap.size,0,none⟩)) (.agg cs)).run Tryz.prog (w.alloc (.cells rpt0 33)).drew=.ok () ((w.alloc (.cells rpt0 33)).drew.setRow w.heap.size cs):=StP_run (w:=(w.alloc (.cells rpt0 33)).drew) (heap_alloc_new w _) rfl hc h1
theorem setRow_new (w:World) (o:Array Value) (t:TypeId) (cs:Array Value):((w.alloc (.cells o t)).drew.setRow w.heap.size cs).heap[w.heap.size]?=some (.cells cs t (0,0))∧Below w.heap.size w ((w.alloc (.cells o t)).drew.setRow w.heap.size cs):=
 ⟨setRow_heap (w.alloc (.cells o t)).drew _ _ _ _ _ (heap_alloc_new w _),((Ch.of (fun _=>False) ((Below.refl _ w).alloc (Nat.le_refl _) _).drew).setRow (.inl (Nat.le_refl _)) _).below (fun k e=>by cases e)⟩
section
variable {w wr w':World} {p d rb gr cr m cP cT cS:Nat} {F FD:Nat→Prop} {D0:Dv} {L tx st:List Int} {aP aT aS:Option Addr} {R:List Bool} {pcs:List C4} {ts:List (Nat × Value)} {T:Tc} {S:Sp}
theorem Row.cut8 {a:Option Addr} {c:Nat} {zs:List Int} (h:Row w a c zs) {b:Nat} (hb:∀i z,w.cell? ⟨b,i,none⟩≠some (.int .u8 z)) (hc:Ch w.heap.size (fun x=>x=b) w w'):Row w' a c zs:=by
 obtain ⟨h1,h2,h3,h4⟩:=h;refine ⟨h1,h2,h3,?_⟩;rcases h4 with h4|⟨g,off,ha,hi⟩
 ·exact .inl h4
 ·refine .inr ⟨g,off,ha,fun i hl=>?_⟩;have hg:=hi i hl;have hlt:g<w.heap.size:=block_lt_of_cell hg;have hne:¬g=b:=fun e=>by subst e;exact hb _ _ hg
  exact (hc.cell (p:=⟨g,off+i,none⟩) hlt hne).trans hg
theorem PW.other8 (h:PW w p d F FD D0 L gr cr m aP cP R pcs ts) {b:Nat} (hc:Ch w.heap.size (fun x=>x=b) w w') (hn:¬F b) (hb:∀i z,w.cell? ⟨b,i,none⟩≠some (.int .u8 z)):PW w' p d F FD D0 L gr cr m aP cP R pcs ts:=by
 have k:∀g,F g→w'.heap[g]?=w.heap[g]?:=fun g hg=>hc.block g (h.lt g hg) (fun e=>hn (e▸hg))
 refine {h with lt:=fun g hg=>Nat.lt_of_lt_of_le (h.lt g hg) hc.size,dev:=h.dev.keep hc.size (fun g hg=>k g (h.fD g hg)),cells:=(k p h.fp).trans h.cells,rch:=h.rch.kept (k gr h.fg),pc:=h.pc.keepO (fun g hg=>k g (h.fP g hg)),tx:=h.tx.keep (k m h.fm),row:=fun x hx=>?_};obtain ⟨a,c,e,h1,h2⟩:=h.row x hx;exact ⟨a,c,e,h1.cut8 hb hc,fun g hg=>⟨(h2 g hg).1,Nat.lt_of_lt_of_le (h2 g hg).2 hc.size⟩⟩
def RwK (w wr:World) (F:Nat→Prop) (rb:Nat) (a:Option Addr) (c:Nat) (zs:List Int):Prop:=Row wr a c zs∧∀k,obl a k→(¬F k∧¬k=rb)∧w.heap.size+2≤k∧k<wr.heap.size
theorem rwK_nil (w wr:World) (F:Nat→Prop) (rb:Nat):RwK w wr F rb none 0 []:=⟨⟨fun z hz=>(by cases hz),Nat.le_refl _,Nat.zero_le _,.inl rfl⟩,fun k ⟨x,e,_⟩=>(by cases e)⟩
theorem rwK_own {g:Option Addr} {B n c:Nat} {zs:List Int} (ho:Own B wr (.slice g n c) zs) (hb:Bys zs) (hF:∀k,F k→k<B) (hr:rb<B) (hw:w.heap.size+2≤B):RwK w wr F rb g c zs:=by
 refine ⟨(ho.row' hb).2,fun k ⟨x,e,hx⟩=>?_⟩;subst e;have:=World.ownsRow.lt ho k (by simp [Value.ownBlock,hx]);refine ⟨⟨fun h=>?_,by omega⟩,by omega,this.2⟩;have:=hF k h;omega
theorem RwK.keep {a:Option Addr} {c:Nat} {zs:List Int} (h:RwK w wr F rb a c zs) (hs:wr.heap.size≤w'.heap.size) (k:∀g,¬F g→¬g=rb→g<wr.heap.size→w'.heap[g]?=wr.heap[g]?):RwK w w' F rb a c zs:=
 ⟨h.1.keepO (fun g hg=>k g (h.2 g hg).1.1 (h.2 g hg).1.2 (h.2 g hg).2.2),fun g hg=>⟨(h.2 g hg).1,(h.2 g hg).2.1,Nat.lt_of_lt_of_le (h.2 g hg).2.2 hs⟩⟩
structure SvI (w wr:World) (p d rb:Nat) (FD F:Nat→Prop) (D0:Dv) (L:List Int) (R:List Bool) (T:Tc) (S:Sp) (ts:List (Nat × Value)) (aP:Option Addr) (cP:Nat) (aT:Option Addr) (cT:Nat) (tx:List Int) (aS:Option Addr) (cS:Nat) (st:List Int):Prop where
 px:∃FD' gr cr m,PW wr p d F FD' D0 L gr cr m aP cP R T.pc ts
 bk:wr.heap[rb]?=some (.cells (rpP S (-1) (.slice aP T.pc.length cP) (.slice aT tx.length cT) (.slice aS st.length cS) (.slice none 0 0)) 33 (0,0))
 s0:wr.heap[w.heap.size]?=some (.cells (spC' S) 28 (0,0))
 s1:wr.heap[w.heap.size+1]?=some (.cells rpt0 33 (0,0))
 stp:Step FD F w wr
 nf:¬F rb∧¬F w.heap.size∧¬F (w.heap.size+1)
 lo:w.heap.size+2≤rb
 kT:RwK w wr F rb aT cT tx
 kS:RwK w wr F rb aS cS st
theorem SvI.pw (h:SvI w wr p d rb FD F D0 L R T S ts aP cP aT cT tx aS cS st):PWA wr p d F D0 L R T.pc ts:=by
 obtain ⟨a,b,c,e,h⟩:=h.px;exact ⟨a,b,c,e,_,_,h⟩
theorem SvI.went (h:SvI w wr p d rb FD F D0 L R T S ts aP cP aT cT tx aS cS st) {w2:World} {R':List Bool} {ts':List (Nat × Value)} (h1:PWA w2 p d F D0 L R' T.pc ts') (hc:Ch wr.heap.size F wr w2) (hp:w2.heap[p]?=wr.heap[p]?):SvI w w2 p d rb FD F D0 L R' T S ts' aP cP aT cT tx aS cS st:=by
 obtain ⟨FD',gr,cr,m,hP⟩:=h.px;have k:∀g,¬F g→g<wr.heap.size→w2.heap[g]?=wr.heap[g]?:=fun g h1 h2=>hc.block g h2 h1
 exact ⟨PWA.same hP h1 hp,(k _ h.nf.1 (heap_lt h.bk)).trans h.bk,(k _ h.nf.2.1 (heap_lt h.s0)).trans h.s0,(k _ h.nf.2.2 (heap_lt h.s1)).trans h.s1,h.stp.trans (Step.of hc),h.nf,h.lo,h.kT.keep hc.size (fun g h1 _ h2=>k g h1 h2),h.kS.keep hc.size (fun g h1 _ h2=>k g h1 h2)⟩
theorem SvI.below (h:SvI w wr p d rb FD F D0 L R T S ts aP cP aT cT tx aS cS st) {w2:World} (hb:Below wr.heap.size wr w2):SvI w w2 p d rb FD F D0 L R T S ts aP cP aT cT tx aS cS st:=
 h.went (h.pw.below hb) (Ch.of F hb) (hb.block p (h.pw.lt p h.pw.fp))
theorem SvI.cell (h:SvI w wr p d rb FD F D0 L R T S ts aP cP aT cT tx aS cS st) (i:Nat):wr.cell? ⟨rb,i,none⟩=(rpP S (-1) (.slice aP T.pc.length cP) (.slice aT tx.length cT) (.slice aS st.length cS) (.slice none 0 0))[i]?:=cell_of_row wr _ _ _ _ (0,0) h.bk
theorem SvI.sup (h:SvI w wr p d rb FD F D0 L R T S ts aP cP aT cT tx aS cS st) (i:Nat):wr.cell? ⟨w.heap.size,i,none⟩=(spC' S)[i]?:=cell_of_row wr _ _ _ _ (0,0) h.s0
theorem SvI.frz (h:SvI w wr p d rb FD F D0 L R T S ts aP cP aT cT tx aS cS st) (i:Nat):wr.frozen? ⟨rb,i,none⟩=false:=by unfold World.frozen?;rw [h.bk];simp
theorem SvI.set (h:SvI w wr p d rb FD F D0 L R T S ts aP cP aT cT tx aS cS st) (i:Nat) (v:Value):(∃FD' gr cr m,PW (wr.setCell ⟨rb,i,none⟩ v) p d F FD' D0 L gr cr m aP cP R T.pc ts)∧Ch wr.heap.size (fun x=>x=rb) wr (wr.setCell ⟨rb,i,none⟩ v)∧Step FD F w (wr.setCell ⟨rb,i,none⟩ v):=by
 obtain ⟨FD',gr,cr,m,hP⟩:=h.px;have hc:Ch wr.heap.size (fun x=>x=rb) wr (wr.setCell ⟨rb,i,none⟩ v):=(Ch.refl _ (fun x=>x=rb) wr).setCell (p:=⟨rb,i,none⟩) (.inr rfl) v;refine ⟨⟨FD',gr,cr,m,hP.other8 hc h.nf.1 (fun j z=>?_)⟩,hc,⟨?_,h.stp.2⟩⟩
 ·rw [h.cell];exact rpP_no8 _ _ _ _ _ _ _ _ _ _ _ _ _ _ _ _
 ·have:=h.lo;exact h.stp.1.setCell (p:=⟨rb,i,none⟩) (.inl (by show _≤rb;omega)) v
theorem SvI.text (h:SvI w wr p d rb FD F D0 L R T S ts aP cP none 0 [] aS cS st) {a:Option Addr} {c:Nat} {zs:List Int} (hk:RwK w wr F rb a c zs):SvI w (wr.setCell ⟨rb,10,none⟩ (.slice a zs.length c)) p d rb FD F D0 L R T S ts aP cP a c zs aS cS st:=by
 obtain ⟨h1,hc,h2⟩:=h.set 10 (.slice a zs.length c);have hlo:=h.lo;have k:∀g,¬g=rb→g<wr.heap.size→(wr.setCell ⟨rb,10,none⟩ (.slice a zs.length c)).heap[g]?=wr.heap[g]?:=fun g h1 h2=>hc.block g h2 h1
 refine ⟨h1,?_,(k _ (by omega) (heap_lt h.s0)).trans h.s0,(k _ (by omega) (heap_lt h.s1)).trans h.s1,h2,h.nf,h.lo,hk.keep hc.size (fun g _ h1 h2=>k g h1 h2),h.kS.keep hc.size (fun g _ h1 h2=>k g h1 h2)⟩;rw [setCell_heap _ _ _ _ _ _ _ h.bk];rfl
theorem SvI.state (h:SvI w wr p d rb FD F D0 L R T S ts aP cP aT cT tx none 0 []) {a:Option Addr} {c:Nat} {zs:List Int} (hk:RwK w wr F rb a c zs):SvI w (wr.setCell ⟨rb,11,none⟩ (.slice a zs.length c)) p d rb FD F D0 L R T S ts aP cP aT cT tx a c zs:=by
 obtain ⟨h1,hc,h2⟩:=h.set 11 (.slice a zs.length c);have hlo:=h.lo;have k:∀g,¬g=rb→g<wr.heap.size→(wr.setCell ⟨rb,11,none⟩ (.slice a zs.length c)).heap[g]?=wr.heap[g]?:=fun g h1 h2=>hc.block g h2 h1
 refine ⟨h1,?_,(k _ (by omega) (heap_lt h.s0)).trans h.s0,(k _ (by omega) (heap_lt h.s1)).trans h.s1,h2,h.nf,h.lo,h.kT.keep hc.size (fun g _ h1 h2=>k g h1 h2),hk.keep hc.size (fun g _ h1 h2=>k g h1 h2)⟩;rw [setCell_heap _ _ _ _ _ _ _ h.bk];rfl
theorem SvI.pages (h:SvI w wr p d rb FD F D0 L R T S ts aP cP aT cT tx aS cS st) {a:Option Addr} {n c:Nat} {zs:List Int} (hz:RowI wr a c zs) (hn:n=zs.length) (ho:∀k,obl a k→(¬F k∧¬k=rb)∧w.heap.size+2≤k∧k<wr.heap.size) (hpk:∀x∈T.pc,okC false x=true):
  ∃cs,(wr.setCell ⟨rb,12,none⟩ (.slice a n c)).heap[rb]?=some (.cells cs 33 (0,0))∧cs=rpP S (-1) (.slice aP T.pc.length cP) (.slice aT tx.length cT) (.slice aS st.length cS) (.slice a n c)∧(wr.setCell ⟨rb,12,none⟩ (.slice a n c)).heap[w.heap.size+1]?=some (.cells rpt0 33 (0,0))∧
   (∃v k FD',(wr.setCell ⟨rb,12,none⟩ (.slice a n c)).heap[rb]?=some (.cells cs 33 (0,0))∧v=.agg cs∧RepP FD' (fun k=>FD k∨w.heap.size≤k) ((wr.setCell ⟨rb,12,none⟩ (.slice a n c)).setRow (w.heap.size+1) cs) v ⟨S,-1,T.pc,tx,st,zs,S.h⟩∧k≤R.length∧Dev ((wr.setCell ⟨rb,12,none⟩ (.slice a n c)).setRow (w.heap.size+1) cs) d FD' (rdK D0 k)∧(∀j,j<k→tellsD (rdK D0 j)=true)∧∀j,FD' j→FD j∨w.heap.size≤j)∧Ch w.heap.size FD w ((wr.setCell ⟨rb,12,none⟩ (.slice a n c)).setRow (w.heap.size+1) cs)∧((wr.setCell ⟨rb,12,none⟩ (.slice a n c)).setRow (w.heap.size+1) cs).heap[w.heap.size+1]?=some (.cells cs 33 (0,0)):=by
 obtain ⟨⟨FD',gr,cr,m,hP⟩,hc,h2⟩:=h.set 12 (.slice a n c);have hlo:=h.lo;obtain ⟨w1,hw1⟩:∃w1,wr.setCell ⟨rb,12,none⟩ (.slice a n c)=w1:=⟨_,rfl⟩
 have hb1:w1.heap[rb]?=some (.cells (rpP S (-1) (.slice aP T.pc.length cP) (.slice aT tx.length cT) (.slice aS st.length cS) (.slice a n c)) 33 (0,0)):=by
  rw [←hw1,setCell_heap _ _ _ _ _ _ _ h.bk];rfl
 rw [hw1] at hP hc h2 ⊢;have k:∀g,¬g=rb→g<wr.heap.size→w1.heap[g]?=wr.heap[g]?:=fun g h1 h2=>hc.block g h2 h1
 have hr1:=(k (w.heap.size+1) (by omega) (heap_lt h.s1)).trans h.s1;refine ⟨_,hb1,rfl,hr1,?_,?_,setRow_heap w1 _ _ _ _ _ hr1⟩
 ·obtain ⟨w2,hw2⟩:∃w2,w1.setRow (w.heap.size+1) (rpP S (-1) (.slice aP T.pc.length cP) (.slice aT tx.length cT) (.slice aS st.length cS) (.slice a n c))=w2:=⟨_,rfl⟩;rw [hw2];have k2:∀g,¬g=w.heap.size+1→w2.heap[g]?=w1.heap[g]?:=fun g h1=>by rw [←hw2];exact setRow_other w1 _ g _ h1
  have hs2:w2.heap.size=w1.heap.size:=by rw [←hw2];simp [World.setRow]
  have hcn:=cnt_le R;refine ⟨_,cnt R,FD',hb1,rfl,⟨aP,cP,aT,cT,aS,cS,a,c,by rw [hn],?_,?_,?_,?_,fun g hg=>?_⟩,hcn,hP.dev.keep (by omega) (fun g hg=>k2 g (fun e=>h.nf.2.2 (e▸hP.fD g hg))),hP.told,fun j hj=>h2.2 j (hP.fD j hj)⟩
  ·exact ((hP.pc.row' (fun x hx=>wfC_ok (hpk x hx))).2.1).keepO (fun g hg=>k2 g (fun e=>h.nf.2.2 (e▸hP.fP g hg)))
  ·exact h.kT.1.keepO (fun g hg=>(k2 g (by have:=(h.kT.2 g hg).2.1;omega)).trans (k g (h.kT.2 g hg).1.2 (h.kT.2 g hg).2.2))
  ·exact h.kS.1.keepO (fun g hg=>(k2 g (by have:=(h.kS.2 g hg).2.1;omega)).trans (k g (h.kS.2 g hg).1.2 (h.kS.2 g hg).2.2))
  ·exact hz.keepO' (fun g hg=>(k2 g (by have:=(ho g hg).2.1;omega)).trans (k g (ho g hg).1.2 (ho g hg).2.2))
  ·have hsz:=hc.size;rcases hg with hg|hg|hg|hg
   ·exact ⟨⟨hP.PD g hg,by rw [hs2];exact hP.lt g (hP.fP g hg)⟩,h2.2 g (hP.fP g hg)⟩
   ·have:=h.kT.2 g hg;exact ⟨⟨fun e=>this.1.1 (hP.fD g e),by omega⟩,.inr (by omega)⟩
   ·have:=h.kS.2 g hg;exact ⟨⟨fun e=>this.1.1 (hP.fD g e),by omega⟩,.inr (by omega)⟩
   ·have:=ho g hg;exact ⟨⟨fun e=>this.1.1 (hP.fD g e),by omega⟩,.inr (by omega)⟩
 ·exact h2.1.setRow (.inl (by omega)) _
theorem SvI.low (h:SvI w wr p d rb FD F D0 L R T S ts aP cP aT cT tx aS cS st):w.heap.size+2≤wr.heap.size∧rb<wr.heap.size∧∀k,F k→k<wr.heap.size:=⟨by have:=h.lo;have:=heap_lt h.bk;omega,heap_lt h.bk,h.pw.lt⟩
end
attribute [local go_sem ↓] StP_eq LdP_eq
set_option maxRecDepth 20000 in
theorem survey_p {w:World} {d N:Nat} {FD:Nat→Prop} {D0:Dv} {L:List Int} (hd:Dev w d FD D0) (hL:D0.now=L) (hN:D0.n=N) (hops:D0.ops≤1000000000000) (S:Sp) (hS:okS S=true) (hp:S.p=(N:Int)):
  Calls Tryz.prog 29 #[.pointer (some ⟨d,0,none⟩),spV S] w fun e w'=>SvE w d FD D0 L N S e w':=by
 have HOK:Hid (∀T x,suT L S=some T→x∈T.pc→okC false x=true):=fun T x hT hx=>su_okC (by rw [←hL];exact hd.1.bnow) hT hx
 obtain ⟨i0,hi0,hz0,hz1',hz2'⟩:=info_parts info4b;have hmm:= @run_makeMap Tryz.prog;have hn4:8≤N∧N≤4096:=by have:=hd.1.n4;have:=hd.1.n8;omega
 have hm:N≤maxLen:=by unfold maxLen;omega
 have HDV:Hid (Dev (spx w S).drew d FD D0):=hd.below (spx_below w S).drew;have HB:Hid (Below w.heap.size w (spx w S)):=spx_below w S;have HN:Hid (D0.n=N):=hN;have HDL:Hid (∀k,FD k→k<w.heap.size):=hd.2.1;have HL:Hid (D0.now=L∧D0.ops≤1000000000000∧okS S=true∧S.p=(N:Int)):=⟨hL,hops,hS,hp⟩;have HSZ:Hid ((spx w S).heap.size=w.heap.size+2∧(spx w S).heap[w.heap.size]?=some (.cells (spC' S) 28 (0,0))∧(spx w S).heap[w.heap.size+1]?=some (.cells rpt0 33 (0,0))):=⟨by simp [spx],heap_alloc2_old w _ _,heap_alloc2_new w _ _⟩;have hp1:(spx w S).cell? ⟨w.heap.size,1,none⟩=some (.int .i64 (N:Int)):=by unfold spx;rw [cell_of_row _ _ _ (spC' S) 28 (0,0) (heap_alloc2_old w _ _),←hp];rfl
 unfold spV;clear hd hN hL hops hS hp;go_enter Tryz.func29,Tryz.ntmps29
 go_upto_region 1 with fail
 rw [show ((w.alloc (.cells #[.int .i64 S.g,.int .i64 S.p,.int .i64 S.r,.int .i64 S.h,.int .i64 S.b,.int .i64 S.l,.int .i64 S.s,.int .i64 S.f] 28)).alloc (.cells #[.int .i64 0,.int .i64 0,.int .i64 0,.int .i64 0,.int .i64 0,.int .i64 0,.int .i64 0,.int .i64 0,.int .i64 0,.slice none 0 0,.slice none 0 0,.slice none 0 0,.slice none 0 0] 33))=spx w S from rfl];generalize spx w S=ws at hp1 HDV HB HSZ ⊢;refine wp_region_held_drew (S:=(fun w'=>w'.cell? ⟨w.heap.size,1,none⟩=some (.int .i64 (N:Int)))) (by kernel_rfl) ?_ (fun hHeld=>?_)
 ·(first|go_keep|assumption)
 refine tkH ?_ 0 ?_ ?_;rotate_left
 ·(intro w hSw;(try dsimp only at hSw);go_simp;first|done|with_reducible rfl)
 simp only [gx];refine tkH ?_ 1 ?_ ?_;rotate_left
 ·(intro w hSw;(try dsimp only at hSw);go_simp;first|done|with_reducible rfl)
 simp only [gx];refine tkH ?_ 2 ?_ ?_;rotate_left
 ·(intro w hSw;(try dsimp only at hSw);go_simp;first|done|with_reducible rfl)
 simp only [gx];refine wpAnyH_ready (rs:=[3]) (by kernel_rfl) (by simp) ?_;refine AllReadyH.cons rfl (fun K hK=>?_) AllReadyH.nil;go_simp;refine (pages_any HDV.out).mono ?_;rintro e w' ⟨rfl,rfl⟩;rw [HN.out];go_wp2_with fail
 refine hK.out _ _ ?_ (fun hHeld2=>?_)
 ·(first|go_keep|assumption)
 clear hK K hHeld;have hHeld:=hHeld2;clear hHeld2;refine tkH ?_ 4 ?_ ?_;rotate_left
 ·(intro w hSw;(try dsimp only at hSw);go_simp;first|done|with_reducible rfl)
 simp only [gx];refine wpAnyH_ready (rs:=[5]) (by kernel_rfl) (by simp) ?_;refine AllReadyH.cons rfl (fun K hK=>?_) AllReadyH.nil;go_simp;refine (demand_yes ws.drew).mono ?_;rintro e w' ⟨rfl,rfl⟩;go_wp2_with fail
 refine hK.out _ _ ?_ (fun hHeld2=>?_)
 ·(first|go_keep|assumption)
 clear hK K hHeld hHeld2;refine wpAnyH_done (by kernel_rfl) ?_ _;have HZ:Hid (Dev ws.drew d FD D0∧Below w.heap.size w ws.drew∧ws.heap.size=w.heap.size+2∧ws.drew.heap[w.heap.size]?=some (.cells (spC' S) 28 (0,0))∧ws.drew.heap[w.heap.size+1]?=some (.cells rpt0 33 (0,0))):=⟨HDV.out,HB.out.drew,HSZ.out.1,HSZ.out.2.1,HSZ.out.2.2⟩;have hz1:ws.drew.cell? ⟨w.heap.size,1,none⟩=some (.int .i64 (N:Int)):=hp1;clear hp1 HDV HB HSZ;have hzs:ws.drew.heap.size=w.heap.size+2:=HZ.out.2.2.1;generalize ws.drew=wy at hz1 HZ hzs ⊢;go_upto_region 3 with (at_make;refine wpList_make_full _ rfl _ _ 118 rfl wy.heap.size 4 i0 (.bool false) 1 Tryz.underlying118 hi0 hz0 hz1' .i64 .i64 _ _ N rfl rfl rfl rfl (by rw [hz2'];omega) hm (Nat.le_refl _) ?_;intro w1 hown1 hgrow1;have HO:Hid (OwnL wy.heap.size w1 (.slice (some ⟨wy.heap.size,0,none⟩) N N) (List.replicate N false)∧Below wy.heap.size wy w1):=⟨made_ownL hown1,(Below.refl _ wy).grown hgrow1 (Nat.le_refl _) (by simp)⟩;clear hown1 hgrow1)
 obtain ⟨w2,hw2⟩:∃w2,((w1.alloc (.map #[] 0)).alloc (.cells #[.pointer (some ⟨d,0,none⟩),.slice (some ⟨w.heap.size+2,0,none⟩) N N,.slice none 0 0,.map (some w1.heap.size)] 121))=w2:=⟨_,rfl⟩;rw [hw2]
 have HPN:Hid (pgN L=N):=by
  have h1:=HZ.out.1.1.now;rw [HL.out.1] at h1;show _=_;unfold pgN;have:=HN.out;omega
 have H2:Hid (PWA w2 (w1.heap.size+1) d (fun k=>FD k∨k=w1.heap.size+1∨k=w.heap.size+2∨k=w1.heap.size) D0 L (rN L) [] []∧Below wy.heap.size wy w2):=by
  have hb1:Below wy.heap.size wy (w1.alloc (.map #[] 0)):=HO.out.2.alloc HO.out.2.size _;have hb2:Below wy.heap.size wy w2:=by rw [←hw2];exact hb1.alloc hb1.size _
  have hlt:=HO.out.1.cap.2.2.2.1;have ho:=HO.out.1;rw [hzs] at hlt ho;refine ⟨?_,hb2⟩;unfold rN;rw [HPN.out];refine pw_new HZ.out.1 HL.out.1 HN.out HL.out.2.1 hb2 ?_ ?_ ?_ ?_ ?_ ?_ ?_ ?_ ?_
  ·rw [←hw2];exact heap_alloc2_new w1 _ _
  ·rw [hzs];refine ho.kept ?_;rw [←hw2];exact (heap_alloc_old _ _ (by simp;omega)).trans (heap_alloc_old _ _ hlt)
  ·refine (heldV_new w1).keep ?_;rw [←hw2];exact heap_alloc_old _ _ (by simp)
  ·omega
  ·omega
  ·omega
  ·omega
  ·omega
  ·omega
 have HS2:Hid (w2.heap[w.heap.size]?=some (.cells (spC' S) 28 (0,0))∧w2.heap[w.heap.size+1]?=some (.cells rpt0 33 (0,0))∧Step FD (fun k=>FD k∨k=w1.heap.size+1∨k=w.heap.size+2∨k=w1.heap.size) w w2∧w.heap.size+2≤w1.heap.size):=by
  have h1:=HO.out.2.size;have h2:=H2.out.2;refine ⟨(h2.block _ (by omega)).trans HZ.out.2.2.2.1,(h2.block _ (by omega)).trans HZ.out.2.2.2.2,⟨Ch.of FD (HZ.out.2.1.trans (h2.mono HZ.out.2.1.size)),fun k hk=>?_⟩,by omega⟩;rcases hk with h|h|h|h
  ·exact .inl h
  ·right;omega
  ·right;omega
  ·right;omega
 have htr:=tree_p H2.out.1 S HL.out.2.2.1 (by rw [rN_len,HPN.out];exact HL.out.2.2.2) (Nat.zero_le _);unfold spV at htr;have HPA:Hid (PWA w2 (w1.heap.size+1) d (fun k=>FD k∨k=w1.heap.size+1∨k=w.heap.size+2∨k=w1.heap.size) D0 L (rN L) [] []):=H2.out.1
 have HFQ:Hid (∀k,(FD k∨k=w1.heap.size+1∨k=w.heap.size+2∨k=w1.heap.size)→¬k=w.heap.size∧¬k=w.heap.size+1):=fun k hk=>by
  have h1:=HS2.out.2.2.2;rcases hk with h|h|h|h
  ·have:=HDL.out k h;constructor<;>omega
  ·constructor<;>omega
  ·constructor<;>omega
  ·constructor<;>omega
 clear hw2 H2 HO HZ hzs hz1 hmm hi0 hz0 hz1' hz2' hm i0;obtain ⟨F2,hF2⟩:∃F2:Nat→Prop,(fun k=>FD k∨k=w1.heap.size+1∨k=w.heap.size+2∨k=w1.heap.size)=F2:=⟨_,rfl⟩;rw [hF2] at htr HPA HS2;have HFR:Hid (∀k,F2 k→¬k=w.heap.size∧¬k=w.heap.size+1):=fun k hk=>HFQ.out k (by rw [←hF2] at hk;exact hk)
 clear hF2 HFQ;have s0:w2.cell? ⟨w.heap.size,0,none⟩=some (.int .i64 S.g):=by rw [cell_of_row w2 _ _ _ _ (0,0) HS2.out.1];rfl
 have s1:w2.cell? ⟨w.heap.size,1,none⟩=some (.int .i64 S.p):=by rw [cell_of_row w2 _ _ _ _ (0,0) HS2.out.1];rfl
 have s2:w2.cell? ⟨w.heap.size,2,none⟩=some (.int .i64 S.r):=by rw [cell_of_row w2 _ _ _ _ (0,0) HS2.out.1];rfl
 have s3:w2.cell? ⟨w.heap.size,3,none⟩=some (.int .i64 S.h):=by rw [cell_of_row w2 _ _ _ _ (0,0) HS2.out.1];rfl
 have s4:w2.cell? ⟨w.heap.size,4,none⟩=some (.int .i64 S.b):=by rw [cell_of_row w2 _ _ _ _ (0,0) HS2.out.1];rfl
 have s5:w2.cell? ⟨w.heap.size,5,none⟩=some (.int .i64 S.l):=by rw [cell_of_row w2 _ _ _ _ (0,0) HS2.out.1];rfl
 have s6:w2.cell? ⟨w.heap.size,6,none⟩=some (.int .i64 S.s):=by rw [cell_of_row w2 _ _ _ _ (0,0) HS2.out.1];rfl
 have s7:w2.cell? ⟨w.heap.size,7,none⟩=some (.int .i64 S.f):=by rw [cell_of_row w2 _ _ _ _ (0,0) HS2.out.1];rfl
 go_wp2_with fail
 refine htr.mono ?_;clear htr;rintro e w3 hE3;obtain ⟨p,hp⟩:∃p,w1.heap.size+1=p:=⟨_,rfl⟩;rw [hp] at HPA hE3 ⊢;clear hp;rcases hE3 with ⟨T,F3,rfl,hsu,hfr,⟨hTb,hTl⟩,hpw,hpl,st⟩|hbad;rotate_left
 ·have HE:Hid (SvE w d FD D0 L N S e w3):=by
   have:=hbad.mono (no':=∀r,¬Su L S r) HS2.out.2.2.1 (fun hno r=>su_no1 hno r);rw [rN_len,HPN.out] at this;exact .inr this
  rcases hbad.is with rfl|rfl
  ·unfold thrA at HE ⊢;clear hbad;go_wp2;exact ⟨rfl,HE.out⟩
  ·unfold thrA at HE ⊢;clear hbad;go_wp2;exact ⟨rfl,HE.out⟩
 rw [List.nil_append] at hpw hpl
 have H3:Hid (suT L S=some T∧FrR (rN L) T.tp∧T.s.b=S.b∧T.s.l=S.l∧PWA w3 p d F3 D0 L (mkR (rN L) T.tp) T.pc []∧T.pc.length≤81920∧Step FD F3 w w3∧w3.heap[w.heap.size]?=some (.cells (spC' S) 28 (0,0))∧w3.heap[w.heap.size+1]?=some (.cells rpt0 33 (0,0))∧w.heap.size+2≤w3.heap.size∧∀k,F3 k→¬k=w.heap.size∧¬k=w.heap.size+1):=by
  have hc:=cnt_le (mkR (rN L) T.tp);rw [mkR_len,rN_len,HPN.out] at hc;have hl1:=heap_lt HS2.out.1;have hl2:=heap_lt HS2.out.2.1;have hsz:=st.1.size;refine ⟨hsu,hfr,hTb,hTl,hpw,by omega,HS2.out.2.2.1.trans st,(st.1.block _ hl1 (fun e=>(HFR.out _ e).1 rfl)).trans HS2.out.1,(st.1.block _ hl2 (fun e=>(HFR.out _ e).2 rfl)).trans HS2.out.2.1,by omega,fun k hk=>?_⟩;rcases st.2 k hk with h|h
  ·exact HFR.out k h
  ·constructor<;>omega
 clear hsu hfr hTb hTl hpw hpl st HS2 HFR HPA s0 s1 s2 s3 s4 s5 s6 s7;have s0:w3.cell? ⟨w.heap.size,0,none⟩=some (.int .i64 S.g):=by rw [cell_of_row w3 _ _ _ _ (0,0) H3.out.2.2.2.2.2.2.2.1];rfl
 have s1:w3.cell? ⟨w.heap.size,1,none⟩=some (.int .i64 S.p):=by rw [cell_of_row w3 _ _ _ _ (0,0) H3.out.2.2.2.2.2.2.2.1];rfl
 have s2:w3.cell? ⟨w.heap.size,2,none⟩=some (.int .i64 S.r):=by rw [cell_of_row w3 _ _ _ _ (0,0) H3.out.2.2.2.2.2.2.2.1];rfl
 have s3:w3.cell? ⟨w.heap.size,3,none⟩=some (.int .i64 S.h):=by rw [cell_of_row w3 _ _ _ _ (0,0) H3.out.2.2.2.2.2.2.2.1];rfl
 have s4:w3.cell? ⟨w.heap.size,4,none⟩=some (.int .i64 S.b):=by rw [cell_of_row w3 _ _ _ _ (0,0) H3.out.2.2.2.2.2.2.2.1];rfl
 have s5:w3.cell? ⟨w.heap.size,5,none⟩=some (.int .i64 S.l):=by rw [cell_of_row w3 _ _ _ _ (0,0) H3.out.2.2.2.2.2.2.2.1];rfl
 have s6:w3.cell? ⟨w.heap.size,6,none⟩=some (.int .i64 S.s):=by rw [cell_of_row w3 _ _ _ _ (0,0) H3.out.2.2.2.2.2.2.2.1];rfl
 have s7:w3.cell? ⟨w.heap.size,7,none⟩=some (.int .i64 S.f):=by rw [cell_of_row w3 _ _ _ _ (0,0) H3.out.2.2.2.2.2.2.2.1];rfl
 obtain ⟨FD3,gr,cr,m,aP,cP,hPW⟩:=H3.out.2.2.2.2.1;have c2:=hPW.at.2.2.1;have HPX:Hid (∃FD' gr cr m,PW w3 p d F3 FD' D0 L gr cr m aP cP (mkR (rN L) T.tp) T.pc []):=⟨_,_,_,_,hPW⟩;obtain ⟨np,hnp⟩:∃np,T.pc.length=np:=⟨_,rfl⟩;rw [hnp] at c2;have HNP:Hid (T.pc.length=np):=hnp;have hp3:p<w3.heap.size:=hPW.lt p hPW.fp;have hw3:w.heap.size<w3.heap.size:=by have:=H3.out.2.2.2.2.2.2.2.2.2.1;omega
 have hp4:¬p=w3.heap.size:=by omega
 have hw4:¬w.heap.size=w3.heap.size:=by omega
 have c2':(w3.alloc (.cells #[.int .i64 0,.int .i64 0,.int .i64 0,.int .i64 0,.int .i64 0,.int .i64 0,.int .i64 0,.int .i64 0,.int .i64 0,.slice none 0 0,.slice none 0 0,.slice none 0 0,.slice none 0 0] 33)).cell? ⟨p,2,none⟩=some (.slice aP np cP):=by rw [←c2];exact World.cell?_of_block (heap_alloc_old w3 _ hp3)
 clear hPW hnp;have hst4:=StP_new w3 (cs:= #[.int .i64 S.g,.int .i64 S.p,.int .i64 S.r,.int .i64 S.h,.int .i64 S.b,.int .i64 S.l,.int .i64 S.s,.int .i64 S.f,.int .i64 (-1),.slice aP np cP,.slice none 0 0,.slice none 0 0,.slice none 0 0]) rfl (rpP_one S (-1) aP none none none np 0 0 0 cP 0 0 0);have hst5:=setRow_new w3 rpt0 33 #[.int .i64 S.g,.int .i64 S.p,.int .i64 S.r,.int .i64 S.h,.int .i64 S.b,.int .i64 S.l,.int .i64 S.s,.int .i64 S.f,.int .i64 (-1),.slice aP np cP,.slice none 0 0,.slice none 0 0,.slice none 0 0];rw [show rpt0= #[.int .i64 0,.int .i64 0,.int .i64 0,.int .i64 0,.int .i64 0,.int .i64 0,.int .i64 0,.int .i64 0,.int .i64 0,.slice none 0 0,.slice none 0 0,.slice none 0 0,.slice none 0 0] from rfl] at hst4 hst5;have HST5:Hid _:=hst5;clear hst5;go_upto_region 4 with fail
 go_region
 go_upto_region 5 with fail
 obtain ⟨w4,hw4e⟩:∃w4,((w3.alloc (.cells #[.int .i64 0,.int .i64 0,.int .i64 0,.int .i64 0,.int .i64 0,.int .i64 0,.int .i64 0,.int .i64 0,.int .i64 0,.slice none 0 0,.slice none 0 0,.slice none 0 0,.slice none 0 0] 33)).drew.setRow w3.heap.size #[.int .i64 S.g,.int .i64 S.p,.int .i64 S.r,.int .i64 S.h,.int .i64 S.b,.int .i64 S.l,.int .i64 S.s,.int .i64 S.f,.int .i64 (-1),.slice aP np cP,.slice none 0 0,.slice none 0 0,.slice none 0 0])=w4:=⟨_,rfl⟩;have hbr:Below w3.heap.size w3 w4:=by rw [←hw4e];exact HST5.out.2
 have hrb:w4.heap[w3.heap.size]?=some (.cells (rpP S (-1) (.slice aP np cP) (.slice none 0 0) (.slice none 0 0) (.slice none 0 0)) 33 (0,0)):=by rw [←hw4e];exact HST5.out.1
 rw [hw4e];clear hw4e hst4 HST5;have htx:=text_p (H3.out.2.2.2.2.1.below hbr) (fun x hx=>HOK.out T x H3.out.1 hx) H3.out.2.2.2.2.2.1;have HBR:Hid (Below w3.heap.size w3 w4∧w4.heap[w3.heap.size]?=some (.cells (rpP S (-1) (.slice aP np cP) (.slice none 0 0) (.slice none 0 0) (.slice none 0 0)) 33 (0,0))):=⟨hbr,hrb⟩;obtain ⟨rb,hrbe⟩:∃rb,w3.heap.size=rb:=⟨_,rfl⟩;rw [hrbe] at HBR ⊢;have HRB:Hid (w3.heap.size=rb):=hrbe
 have HSV:Hid (SvI w w4 p d rb FD F3 D0 L (mkR (rN L) T.tp) T S [] aP cP none 0 [] none 0 []):=by
  obtain ⟨FD',gr',cr',m',hX⟩:=HPX.out;have hB:Below w3.heap.size w3 w4:=by have:=HBR.out.1;rw [←HRB.out] at this;exact this
  have hlt:=hX.lt;have e0:=H3.out.2.2.2.2.2.2.2.1;have e1:=H3.out.2.2.2.2.2.2.2.2.1;have e2:=H3.out.2.2.2.2.2.2.2.2.2.2;have e3:=H3.out.2.2.2.2.2.2.2.2.2.1;have e4:=HRB.out;refine ⟨PWA.same hX (H3.out.2.2.2.2.1.below hB) (hB.block p (hlt p hX.fp)),?_,(hB.block _ (heap_lt e0)).trans e0,(hB.block _ (heap_lt e1)).trans e1,H3.out.2.2.2.2.2.2.1.trans (Step.ofB hB),⟨fun h=>?_,fun h=>(e2 _ h).1 rfl,fun h=>(e2 _ h).2 rfl⟩,by omega,rwK_nil ..,rwK_nil ..⟩
  ·rw [HNP.out];exact HBR.out.2
  ·have:=hlt _ h;omega
 clear hbr hrb hrbe c2' hp4 hw4 hp3 hw3 s0 s1 s2 s3 s4 s5 s6 s7 c2;go_wp2_with fail
 refine htx.mono ?_;clear htx;rintro e w5 (⟨gt,ct,ts,rfl,hall,hpw5,ho5,hc5,hq5⟩|hbad);rotate_left
 ·have HE:Hid (SvE w d FD D0 L N S e w5):=by
   have:=hbad.mono (no':=∀r,¬Su L S r) (H3.out.2.2.2.2.2.2.1.trans (Step.ofB (by rw [←HRB.out] at HBR;exact HBR.out.1))) (fun hno r=>su_no2 H3.out.1 hno r);rw [mkR_len,rN_len,HPN.out] at this;exact .inr this
  rcases hbad.is with rfl|rfl
  ·unfold thrA at HE ⊢;clear hbad;go_wp2;exact ⟨rfl,HE.out⟩
  ·unfold thrA at HE ⊢;clear hbad;go_wp2;exact ⟨rfl,HE.out⟩
 have HS5:Hid (SvI w w5 p d rb FD F3 D0 L (mkR (mkR (rN L) T.tp) (pgs T.pc)) T S ts aP cP none 0 [] none 0 []∧RwK w w5 F3 rb gt ct (txs L T.pc)∧SuOk L S T):=by
  have hl:=HSV.out.low;exact ⟨HSV.out.went hpw5 hc5 hq5,rwK_own ho5 (txs_bys HSV.out.pw.rn.2.2.2.2 _) hl.2.2 hl.2.1 hl.1,su_ok H3.out.1 H3.out.2.1 H3.out.2.2.1 H3.out.2.2.2.1 hall⟩
 clear hpw5 hc5 hq5 ho5 hall;have c10:w5.cell? ⟨rb,10,none⟩=some (.slice none 0 0):=by rw [HS5.out.1.cell];rfl
 have f10:=HS5.out.1.frz 10;have hsu0:=mkR_app (R:=rN L) (a:=T.tp) (b:=pgs T.pc)
 have HS6:Hid (SvI w (w5.setCell ⟨rb,10,none⟩ (.slice gt (txs L T.pc).length ct)) p d rb FD F3 D0 L (mkR (rN L) (T.tp++pgs T.pc)) T S ts aP cP gt ct (txs L T.pc) none 0 []):=by
  have:=HS5.out.1.text HS5.out.2.1;rw [hsu0] at this;exact this
 have HOKT:Hid (SuOk L S T):=HS5.out.2.2;clear hsu0;go_upto_region 6 with fail
 obtain ⟨w6,hw6⟩:∃w6,w5.setCell ⟨rb,10,none⟩ (.slice gt (txs L T.pc).length ct)=w6:=⟨_,rfl⟩;rw [hw6] at HS6 ⊢;clear hw6 c10 f10 HS5;have hbd:=okS_bd HL.out.2.2.1;have HBD:Hid ((0≤S.s∧S.s≤4095)∧(0≤S.f∧S.f≤4095)):=⟨hbd.2.2.2.2.2.2.1,hbd.2.2.2.2.2.2.2⟩;clear hbd;obtain ⟨fin,hfin⟩:∃fin,chB L (pgN L+1) S.s (mkR (rN L) (T.tp++pgs T.pc)) []=fin:=⟨_,rfl⟩;have hch:=chain_p HS6.out.pw S.s ⟨HBD.out.1.1,by have:=HBD.out.1.2;omega⟩ (pgN L+1) (by rw [mkR_len,rN_len];omega) fin hfin;have c6:w6.cell? ⟨w.heap.size,6,none⟩=some (.int .i64 S.s):=by rw [HS6.out.sup];rfl
 have HFIN:Hid (chB L (pgN L+1) S.s (mkR (rN L) (T.tp++pgs T.pc)) []=fin):=hfin;clear hfin;go_wp2_with fail
 refine hch.mono ?_;clear hch;rintro e w7 (⟨gs,cs,R2,st,rfl,hf7,hpw7,ho7,hby7,hrl7,hol7,hc7,hq7⟩|hbad);rotate_left
 ·have HE:Hid (SvE w d FD D0 L N S e w7):=by
   have:=hbad.mono (no':=∀r,¬Su L S r) HS6.out.stp (fun hno r=>su_no3 HOKT.out (HFIN.out.trans hno) r);rw [mkR_len,rN_len,HPN.out] at this;exact .inr this
  rcases hbad.is with rfl|rfl
  ·unfold thrA at HE ⊢;clear hbad;go_wp2;exact ⟨rfl,HE.out⟩
  ·unfold thrA at HE ⊢;clear hbad;go_wp2;exact ⟨rfl,HE.out⟩
 have HS7:Hid (SvI w w7 p d rb FD F3 D0 L R2 T S ts aP cP gt ct (txs L T.pc) none 0 []∧RwK w w7 F3 rb gs cs st∧chB L (pgN L+1) S.s (mkR (rN L) (T.tp++pgs T.pc)) []=some (R2,st)∧R2.length=N):=by
  have hl:=HS6.out.low;exact ⟨HS6.out.went hpw7 hc7 hq7,rwK_own ho7 hby7 hl.2.2 hl.2.1 hl.1,HFIN.out.trans hf7,by rw [hrl7,mkR_len,rN_len,HPN.out]⟩
 clear hf7 hpw7 ho7 hby7 hrl7 hol7 hc7 hq7 c6;have c11:w7.cell? ⟨rb,11,none⟩=some (.slice none 0 0):=by rw [HS7.out.1.cell];rfl
 have f11:=HS7.out.1.frz 11;go_upto_region 7 with fail
 have HS8:Hid (SvI w (w7.setCell ⟨rb,11,none⟩ (.slice gs st.length cs)) p d rb FD F3 D0 L R2 T S ts aP cP gt ct (txs L T.pc) gs cs st):=HS7.out.1.state HS7.out.2.1;obtain ⟨w8,hw8⟩:∃w8,w7.setCell ⟨rb,11,none⟩ (.slice gs st.length cs)=w8:=⟨_,rfl⟩;rw [hw8] at HS8 ⊢;clear hw8 c11 f11;obtain ⟨fi2,hfi2⟩:∃fi2,chB L (pgN L+1) S.f R2 []=fi2:=⟨_,rfl⟩;have hch:=chain_p HS8.out.pw S.f ⟨HBD.out.2.1,by have:=HBD.out.2.2;omega⟩ (pgN L+1) (by rw [HS7.out.2.2.2,HPN.out];omega) fi2 hfi2;have c7:w8.cell? ⟨w.heap.size,7,none⟩=some (.int .i64 S.f):=by rw [HS8.out.sup];rfl
 have HFI2:Hid (chB L (pgN L+1) S.f R2 []=fi2):=hfi2;clear hfi2;go_wp2_with fail
 refine hch.mono ?_;clear hch;rintro e w9 (⟨gf,cf,R3,fr,rfl,hf9,hpw9,ho9,hby9,hrl9,hol9,hc9,hq9⟩|hbad);rotate_left
 ·have HE:Hid (SvE w d FD D0 L N S e w9):=by
   have:=hbad.mono (no':=∀r,¬Su L S r) HS8.out.stp (fun hno r=>su_no4 HOKT.out HS7.out.2.2.1 (HFI2.out.trans hno) r);rw [HS7.out.2.2.2] at this;exact .inr this
  rcases hbad.is with rfl|rfl
  ·unfold thrA at HE ⊢;clear hbad;go_wp2;exact ⟨rfl,HE.out⟩
  ·unfold thrA at HE ⊢;clear hbad;go_wp2;exact ⟨rfl,HE.out⟩
 have HS9:Hid (SvI w w9 p d rb FD F3 D0 L R3 T S ts aP cP gt ct (txs L T.pc) gs cs st∧chB L (pgN L+1) S.f R2 []=some (R3,fr)∧R3.length=N∧Row w9 gf cf fr):=⟨HS8.out.went hpw9 hc9 hq9,HFI2.out.trans hf9,by rw [hrl9,HS7.out.2.2.2],(ho9.row' hby9).2⟩;clear hf9 hpw9 ho9 hby9 hrl9 hol9 hc9 hq9 c7;go_upto_region 8 with fail
 have hus:=used_p HS9.out.1.pw ((N+7)/8) (by rw [HS9.out.2.2.1]);go_wp2_with fail
 refine hus.mono ?_;clear hus;rintro e w10 ⟨gu,rfl,ho10,hb10⟩;have HS10:Hid (SvI w w10 p d rb FD F3 D0 L R3 T S ts aP cP gt ct (txs L T.pc) gs cs st∧Row w10 gf cf fr):=⟨HS9.out.1.below hb10,HS9.out.2.2.2.below hb10⟩;obtain ⟨bq,hbq⟩:∃bq,decide (fr=usedL R3)=bq:=⟨_,rfl⟩;have heq:=equal_v HS10.out.2 (ho10.row' (bitsP_bys _ _)).2 rfl (show (usedL R3).length=(N+7)/8 by unfold usedL;rw [bitsP_len,HS9.out.2.2.1]) bq hbq;clear ho10 hb10;go_wp2_with fail
 refine heq.mono ?_;clear heq;rintro e w' ⟨rfl,rfl⟩;cases bq with
 |false=>
  have HE:Hid (SvE w d FD D0 L N S (thrA 8) w10):=by
   have:=HS10.out.1.pw.bad (no:=∀r,¬Su L S r) (fun r=>su_no5 HOKT.out HS7.out.2.2.1 HS9.out.2.1 (of_decide_eq_false hbq) r) HS10.out.1.stp;rw [HS9.out.2.2.1] at this;exact .inr this
  go_wp2_with fail
  refine (demand_no w10).mono ?_;rintro e w' ⟨rfl,rfl⟩;unfold thrA at HE ⊢;go_wp2;exact ⟨rfl,HE.out⟩
 |true=>
  have hfre:fr=usedL R3:=of_decide_eq_true hbq;have HFR:Hid (fr=usedL R3):=hfre;clear hfre;clear hbq;go_wp2_with fail
  refine (demand_yes w10).mono ?_;rintro e w' ⟨rfl,rfl⟩;go_upto_region 9 with fail
  have hpp:=pages_p HS10.out.1.pw N HS9.out.2.2.1;go_wp2_with fail
  refine hpp.mono ?_;clear hpp;rintro e w11 ⟨gg,cg,rfl,ho11,hb11⟩;have HS11:Hid (SvI w w11 p d rb FD F3 D0 L R3 T S ts aP cP gt ct (txs L T.pc) gs cs st):=HS10.out.1.below hb11;obtain ⟨np2,hnp2⟩:∃n,(rsB R3 N).length=n:=⟨_,rfl⟩;rw [hnp2] at ho11 ⊢
  obtain ⟨rc,e1,rfl,e3,⟨v,k,FD',e4,rfl,hrep,hk,hdv,htold,hsub⟩,hchE,hrE⟩:=HS11.out.pages (n:=np2) (a:=gg) (c:=cg) (zs:=rsB R3 N) (by
   obtain ⟨a',c',e,hr⟩:=ho11.row;rw [hnp2] at e;cases e;exact hr) hnp2.symm (fun x hx=>by
   obtain ⟨y,e,hy⟩:=hx;subst e;have hlo:=HS10.out.1.low;have:=World.ownsRow.lt ho11 x (by simp [Value.ownBlock,hy]);refine ⟨⟨fun hF=>?_,by omega⟩,by omega,this.2⟩;have:=hlo.2.2 x hF;omega) (fun x hx=>HOK.out T x H3.out.1 hx)
  have c12:w11.cell? ⟨rb,12,none⟩=some (.slice none 0 0):=by rw [HS11.out.cell];rfl
  have f12:=HS11.out.frz 12;have hld:=LdP_run e1 rfl;have hst:=StP_run e3 rfl rfl (rpP_one S (-1) aP gt gs gg T.pc.length (txs L T.pc).length st.length np2 cP ct cs cg)
  have HE:Hid (SvE w d FD D0 L N S (.returned (.agg (rpP S (-1) (.slice aP T.pc.length cP) (.slice gt (txs L T.pc).length ct) (.slice gs st.length cs) (.slice gg np2 cg)))) ((w11.setCell ⟨rb,12,none⟩ (.slice gg np2 cg)).setRow (w.heap.size+1) (rpP S (-1) (.slice aP T.pc.length cP) (.slice gt (txs L T.pc).length ct) (.slice gs st.length cs) (.slice gg np2 cg)))):=by
   refine .inl ⟨⟨S,-1,T.pc,txs L T.pc,st,rsB R3 N,S.h⟩,_,rfl,?_,k,FD',hrep,by rw [←HS9.out.2.2.1];exact hk,hdv,htold,hchE,hsub⟩;refine ⟨by rw [HL.out.2.2.2,HPN.out],T,R2,st,R3,fr,HOKT.out,HS7.out.2.2.1,HS9.out.2.1,HFR.out,?_⟩;rw [HPN.out]
  have HRE:Hid _:=hrE;clear e1 e3 e4 hrep hk hdv htold hsub hchE hrE ho11 hb11 hnp2;go_wp2;refine bodyPost_ret (results_cell_row rfl _ _ (w.heap.size+1) _ (rpP S (-1) (.slice aP T.pc.length cP) (.slice gt (txs L T.pc).length ct) (.slice gs st.length cs) (.slice gg np2 cg)) (0,0) _ rfl HRE.out Tryz.underlying33 rfl (by kernel_rfl)) rfl ?_;exact HE.out
end Go.Proofs.YtjllhcifmfhkmaaGreat.Oct
