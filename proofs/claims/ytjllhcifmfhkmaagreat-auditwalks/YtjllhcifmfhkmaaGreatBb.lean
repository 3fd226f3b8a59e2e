/- Part of a proof. -/
import Derived.Test.YtjllhcifmfhkmaaGreatBa
import Derived.Test.YtjllhcifmfhkmaaGreatKa
import Derived.Test.YtjllhcifmfhkmaaGreatYg
import Derived.Test.YtjllhcifmfhkmaaGreatYp
import Derived.Test.YtjllhcifmfhkmaaGreatYd
import Derived.StillTailTactics
import Derived.Deep.AppendLies
import Derived.Deep.RegionLawGrows
import Derived.Laws.EntriesVeiled
set_option maxHeartbeats 2000000
namespace Go.Proofs.YtjllhcifmfhkmaaGreat.Oct
open Go.RowKit
def wcs (ia:Option Addr) (il ic gk kl ck:Nat) (q:Nat→Value) (aP:Option Addr) (nP cP:Nat) (aT:Option Addr) (nT cT:Nat) (bad:Bool):Array Value:=
 #[.slice ia il ic,.slice (some ⟨gk,0,none⟩) kl ck,q 0,q 1,q 2,q 3,q 4,q 5,q 6,q 7,q 8,.slice aP nP cP,.slice aT nT cT,q 9,q 10,q 11,.bool bad]
def obl (a:Option Addr) (k:Nat):Prop:=∃x,a=some x∧x.block=k
structure RW (w:World) (p:Nat) (F:Nat→Prop) (ia:Option Addr) (ic:Nat) (L:List Int) (gk ck:Nat) (aP aT:Option Addr) (cP cT:Nat) (q:Nat→Value) (W:Wk):Prop where
 lt:∀k,F k→k<w.heap.size
 fp:F p
 fk:F gk
 fP:∀k,obl aP k→F k
 fT:∀k,obl aT k→F k
 cells:w.heap[p]?=some (.cells (wcs ia L.length ic gk W.kd.length ck q aP W.pc.length cP aT W.tx.length cT W.bad) 96 (0,0))
 kd:Own 0 w (.slice (some ⟨gk,0,none⟩) W.kd.length ck) W.kd
 pc:OwnC 72 0 w (.slice aP W.pc.length cP) W.pc
 tx:Own 0 w (.slice aT W.tx.length cT) W.tx
 kb:Bys W.kd
 tb:Bys W.tx
 img:Row w ia ic L
 inF:∀k,obl ia k→¬F k
 il:L.length=256*W.kd.length
 kl:W.kd.length≤4096
 pk:¬p=gk
 pP:¬obl aP p
 pT:¬obl aT p
 kP:¬obl aP gk
 kT:¬obl aT gk
 PT:∀k,obl aP k→¬obl aT k
theorem obl_own {a:Option Addr} {n c k:Nat} (h:(Value.slice a n c).ownBlock=some k):obl a k:=by
 match a,h with
 |some x,h=>exact ⟨x,rfl,by simpa [Value.ownBlock] using h⟩
section
variable {w w':World} {p gk ck cP cT ic:Nat} {F:Nat→Prop} {ia aP aT:Option Addr} {L:List Int} {q:Nat→Value} {W:Wk}
theorem Own.keepO {base n c:Nat} {a:Option Addr} {zs:List Int} (h:Own base w (.slice a n c) zs) (k:∀g,obl a g→w'.heap[g]?=w.heap[g]?):Own base w' (.slice a n c) zs:=owns_keep h (fun g hg=>k g (obl_own hg))
theorem OwnC.keepO {ty base n c:Nat} {a:Option Addr} {l:List C4} (h:OwnC ty base w (.slice a n c) l) (k:∀g,obl a g→w'.heap[g]?=w.heap[g]?):OwnC ty base w' (.slice a n c) l:=owns_keep h (fun g hg=>k g (obl_own hg))
theorem Row.keepO {a:Option Addr} {c:Nat} {zs:List Int} (h:Row w a c zs) (k:∀g,obl a g→w'.heap[g]?=w.heap[g]?):Row w' a c zs:=by
 obtain ⟨h1,h2,h3,h4⟩:=h;refine ⟨h1,h2,h3,?_⟩;rcases h4 with h4|⟨b,off,ha,hc⟩
 ·exact .inl h4
 ·exact .inr ⟨b,off,ha,fun i hi=>(World.cell?_of_block (w:=w) (a:=⟨b,off+i,none⟩) (k b ⟨_,ha,rfl⟩)).trans (hc i hi)⟩
theorem RW.keep (h:RW w p F ia ic L gk ck aP aT cP cT q W) (hs:w.heap.size≤w'.heap.size) (k:∀g,F g→w'.heap[g]?=w.heap[g]?) (hi:∀g,obl ia g→w'.heap[g]?=w.heap[g]?):RW w' p F ia ic L gk ck aP aT cP cT q W:=
 {h with lt:=fun g hg=>Nat.lt_of_lt_of_le (h.lt g hg) hs,cells:=(k p h.fp).trans h.cells,kd:=h.kd.kept (k gk h.fk),pc:=h.pc.keepO (fun g hg=>k g (h.fP g hg)),tx:=h.tx.keepO (fun g hg=>k g (h.fT g hg)),img:=h.img.keepO hi}
theorem RW.ilt (h:RW w p F ia ic L gk ck aP aT cP cT q W) (hn:0<W.kd.length):∀k,obl ia k→k<w.heap.size:=by
 rintro k ⟨x,rfl,rfl⟩;obtain ⟨b,off,e⟩:=h.img.some' (by have:=h.il;omega);cases e;exact block_lt_of_cell (h.img.cells 0 (by have:=h.il;omega))
theorem RW.below (h:RW w p F ia ic L gk ck aP aT cP cT q W) (hn:0<W.kd.length) (hb:Below w.heap.size w w'):RW w' p F ia ic L gk ck aP aT cP cT q W:=
 h.keep hb.size (fun g hg=>hb.block g (h.lt g hg)) (fun g hg=>hb.block g (h.ilt hn g hg))
theorem RW.at (h:RW w p F ia ic L gk ck aP aT cP cT q W):w.cell? ⟨p,0,none⟩=some (.slice ia L.length ic)∧w.cell? ⟨p,1,none⟩=some (.slice (some ⟨gk,0,none⟩) W.kd.length ck)∧w.cell? ⟨p,11,none⟩=some (.slice aP W.pc.length cP)∧w.cell? ⟨p,12,none⟩=some (.slice aT W.tx.length cT)∧w.cell? ⟨p,16,none⟩=some (.bool W.bad):=by
 refine ⟨?_,?_,?_,?_,?_⟩<;>rw [cell_of_row w p _ _ _ (0,0) h.cells]<;>rfl
theorem RW.frz (h:RW w p F ia ic L gk ck aP aT cP cT q W) (i:Nat):w.frozen? ⟨p,i,none⟩=false:=by
 unfold World.frozen?;rw [h.cells];simp
theorem RW.setBad (h:RW w p F ia ic L gk ck aP aT cP cT q W) (x:Bool):RW (w.setCell ⟨p,16,none⟩ (.bool x)) p F ia ic L gk ck aP aT cP cT q {W with bad:=x}:=by
 have k:∀g,¬g=p→(w.setCell ⟨p,16,none⟩ (.bool x)).heap[g]?=w.heap[g]?:=fun g hg=>Below.heap_setCell w ⟨p,16,none⟩ _ g hg
 exact {h with
  lt:=fun g hg=>by rw [size_setCell];exact h.lt g hg
  cells:=by rw [setCell_heap _ _ _ _ _ _ _ h.cells];rfl
  kd:=h.kd.kept (k gk (fun e=>h.pk e.symm))
  pc:=h.pc.keepO (fun g hg=>k g (fun e=>h.pP (e▸hg)))
  tx:=h.tx.keepO (fun g hg=>k g (fun e=>h.pT (e▸hg)))
  img:=h.img.keepO (fun g hg=>k g (fun e=>h.inF g hg (e▸h.fp)))}
theorem RW.setKd (h:RW w p F ia ic L gk ck aP aT cP cT q W) {n:Nat} (hn:n<W.kd.length) {y:Int} (hy:0≤y∧y≤255):RW (w.setCell ⟨gk,n,none⟩ (.int .u8 y)) p F ia ic L gk ck aP aT cP cT q {W with kd:=W.kd.set n y}:=by
 have k:∀g,¬g=gk→(w.setCell ⟨gk,n,none⟩ (.int .u8 y)).heap[g]?=w.heap[g]?:=fun g hg=>Below.heap_setCell w ⟨gk,n,none⟩ _ g hg
 obtain ⟨-,-,-,hst⟩:=own_at' h.kd n hn
 exact {h with
  lt:=fun g hg=>by rw [size_setCell];exact h.lt g hg
  cells:=by rw [k p h.pk,h.cells,List.length_set]
  kd:=by rw [List.length_set];exact hst y
  pc:=h.pc.keepO (fun g hg=>k g (fun e=>h.kP (e▸hg)))
  tx:=h.tx.keepO (fun g hg=>k g (fun e=>h.kT (e▸hg)))
  kb:=fun z hz=>by
   rcases List.mem_or_eq_of_mem_set hz with hz|rfl
   ·exact h.kb z hz
   ·exact hy
  img:=h.img.keepO (fun g hg=>k g (fun e=>h.inF g hg (e▸h.fk)))
  il:=by rw [List.length_set];exact h.il
  kl:=by rw [List.length_set];exact h.kl}
theorem RW.page (h:RW w p F ia ic L gk ck aP aT cP cT q W) {n:Nat} (hn:n<W.kd.length):∃b off,ia=some ⟨b,off,none⟩∧Row w (some ⟨b,off+n*256,none⟩) (ic-n*256) (pageOf L n)∧(pageOf L n).length=256∧n*256+256≤L.length∧L.length≤ic∧ic≤9223372036854775807:=by
 have il:=h.il;obtain ⟨b,off,rfl⟩:=h.img.some' (by omega);have h2:=h.img.2.1;have h3:=h.img.2.2.1;refine ⟨b,off,rfl,?_,by unfold pageOf;simp;omega,by omega,h2,by unfold maxLen at h3;omega⟩;refine ⟨fun z hz=>h.img.1 z (List.mem_of_mem_drop (List.mem_of_mem_take hz)),by unfold pageOf;simp;omega,by omega,.inr ⟨b,off+n*256,rfl,fun i hi=>?_⟩⟩;have hi':i<256:=by unfold pageOf at hi;simp at hi;omega
 have e:=h.img.cells (n*256+i) (by omega);rw [show off+n*256+i=off+(n*256+i) by omega,e];unfold pageOf;rw [List.getD_eq_getElem?_getD,List.getD_eq_getElem?_getD,List.getElem?_take,if_pos hi',List.getElem?_drop]
set_option maxRecDepth 20000 in
theorem page_no (h:RW w p F ia ic L gk ck aP aT cP cT q W) (n kd:Int) (hn: -9223372036854775808≤n∧n≤9223372036854775807) (hk:kdB W n kd=false):
  Calls Tryz.prog 70 #[.pointer (some ⟨p,0,none⟩),.int .i64 n,.int .u8 kd] w fun e w'=>e=.returned (.slice none 0 0)∧RW w' p F ia ic L gk ck aP aT cP cT q {W with bad:=true}∧Ch w.heap.size F w w':=by
 obtain ⟨-,c1,-,-,c16⟩:=h.at;have z16:=h.frz 16;have hkl:=h.kl;have HX:Hid (RW w p F ia ic L gk ck aP aT cP cT q W):=h;by_cases h2:n<2
 ·clear h hk;go_enter Tryz.func70,Tryz.ntmps70
  go_wp2;go_ret
  exact ⟨rfl,HX.out.setBad true,Ch.set HX.out.fp _ _⟩
 ·by_cases h3:(W.kd.length:Int)≤n
  ·clear h hk;go_enter Tryz.func70,Tryz.ntmps70
   go_wp2;go_ret
   exact ⟨rfl,HX.out.setBad true,Ch.set HX.out.fp _ _⟩
  ·obtain ⟨m,rfl⟩:=Int.eq_ofNat_of_zero_le (show 0≤n by omega);have hm:m<W.kd.length:=by omega
   obtain ⟨-,b1,b2,-⟩:=own_at' h.kd m hm;obtain ⟨-,-,k1,k2,-⟩:=h.kd.cur;unfold maxLen at k2;obtain ⟨y,hy⟩:∃y,W.kd.getD m 0=y:=⟨_,rfl⟩;rw [hy] at b1;unfold kdB at hk;rw [Int.toNat_natCast,hy,decide_eq_true (show (2:Int)≤m by omega),decide_eq_true (show (m:Int)<W.kd.length by omega),Bool.true_and,Bool.true_and,Bool.or_eq_false_iff] at hk;obtain ⟨y0,y1⟩:=hk;have HY:Hid ((y==0)=false):=y0;have hyn:(y==0)=false:=y0;have hyn2:(y !=0)=true:=by simpa using y0
   by_cases e1:kd=120
   ·subst e1;have y2:(y==120)=false:=by simpa using y1
    have y3:(y !=120)=true:=by simpa using y1
    clear h y0 y1 hy;go_enter Tryz.func70,Tryz.ntmps70
    go_wp2;go_ret
    exact ⟨rfl,HX.out.setBad true,Ch.set HX.out.fp _ _⟩
   ·have e1':(kd==120)=false:=by simpa using e1
    have e2':(kd !=120)=true:=by simpa using e1
    clear h y0 y1 hy e1;go_enter Tryz.func70,Tryz.ntmps70
    go_wp2;go_ret
    exact ⟨rfl,HX.out.setBad true,Ch.set HX.out.fp _ _⟩
set_option maxRecDepth 20000 in
theorem page_yes (h:RW w p F ia ic L gk ck aP aT cP cT q W) (n kd:Int) (hkd:0≤kd∧kd≤255) (hk:kdB W n kd=true):
  Calls Tryz.prog 70 #[.pointer (some ⟨p,0,none⟩),.int .i64 n,.int .u8 kd] w fun e w'=>(∃a' c',e=.returned (.slice (some a') 256 c')∧Row w' (some a') c' (pageOf L n.toNat)∧(pageOf L n.toNat).length=256∧obl ia a'.block)∧RW w' p F ia ic L gk ck aP aT cP cT q {W with kd:=W.kd.set n.toNat kd}∧Ch w.heap.size F w w':=by
 obtain ⟨i1,i2⟩:=kdB_in hk;obtain ⟨m,rfl⟩:=Int.eq_ofNat_of_zero_le (show 0≤n by omega);have hm:m<W.kd.length:=by omega
 have HX:Hid (RW w p F ia ic L gk ck aP aT cP cT q W):=h;obtain ⟨b,off,rfl,hrow,hpl,l1,l2,l3⟩:=h.page hm;obtain ⟨c0,c1,-,-,-⟩:=h.at;have hkl:=h.kl;obtain ⟨-,b1,b2,-⟩:=own_at' h.kd m hm;obtain ⟨-,-,k1,k2,-⟩:=h.kd.cur;unfold maxLen at k2;have hpk:=h.pk
 have hy1:W.kd.getD m 0=0∨(kd=120∧W.kd.getD m 0=120):=by
  unfold kdB at hk;rw [Int.toNat_natCast] at hk;simp only [Bool.and_eq_true,Bool.or_eq_true,beq_iff_eq] at hk;exact hk.2.2
 rw [Int.toNat_natCast]
 have HE:Hid (∀w',w'=w.setCell ⟨gk,m,none⟩ (.int .u8 kd)→(∃a' c',Ending.returned (.slice (some ⟨b,off+m*256,none⟩) 256 (ic-m*256))=.returned (.slice (some a') 256 c')∧Row w' (some a') c' (pageOf L m)∧(pageOf L m).length=256∧obl (some ⟨b,off,none⟩) a'.block)∧RW w' p F (some ⟨b,off,none⟩) ic L gk ck aP aT cP cT q {W with kd:=W.kd.set m kd}∧Ch w.heap.size F w w'):=by
  rintro w' rfl;have hb:¬b=gk:=fun e=>HX.out.inF b ⟨_,rfl,rfl⟩ (e▸HX.out.fk)
  exact ⟨⟨_,_,rfl,hrow.keepO (fun g hg=>by obtain ⟨x,hx,rfl⟩:=hg;cases hx;exact Below.heap_setCell w ⟨gk,m,none⟩ _ b hb),hpl,⟨_,rfl,rfl⟩⟩,HX.out.setKd hm hkd,Ch.set HX.out.fk _ _⟩
 obtain ⟨y,hy⟩:∃y,W.kd.getD m 0=y:=⟨_,rfl⟩;rw [hy] at b1 hy1;obtain ⟨il,hil⟩:∃il,L.length=il:=⟨_,rfl⟩;rw [hil] at c0 l1 l2;obtain ⟨s,hs⟩:∃s,m*256=s:=⟨_,rfl⟩;obtain ⟨u,hu⟩:∃u,m*256+256=u:=⟨_,rfl⟩;have m1:((m:Int)*256)=(s:Int):=by omega
 have m2:(((m:Int)+1)*256)=(u:Int):=by omega
 have m3:u-s=256:=by omega
 have m4:s≤u:=by omega
 have m5:u≤ic:=by omega
 have m6:((u:Int)-(s:Int))=256:=by omega
 have hu1:u≤1048576:=by omega
 rw [hs] at HE;clear h hrow hpl hk hy hil hs hu;rcases hy1 with rfl|⟨rfl,rfl⟩
 ·go_enter Tryz.func70,Tryz.ntmps70
  go_wp2;go_ret
  exact HE.out _ rfl
 ·go_enter Tryz.func70,Tryz.ntmps70
  go_wp2;go_ret
  exact HE.out _ rfl
end
def WkOk (W:Wk):Prop:=W.pc.length≤W.tx.length∧(W.bad=false→W.tx.length≤1048576)
theorem seg_len {t:List Int} {p:C4} (h0:0≤p.b) (h1:0≤p.c) (h:p.b+p.c≤(t.length:Int)):(seg t p).length=p.c.toNat:=by unfold seg;simp;omega
theorem wpc_ok {L:List Int} {W:Wk} {p:C4} (h:WkOk W) (hp:okC false p=true):WkOk (wpc L W p):=by
 obtain ⟨h1,h2⟩:=h;have hb:=okC_bd hp;unfold wpc WkOk;split
 ·split
  ·next e=>
   have hl:=seg_len hb.2.1.1 (by omega) e.2;refine ⟨by simp only [List.length_append,List.length_cons,List.length_nil];omega,fun hf=>?_⟩;simp only [Bool.or_eq_false_iff,decide_eq_false_iff_not] at hf;have:=hf.2;simp only at this ⊢;omega
  ·exact ⟨h1,fun e=>by cases e⟩
 ·exact ⟨h1,fun e=>by cases e⟩
theorem teL_le {zs:List Int} (hb:Bys zs):(teL zs).length≤248:=by
 by_cases e:teE zs=0
 ·exact (bytB_out (byt_te hb e).1).2
 ·unfold teL;rw [if_neg e];simp
section
variable {w w':World} {p gk ck cP cT ic:Nat} {F:Nat→Prop} {ia aP aT:Option Addr} {L:List Int} {q:Nat→Value} {W:Wk}
theorem RW.fresh (h:RW w p F ia ic L gk ck aP aT cP cT q W) {o:Obj} {w2:World} (hc:Ch (w.alloc o).heap.size F (w.alloc o) w2) (j:Nat):w2.cell? ⟨w.heap.size,j,none⟩=(w.alloc o).cell? ⟨w.heap.size,j,none⟩:=
 hc.cell (p:=⟨w.heap.size,j,none⟩) (by simp) (fun e=>by have:=h.lt _ e;simp at this)
set_option maxRecDepth 20000 in
theorem piece_no (h:RW w p F ia ic L gk ck aP aT cP cT q W) (hk0:0<W.kd.length) (x:C4) (hx:okC false x=true) (hk:kdB W x.a 120=false):
  Calls Tryz.prog 99 #[.pointer (some ⟨p,0,none⟩),c4V x] w fun e w'=>e=.returned (.tuple #[])∧RW w' p F ia ic L gk ck aP aT cP cT q {W with bad:=true}∧Ch w.heap.size F w w':=by
 have hb:=okC_bd hx;obtain ⟨A,B,C,D⟩:=x;simp only at hb hk ⊢;have hp:=page_no (h.below hk0 (w':=w.alloc (.cells #[.int .i64 A,.int .i64 B,.int .i64 C,.int .i64 D] 72)) ((Below.refl _ w).alloc (Nat.le_refl _) _)) A 120 (by omega) hk;have HB0:Hid (∀o,Below w.heap.size w (w.alloc o)):=fun o=>(Below.refl _ w).alloc (Nat.le_refl _) o
 unfold c4V;clear h hx hk hb;go_enter Tryz.func99,Tryz.ntmps99
 go_wp2_with fail
 refine hp.mono ?_;clear hp;rintro e w1 ⟨rfl,h1,hc1⟩;obtain ⟨-,-,-,-,c16⟩:=h1.at;simp only at c16;have H1:Hid (RW w1 p F ia ic L gk ck aP aT cP cT q {W with bad:=true}∧Ch w.heap.size F w w1):=⟨h1,(Ch.of F (HB0.out _)).trans (hc1.mono (by simp) (fun _ _ e=>e))⟩;clear h1 hc1;go_wp2;refine bodyPost_ret (results_none rfl _ _ _) rfl ?_;exact ⟨rfl,H1.out.1,H1.out.2⟩
theorem lin_snoc (l:List Int) (z:Int):lin (l++[z])=lin l+(if z=10 then 1 else 0):=by
 unfold lin;rw [List.count_append];by_cases e:z=10
 ·subst e;simp
 ·have e2:[z].count 10=0:=by rw [List.count_eq_zero];simp;exact fun h=>e h.symm
  rw [if_neg e,e2];simp
theorem lin_bd (l:List Int):0≤lin l∧lin l≤l.length:=by
 unfold lin;have:=List.count_le_length (a:=(10:Int)) (l:=l);omega
set_option maxRecDepth 20000 in
theorem piece_tx (h:RW w p F ia ic L gk ck aP aT cP cT q W) (hbad:W.bad=false) (hk0:0<W.kd.length) (x:C4) (hx:okC false x=true) (hk:kdB W x.a 120=true) (ht:¬(teE (pageOf L x.a.toNat)=0∧x.b+x.c≤((teL (pageOf L x.a.toNat)).length:Int))):
  Calls Tryz.prog 99 #[.pointer (some ⟨p,0,none⟩),c4V x] w fun e w'=>e=.returned (.tuple #[])∧RW w' p F ia ic L gk ck aP aT cP cT q {W with kd:=W.kd.set x.a.toNat 120,bad:=true}∧Ch w.heap.size F w w':=by
 have hb:=okC_bd hx;have hb5:=hb.2.2.2.2 rfl;obtain ⟨A,B,C,D⟩:=x;simp only at hb hb5 hk ht ⊢;have hp:=page_yes (h.below hk0 (w':=w.alloc (.cells #[.int .i64 A,.int .i64 B,.int .i64 C,.int .i64 D] 72)) ((Below.refl _ w).alloc (Nat.le_refl _) _)) A 120 (by omega) hk;have HF:Hid (∀w2,Ch (w.alloc (.cells #[.int .i64 A,.int .i64 B,.int .i64 C,.int .i64 D] 72)).heap.size F (w.alloc (.cells #[.int .i64 A,.int .i64 B,.int .i64 C,.int .i64 D] 72)) w2→∀j,w2.cell? ⟨w.heap.size,j,none⟩=(w.alloc (.cells #[.int .i64 A,.int .i64 B,.int .i64 C,.int .i64 D] 72)).cell? ⟨w.heap.size,j,none⟩):=fun w2 hc j=>h.fresh hc j
 have HB0:Hid (∀o,Below w.heap.size w (w.alloc o)):=fun o=>(Below.refl _ w).alloc (Nat.le_refl _) o
 have HK:Hid (0<W.kd.length):=hk0;have HBAD:Hid (W.bad=false):=hbad;have HT:Hid (¬(teE (pageOf L A.toNat)=0∧B+C≤((teL (pageOf L A.toNat)).length:Int))):=ht;unfold c4V;obtain ⟨ab,hab⟩:∃ab,w.heap.size=ab:=⟨_,rfl⟩;have HAB:Hid (w.heap.size=ab):=hab;clear h hx hk ht hbad hab hk0;go_enter Tryz.func99,Tryz.ntmps99
 go_wp2_with fail
 refine hp.mono ?_;clear hp;rintro e w1 ⟨⟨a',c',rfl,hr1,hl1,hobl⟩,h1,hc1⟩;obtain ⟨-,-,-,-,c16⟩:=h1.at;have z16:=h1.frz 16;simp only [HBAD.out] at c16;have ls:ab<w1.heap.size:=by have:=hc1.size;simp at this;have:=HAB.out;omega
 rw [HAB.out];have f0:w1.cell? ⟨ab,1,none⟩=some (.int .i64 B):=by rw [←HAB.out];exact (HF.out w1 hc1 1).trans (by simp [go_sem])
 have f1:w1.cell? ⟨ab,2,none⟩=some (.int .i64 C):=by rw [←HAB.out];exact (HF.out w1 hc1 2).trans (by simp [go_sem])
 have H1:Hid (RW w1 p F ia ic L gk ck aP aT cP cT q {W with kd:=W.kd.set A.toNat 120}∧Ch w.heap.size F w w1):=⟨h1,(Ch.of F (HB0.out _)).trans (hc1.mono (by simp) (fun _ _ e=>e))⟩;obtain ⟨E,hE⟩:∃E,teE (pageOf L A.toNat)=E:=⟨_,rfl⟩;obtain ⟨T,hT⟩:∃T,teL (pageOf L A.toNat)=T:=⟨_,rfl⟩;have htx:=rtext_v (some a') c' 256 (pageOf L A.toNat) w1 hr1 hl1 E hE T hT _ rfl;have ht:=HT.out;rw [hE,hT] at ht;have hTb:T.length≤248:=by rw [←hT];exact teL_le hr1.1
 have lp:p<w1.heap.size:=h1.lt p h1.fp;clear h1 hc1 hr1 hl1 hE hT HT hobl;go_wp2_with fail
 refine htx.mono ?_;clear htx;rintro e w2 ⟨g,c,rfl,-,-,hb2⟩;have d16:=(hb2.cell (p:=⟨p,16,none⟩) lp).trans c16;have y16:=(hb2.frozen (p:=⟨p,16,none⟩) lp).trans z16;have g0:=(hb2.cell (p:=⟨ab,1,none⟩) ls).trans f0;have g1:=(hb2.cell (p:=⟨ab,2,none⟩) ls).trans f1;have H2:Hid (RW w2 p F ia ic L gk ck aP aT cP cT q {W with kd:=W.kd.set A.toNat 120}∧Ch w.heap.size F w w2):=⟨H1.out.1.below (by show 0<(W.kd.set _ _).length;rw [List.length_set];exact HK.out) hb2,H1.out.2.trans (Ch.of F (hb2.mono H1.out.2.size))⟩;clear hb2 H1 c16 z16 f0 f1;by_cases e0:E=0
 ·have hlt:(T.length:Int)<B+C:=by omega
  subst e0;clear ht;go_wp2;refine bodyPost_ret (results_none rfl _ _ _) rfl ?_;exact ⟨rfl,H2.out.1.setBad true,H2.out.2.setCell (p:=⟨p,16,none⟩) (.inr H2.out.1.fp) _⟩
 ·have e0':(E==0)=false:=by simpa using e0
  have e0'':(E !=0)=true:=by simpa using e0
  clear ht;go_wp2;refine bodyPost_ret (results_none rfl _ _ _) rfl ?_;exact ⟨rfl,H2.out.1.setBad true,H2.out.2.setCell (p:=⟨p,16,none⟩) (.inr H2.out.1.fp) _⟩
end
theorem rtext_gotF (a:Option Addr) (cap n:Nat) (w:World) (P:Pg) (E:Int)
  (C:Calls Tryz.prog 95 #[.slice a n cap] w fun e w'=>∃g c,e=.returned (.tuple #[pgV P g c,.int .i64 E])∧Own w.heap.size w' (.slice g P.body.length c) P.body∧Below w.heap.size w w') (hE:E=0) (h1:(P.kind !=4)=false) (h2:(P.level !=0)=false) (k:Nat) (hk:P.count=k) (hk1:1≤k) (hk2:k≤248) (hlen:P.body.length=248) (hbys:Bys P.body) (V:Bool) (hV:nouB (P.body.drop k)=V):
  Calls Tryz.prog 117 #[.slice a n cap] w fun e w'=>∃g c,e=.returned (.tuple #[.slice g (if V then k else 0) c,.int .i64 (if V then 0 else 4)])∧(g=none→c=0)∧(∀x,g=some x→w.heap.size≤x.block)∧Row w' g c (if V then P.body.take k else [])∧Below w.heap.size w w':=by
 subst hE;dsimp only [pgV] at C;rw [hlen,hk] at C;have HC:Hid _:=C;clear C hk;go_enter Tryz.func117,Tryz.ntmps117
 go_wp2_with fail
 refine (Calls.mono HC.out) ?_;rintro e w1 ⟨g,c,rfl,ho,hb⟩;have HB:Hid (Below w.heap.size w w1):=hb;have HR:Hid (Row (w1.alloc (.cells #[.int .i64 P.kind,.int .i64 P.level,.int .i64 k,.slice g 248 c] 127)) g c P.body):=(ho.row' hbys).2.below ((Below.refl _ _).alloc (Nat.le_refl _) _);obtain ⟨b,off,hg⟩:=HR.out.some' (by omega);subst hg;have HLO:Hid (w.heap.size≤b):=ho.lt' b rfl;clear hb ho HC;have hcap:=HR.out.2.1;have hmx:=HR.out.2.2.1;unfold maxLen at hmx;rw [hlen] at hcap;have CN:=rnoughts_v _ _ _ 248 k _ _ HR.out hlen (by omega) V hV;cases V
 ·go_wp2_with fail
  refine CN.mono ?_;clear CN;rintro e w3 ⟨rfl,rfl⟩;go_wp2;go_ret2
  exact ⟨none,0,rfl,fun _=>rfl,(fun x h=>by cases h),row0 _,HB.out.alloc HB.out.size _⟩
 ·go_wp2_with fail
  refine CN.mono ?_;clear CN;rintro e w3 ⟨rfl,rfl⟩;go_wp2;go_ret2
  exact ⟨some ⟨b,off,none⟩,c,rfl,(fun h=>by cases h),(fun x h=>by cases h;exact HLO.out),HR.out.take' k c (by omega) (by omega) (by omega),HB.out.alloc HB.out.size _⟩
theorem rtext_f (a:Option Addr) (cap n:Nat) (zs:List Int) (w:World) (h:Row w a cap zs) (hn:zs.length=n) (E:Int) (hE:teE zs=E) (L:List Int) (hL:teL zs=L) (m:Nat) (hm:L.length=m):
  Calls Tryz.prog 117 #[.slice a n cap] w fun e w'=>∃g c,e=.returned (.tuple #[.slice g m c,.int .i64 E])∧(g=none→c=0)∧(∀x,g=some x→w.heap.size≤x.block)∧Row w' g c L∧Below w.heap.size w w':=by
 subst hE hL hm;have C:=ropen_v a cap n zs w h hn _ rfl _ rfl
 have bad:teB (opP zs)=false→opE zs=0→Calls Tryz.prog 117 #[.slice a n cap] w (fun e w'=>e=.returned (.tuple #[.slice none 0 0,.int .i64 4])∧Below w.heap.size w w')→Calls Tryz.prog 117 #[.slice a n cap] w fun e w'=>∃g c,e=.returned (.tuple #[.slice g (teL zs).length c,.int .i64 (teE zs)])∧(g=none→c=0)∧(∀x,g=some x→w.heap.size≤x.block)∧Row w' g c (teL zs)∧Below w.heap.size w w':=fun hb ho hc=>by
  obtain ⟨e1,e2⟩:=teE_no ho hb;rw [e1,e2];refine hc.mono ?_;rintro e w' ⟨rfl,hb⟩;exact ⟨none,0,rfl,fun _=>rfl,(fun x h=>by cases h),row0 _,hb⟩
 have badB:¬((opP zs).kind=4∧(0≤(opP zs).level∧(opP zs).level≤0)∧(1≤(opP zs).count∧(opP zs).count≤248))→teB (opP zs)=false:=fun hh=>by
  unfold teB;rw [opB_no (s:=textS) hh];rfl
 by_cases ho:opE zs=0
 ·obtain ⟨_,_,hbys,hlen⟩:=seal_open h.1 ho;by_cases h1:(opP zs).kind=4;rotate_left
  ·exact bad (badB (by omega)) ho (rtext_kind a cap n w _ _ C ho (by simpa using h1))
  by_cases h2:(opP zs).level=0;rotate_left
  ·exact bad (badB (by omega)) ho (rtext_level a cap n w _ _ C ho (by simpa using h1) (by simpa using h2))
  by_cases h3:1≤(opP zs).count;rotate_left
  ·exact bad (badB (by omega)) ho (rtext_least a cap n w _ _ C ho (by simpa using h1) (by simpa using h2) (by omega))
  by_cases h4:(opP zs).count≤248;rotate_left
  ·exact bad (badB (by omega)) ho (rtext_most a cap n w _ _ C ho (by simpa using h1) (by simpa using h2) h3 (by omega))
  obtain ⟨k,hk⟩:=Int.eq_ofNat_of_zero_le (show 0≤(opP zs).count by omega)
  have hB:opB textS (opP zs)=true:=by
   unfold opB;rw [Bool.and_eq_true,takes_iff];refine ⟨decide_eq_true h1,⟨?_,?_⟩,h3,h4⟩
   ·show (0:Int)≤(opP zs).level;omega
   ·show (opP zs).level≤0;omega
  have:=rtext_gotF a cap n w _ _ C ho (by simpa using h1) (by simpa using h2) k hk (by omega) (by omega) hlen hbys _ rfl;cases hv:nouB ((opP zs).body.drop k)
  ·obtain ⟨e1,e2⟩:=teE_no ho (by unfold teB;rw [hB,hk,Int.toNat_natCast,hv];rfl);rw [hv] at this;rw [e1,e2];refine this.mono ?_;rintro e w' ⟨g,c,rfl,h1,h3,h2,hb⟩;exact ⟨g,c,rfl,h1,h3,h2,hb⟩
  ·have e1:teE zs=0:=by unfold teE teB;rw [if_pos ho,hB,hk,Int.toNat_natCast,hv];rfl
   have e2:teL zs=(opP zs).body.take k:=by unfold teL;rw [if_pos e1,hk];rfl
   rw [hv] at this;rw [e1,e2];refine this.mono ?_;rintro e w' ⟨g,c,rfl,h1,h3,h2,hb⟩;refine ⟨g,c,?_,h1,h3,h2,hb⟩;rw [List.length_take,hlen,Nat.min_eq_left (by omega)];rfl
 ·have:=rtext_err a cap n w _ _ C (by simpa using ho);have e1:teE zs=opE zs:=by unfold teE;rw [if_neg ho]
  have e2:teL zs=[]:=by unfold teL;rw [e1,if_neg ho]
  rw [e1,e2];refine this.mono ?_;rintro e w' ⟨rfl,hb⟩;exact ⟨none,0,rfl,fun _=>rfl,(fun x h=>by cases h),row0 _,hb⟩
end Go.Proofs.YtjllhcifmfhkmaaGreat.Oct
