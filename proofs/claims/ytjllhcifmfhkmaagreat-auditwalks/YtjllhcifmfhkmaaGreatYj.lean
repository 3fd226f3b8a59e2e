/- Part of a proof. -/
import Derived.Test.YtjllhcifmfhkmaaGreatYg
import Derived.OwnWalk
set_option maxHeartbeats 4000000
namespace Go.Proofs.YtjllhcifmfhkmaaGreat.Oct
open Go.RowKit
theorem heap_alloc_size (w:World) (o:Obj):(w.alloc o).heap.size=w.heap.size+1:=by
 show (w.heap.push o).size=_;simp
theorem At4.at {w:World} {B:Nat} {q:C4} (h:At4 w B 0 q) {k:Nat} (hk:k<4):w.cell? ⟨B,k,none⟩=some (.int .i64 (atC q k)):=by
 obtain ⟨h0,h1,h2,h3⟩:=h;rcases four hk with rfl|rfl|rfl|rfl<;>assumption
theorem at4_new (w:World) (q:C4) (t:TypeId):At4 (w.alloc (.cells #[.int .i64 q.a,.int .i64 q.b,.int .i64 q.c,.int .i64 q.d] t)) w.heap.size 0 q:=by
 unfold At4;simp
theorem layB_no {t:Bool} {lv:Int} {l:List C4} {k:Nat} (hk:k<l.length) (h:okC t (l.getD k c40)=false):layB t lv l=false:=by
 cases hB:layB t lv l
 ·rfl
 ·have:=(layB_out hB).2.2 _ (getD_mem hk);rw [h] at this;cases this
theorem layB_yes {t:Bool} {lv:Int} {l:List C4} (ht:takesB (shtT t) lv l.length=true) (h:∀k,k<l.length→okC t (l.getD k c40)=true):layB t lv l=true:=by
 unfold layB;rw [ht,Bool.true_and,List.all_eq_true];intro q hq;obtain ⟨i,hi,rfl⟩:=List.getElem_of_mem hq;have:=h i hi
 rwa [List.getD_eq_getElem?_getD,List.getElem?_eq_getElem hi] at this
theorem take_next (l:List C4) (k:Nat) (hk:k<l.length):l.take (k+1)=l.take k++[l.getD k c40]:=by
 rw [List.take_add_one,List.getElem?_eq_getElem hk,List.getD_eq_getElem?_getD,List.getElem?_eq_getElem hk];rfl
theorem layZ_yes {t:Bool} {lv:Int} {l:List C4} (h:layB t lv l=true):layE t lv l=0∧layZ t lv l=sealL (pgC t lv l)∧slE (shtT t) lv l.length (celsC t l)=0∧slZ (shtT t) lv l.length (celsC t l)=sealL (pgC t lv l):=by
 have ht:takesB (shtT t) lv l.length=true:=by
  unfold layB at h;rw [Bool.and_eq_true] at h;exact h.1
 have hs:sealE ⟨(shtT t).kind,lv,l.length,celsC t l⟩=0:=pgC_ok h;refine ⟨by unfold layE;rw [if_pos h],by unfold layZ;rw [if_pos h],by unfold slE;rw [if_pos ht];exact hs,?_⟩;unfold slZ sealZ;rw [if_pos ht,if_pos hs];rfl
theorem lay_no {t:Bool} {lv:Int} {l:List C4} (h:layB t lv l=false):layE t lv l=1∧layZ t lv l=[]:=by
 constructor
 ·unfold layE;rw [h];rfl
 ·unfold layZ;rw [h];rfl
theorem cels_grown {t:Bool} {l:List C4} {q:C4} {k base:Nat} {w:World} {v:Value} (ht:l.take (k+1)=l.take k++[q]) (hl:(l.take k).length=k) (h:Own base w v (celsC t (l.take k)++celC t q)):
  ∃a c,v=.slice a ((k+1)*szC t) c∧Hid (Own base w (.slice a ((k+1)*szC t) c) (celsC t (l.take (k+1)))):=by
 rw [←cels_snoc,←ht] at h;obtain ⟨a,c,hv,_⟩:=h.row (cels_bys _ _);have e:(celsC t (l.take (k+1))).length=(k+1)*szC t:=by rw [cels_len,ht,List.length_append,hl];rfl
 rw [e] at hv;subst hv;exact ⟨a,c,rfl,h⟩
theorem pieceLay_box (w w1:World) (hb:Below ((w.alloc (.cells #[.int .i64 3,.int .i64 0,.int .i64 0,.int .i64 20] 179)).alloc (.cells #[.int .i64 12,.func (Fn.func 139) #[] #[],.func (Fn.func 140) #[] #[]] 183)).heap.size ((w.alloc (.cells #[.int .i64 3,.int .i64 0,.int .i64 0,.int .i64 20] 179)).alloc (.cells #[.int .i64 12,.func (Fn.func 139) #[] #[],.func (Fn.func 140) #[] #[]] 183)) w1):
  Hid (Below w.heap.size w w1)∧(w1.cell? ⟨w.heap.size,0,none⟩=some (.int .i64 3)∧w1.cell? ⟨w.heap.size,1,none⟩=some (.int .i64 0)∧w1.cell? ⟨w.heap.size,2,none⟩=some (.int .i64 0)∧w1.cell? ⟨w.heap.size,3,none⟩=some (.int .i64 20))∧
   (w1.cell? ⟨w.heap.size+1,0,none⟩=some (.int .i64 12)∧w1.cell? ⟨w.heap.size+1,1,none⟩=some (.func (Fn.func 139) #[] #[])∧w1.cell? ⟨w.heap.size+1,2,none⟩=some (.func (Fn.func 140) #[] #[])):=by
 have e:∀(i j:Nat),i≤w.heap.size+1→w1.cell? ⟨i,j,none⟩=((w.alloc (.cells #[.int .i64 3,.int .i64 0,.int .i64 0,.int .i64 20] 179)).alloc (.cells #[.int .i64 12,.func (Fn.func 139) #[] #[],.func (Fn.func 140) #[] #[]] 183)).cell? ⟨i,j,none⟩:=fun i j hi=>hb.cell (p:=⟨i,j,none⟩) (by show i<_;rw [heap_alloc_size,heap_alloc_size];omega)
 refine ⟨(((Below.refl _ w).alloc (Nat.le_refl _) _).alloc (by simp) _).trans (hb.mono (by simp;omega)),⟨?_,?_,?_,?_⟩,?_,?_,?_⟩
 all_goals rw [e _ _ (by omega)];simp
theorem kidLay_box (w w1:World) (hb:Below ((w.alloc (.cells #[.int .i64 2,.int .i64 1,.int .i64 32,.int .i64 12] 179)).alloc (.cells #[.int .i64 20,.func (Fn.func 142) #[] #[],.func (Fn.func 143) #[] #[]] 188)).heap.size ((w.alloc (.cells #[.int .i64 2,.int .i64 1,.int .i64 32,.int .i64 12] 179)).alloc (.cells #[.int .i64 20,.func (Fn.func 142) #[] #[],.func (Fn.func 143) #[] #[]] 188)) w1):
  Hid (Below w.heap.size w w1)∧(w1.cell? ⟨w.heap.size,0,none⟩=some (.int .i64 2)∧w1.cell? ⟨w.heap.size,1,none⟩=some (.int .i64 1)∧w1.cell? ⟨w.heap.size,2,none⟩=some (.int .i64 32)∧w1.cell? ⟨w.heap.size,3,none⟩=some (.int .i64 12))∧
   (w1.cell? ⟨w.heap.size+1,0,none⟩=some (.int .i64 20)∧w1.cell? ⟨w.heap.size+1,1,none⟩=some (.func (Fn.func 142) #[] #[])∧w1.cell? ⟨w.heap.size+1,2,none⟩=some (.func (Fn.func 143) #[] #[])):=by
 have e:∀(i j:Nat),i≤w.heap.size+1→w1.cell? ⟨i,j,none⟩=((w.alloc (.cells #[.int .i64 2,.int .i64 1,.int .i64 32,.int .i64 12] 179)).alloc (.cells #[.int .i64 20,.func (Fn.func 142) #[] #[],.func (Fn.func 143) #[] #[]] 188)).cell? ⟨i,j,none⟩:=fun i j hi=>hb.cell (p:=⟨i,j,none⟩) (by show i<_;rw [heap_alloc_size,heap_alloc_size];omega)
 refine ⟨(((Below.refl _ w).alloc (Nat.le_refl _) _).alloc (by simp) _).trans (hb.mono (by simp;omega)),⟨?_,?_,?_,?_⟩,?_,?_,?_⟩
 all_goals rw [e _ _ (by omega)];simp
theorem pre_grown {t:Bool} {l:List C4} {q:C4} {k j base:Nat} {w:World} {v:Value} (hl:l.length=k) (hj:j<4) (h:Own base w v ((celsC t l++preC t q j)++nums (wdC t j) (atC q j).toNat)):
  ∃a c,v=.slice a (k*szC t+ofC t (j+1)) c∧Hid (Own base w (.slice a (k*szC t+ofC t (j+1)) c) (celsC t l++preC t q (j+1))):=by
 rw [List.append_assoc,show preC t q j++nums (wdC t j) (atC q j).toNat=preC t q (j+1) from rfl] at h;obtain ⟨a,c,hv,_⟩:=h.row ((cels_bys _ _).app (preC_bys _ _ _));have e:(celsC t l++preC t q (j+1)).length=k*szC t+ofC t (j+1):=by rw [List.length_append,cels_len,preC_len t q (j+1) (by omega),hl]
 rw [e] at hv;subst hv;exact ⟨a,c,rfl,h⟩
theorem piece_grown {l:List C4} {q:C4} {k base:Nat} {w:World} {v:Value} (ht:l.take (k+1)=l.take k++[q]) (hl:(l.take k).length=k) (h:Own base w v ((celsC false (l.take k)++preC false q 4)++[0,0])):
  ∃a c,v=.slice a ((k+1)*12) c∧Hid (Own base w (.slice a ((k+1)*12) c) (celsC false (l.take (k+1)))):=by
 rw [List.append_assoc,show preC false q 4++[0,0]=celC false q from rfl] at h;exact cels_grown ht hl h
theorem kid_grown {l:List C4} {q:C4} {k base:Nat} {w:World} {v:Value} (ht:l.take (k+1)=l.take k++[q]) (h:Own base w v (celsC true (l.take k)++preC true q 4)):Own base w v (celsC true (l.take (k+1))):=by
 rw [ht,cels_snoc];have:celC true q=preC true q 4:=by unfold celC shC;rw [show szC true-ofC true 4=0 from rfl,List.replicate_zero,List.append_nil]
 rw [this];exact h
theorem pre_bound {t:Bool} {l:List C4} {q:C4} {k j n:Nat} (hl:l.length=k) (hk:k≤20) (hj:j≤4) (hn:n≤8):(celsC t l++preC t q j).length+n≤1000000:=by
 have:=szC_bd t;have h2:=ofC_le t hj;have h3:k*szC t≤20*20:=Nat.mul_le_mul hk this.2;rw [List.length_append,cels_len,preC_len t q j hj,hl];omega
theorem rowZ (w:World) (t:TypeId):Row (w.alloc (.cells #[.int .u8 0,.int .u8 0] t)) (some ⟨w.heap.size,0,none⟩) 2 [0,0]:=row_new w [0,0] t (bysOf rfl) (by simp [maxLen])
set_option maxRecDepth 20000 in
theorem rleaf_v (l:List C4) (a:Option Addr) (cap n:Nat) (w:World) (hr:RowC w a cap l) (hn:l.length=n) (E:Int) (hE:layE false 0 l=E) (Z:List Int) (hZ:layZ false 0 l=Z) (m:Nat) (hm:Z.length=m):
  Calls Tryz.prog 63 #[.slice a n cap] w fun e w'=>∃g c,e=.returned (.tuple #[.slice g m c,.int .i64 E])∧Own w.heap.size w' (.slice g m c) Z∧Below w.heap.size w w':=by
 have hmx:n≤9223372036854775807:=by have:=Nat.le_trans hr.2.1 hr.2.2.1;unfold maxLen at this;omega
 have HNO:Hid (layB false 0 l=false→E=1∧Z=[]∧m=0):=fun h=>by
  obtain ⟨e1,e2⟩:=lay_no h;refine ⟨by rw [←hE,e1],by rw [←hZ,e2],by rw [←hm,←hZ,e2];rfl⟩
 have HTK:Hid (¬(1≤n∧n≤20)→E=1∧Z=[]∧m=0):=fun h=>HNO.out (by
  cases hB:layB false 0 l
  ·rfl
  ·exfalso;obtain ⟨b1,b2,_⟩:=layB_out hB;rw [hn] at b2;have b3:(n:Int)≤20:=b2.2;exact h (by omega))
 by_cases g0:1≤n;rotate_left
 ·obtain ⟨e1,e2,e3⟩:=HTK.out (by omega);have g0':n<1:=by omega
  clear hE hZ hm HNO HTK hr hn g0;subst e1;subst e2;subst e3;go_enter Tryz.func63,Tryz.ntmps63
  go_wp2;go_ret2
  exact ⟨_,_,rfl,World.ownsRow_nil _ _ _ _,Below.refl _ _⟩
 by_cases g1:n≤20;rotate_left
 ·obtain ⟨e1,e2,e3⟩:=HTK.out (by omega);have g1':20<n:=by omega
  clear hE hZ hm HNO HTK hr hn g1;subst e1;subst e2;subst e3;go_enter Tryz.func63,Tryz.ntmps63
  go_wp2;go_ret2
  exact ⟨_,_,rfl,World.ownsRow_nil _ _ _ _,Below.refl _ _⟩
 have HYES:Hid ((∀k,k<n→okC false (l.getD k c40)=true)→∀g c w1,Row w1 g c (celsC false l)→(g=none→c=0)→Calls Tryz.prog 62 #[.agg #[.int .i64 3,.int .i64 0,.int .i64 n,.slice g (n*12) c]] w1 fun e w'=>∃g' c',e=.returned (.tuple #[.slice g' m c',.int .i64 E])∧Own w1.heap.size w' (.slice g' m c') Z∧Below w1.heap.size w1 w'):=fun hk g c w1 hrow hnil=>by
  have hB:layB false 0 l=true:=layB_yes (takes_iff.2 ⟨⟨by decide,by decide⟩,by omega,by show (l.length:Int)≤20;omega⟩) (by rw [hn];exact hk);obtain ⟨y1,y2,y3,y4⟩:=layZ_yes hB;have:=rseal_v (pgC false 0 l) g c w1 hrow hnil E (by rw [←hE,y1];exact pgC_ok hB) Z (by rw [←hZ,y2];unfold sealZ;rw [if_pos (pgC_ok hB)]) m hm;dsimp only [pgV,pgC] at this;rw [cels_len,hn] at this;exact this
 have HN1:Hid (∀k,k<n→okC false (l.getD k c40)=false→E=1∧Z=[]∧m=0):=fun k hk h=>HNO.out (layB_no (by rw [hn];exact hk) h)
 obtain ⟨b,off,rfl⟩:=hr.some' (by omega);have hcap:=hr.2.1;have hmx2:=hr.2.2.1;unfold maxLen at hmx2;rw [hn] at hcap;have HR:Hid (RowC w (some ⟨b,off,none⟩) cap l):=hr;have HL:Hid (l.length=n):=hn;clear hE hZ hm HNO HTK hr hn;go_enter Tryz.func63,Tryz.ntmps63
 go_wp2_with fail
 go_loopw [4,5] (fun o i wr=>∃(k:Nat) (g:Option Addr) (c:Nat),k≤n∧o=.slice g (k*12) c∧i=.int .i64 k∧Hid (∀j,j<k→okC false (l.getD j c40)=true)∧Hid (Own w.heap.size wr (.slice g (k*12) c) (celsC false (l.take k)))∧Hid (Below w.heap.size w wr)) (fun _ i _=>n-(intOf i).toNat)
 case atStart=>exact ⟨0,none,0,Nat.zero_le _,rfl,rfl,fun j hj=>by omega,by rw [List.take_zero];exact World.ownsRow_nil _ _ _ _,Below.refl _ _⟩
 case round=>
   obtain ⟨k,g,c,hk,rfl,rfl,HJ,HO,HBR⟩:=hrel;by_cases hlt:k<n
   ·have HAT:Hid (At4 w b (off+k*4) (l.getD k c40)):=HR.out.cells k (by rw [HL.out];exact hlt);have hat:=HAT.out.below HBR.out;have hwf:=HR.out.1 _ (getD_mem (l:=l) (i:=k) (by rw [HL.out];exact hlt));have HT:Hid (l.take (k+1)=l.take k++[l.getD k c40]):=take_next l k (by rw [HL.out];exact hlt);have HLT:Hid ((l.take k).length=k):=by show _=_;rw [List.length_take,HL.out];omega
    have HJ':Hid (okC false (l.getD k c40)=true→∀j,j<k+1→okC false (l.getD j c40)=true):=fun hh j hj=>by
     by_cases ej:j=k
     ·rw [ej];exact hh
     ·exact HJ.out j (by omega)
    have HN2:Hid (okC false (l.getD k c40)=false→E=1∧Z=[]∧m=0):=fun hh=>HN1.out k hlt hh
    obtain ⟨q,hq⟩:∃q,l.getD k c40=q:=⟨_,rfl⟩;rw [hq] at hat hwf HT HJ' HN2 HAT;obtain ⟨x0,x1,x2,x3⟩:=hat;have HF:Hid (∀w5 V,okC false q=V→Calls Tryz.prog 93 #[.agg #[.int .i64 q.a,.int .i64 q.b,.int .i64 q.c,.int .i64 q.d]] w5 fun e w'=>e=.returned (.bool V)∧Below w5.heap.size w5 w'):=fun w5 V hV=>mayP_v q hwf w5 V hV
    clear hq hwf HJ HN1 HYES;cases hv:okC false q
    ·obtain ⟨e1,e2,e3⟩:=HN2.out hv;have HF':Hid (∀w5,Calls Tryz.prog 93 #[.agg #[.int .i64 q.a,.int .i64 q.b,.int .i64 q.c,.int .i64 q.d]] w5 fun e w'=>e=.returned (.bool false)∧Below w5.heap.size w5 w'):=fun w5=>HF.out w5 _ hv
     clear hv HF HN2 HJ';subst e1;subst e2;subst e3;go_wp2_with fail
     refine (HF'.out _).mono ?_;rintro e w5 ⟨rfl,hb5⟩;have HB5:Hid (Below w.heap.size w w5):=HBR.out.trans (hb5.mono HBR.out.size);clear hb5;go_wp2;go_ret2
     exact ⟨_,_,rfl,World.ownsRow_nil _ _ _ _,HB5.out⟩
    ·have HF':Hid (∀w5,Calls Tryz.prog 93 #[.agg #[.int .i64 q.a,.int .i64 q.b,.int .i64 q.c,.int .i64 q.d]] w5 fun e w'=>e=.returned (.bool true)∧Below w5.heap.size w5 w'):=fun w5=>HF.out w5 _ hv
     have FK:Hid (∀j,j<4→fitB (wdC false j:Nat) (atC q j)=true):=fun j hj=>fitC hv hj
     have HJ3:Hid (∀j,j<k+1→okC false (l.getD j c40)=true):=HJ'.out hv;clear hv HF HN2 HJ';go_wp2_with fail
     refine (HF'.out _).mono ?_;rintro e wa0 ⟨rfl,hb5⟩;have HBa0:Hid (Below w.heap.size w wa0):=HBR.out.trans (hb5.mono HBR.out.size)
     have HPa0:Hid (Own w.heap.size wa0 (.slice g (k*12) c) (celsC false (l.take k)++preC false q 0)):=by
      show Own _ _ _ (_++[]);rw [List.append_nil];exact HO.out.below' hb5
     have HAT0:Hid (At4 wa0 b (off+k*4) q):=HAT.out.below HBa0.out;clear hb5 x0 x1 x2 x3 HO HF';have gaca:∃ga0 ca0,ga0=g∧ca0=c:=⟨g,c,rfl,rfl⟩;obtain ⟨ga0,ca0,hga,hca⟩:=gaca;rw [←hga,←hca] at HPa0 ⊢;clear hga hca
     focus
      have x0:=HAT0.out.1;go_wp2_with fail
      refine (rput4 q.a wa0 (FK.out 0 (by omega))).mono ?_;rintro e wp0 ⟨gp0,cp0,rfl,ho,hb⟩;have HBp0:Hid (Below w.heap.size w wp0):=HBa0.out.trans (hb.mono HBa0.out.size);have HOp0:Hid (Row wp0 (some ⟨gp0,0,none⟩) cp0 (nums 4 q.a.toNat)):=(ho.row' (nums_bys _ _)).2;have HPp0:Hid (Own w.heap.size wp0 (.slice ga0 (k*12) ca0) (celsC false (l.take k)++preC false q 0)):=HPa0.out.below' hb;have HATp0:Hid (At4 wp0 b (off+k*4) q):=HAT0.out.below hb;clear hb ho x0 HAT0 HPa0;go_wp2_with (at_builtin;have _t:=HPp0;refine append_row rfl _ _ rfl w.heap.size _ (celsC false (l.take k)++preC false q 0) rfl HPp0.out (some ⟨gp0,0,none⟩) (nums 4 q.a.toNat) cp0 (by rw [nums_len];rfl) HOp0.out (by intro e;cases e) (by rw [nums_len];exact pre_bound HLT.out (by omega) (by omega) (by omega)) HBp0.out.size ?_;intro v wa1 ho hb;obtain ⟨ga1,ca1,hv,HPa1⟩:=pre_grown (t:=false) (q:=q) (j:=0) HLT.out (by omega) ho;rw [show k*szC false+ofC false (0+1)=k*12+4 from rfl] at hv HPa1;subst hv;have HBa1:Hid (Below w.heap.size w wa1):=HBp0.out.trans hb;have HAT1:Hid (At4 wa1 b (off+k*4) q):=HAT.out.below HBa1.out;have x1:=HAT1.out.2.1;clear _t ho hb HPp0 HOp0 HBp0 HATp0)
      refine (rput2 q.b wa1 (FK.out 1 (by omega))).mono ?_;rintro e wp1 ⟨gp1,cp1,rfl,ho,hb⟩;have HBp1:Hid (Below w.heap.size w wp1):=HBa1.out.trans (hb.mono HBa1.out.size);have HOp1:Hid (Row wp1 (some ⟨gp1,0,none⟩) cp1 (nums 2 q.b.toNat)):=(ho.row' (nums_bys _ _)).2;have HPp1:Hid (Own w.heap.size wp1 (.slice ga1 (k*12+4) ca1) (celsC false (l.take k)++preC false q 1)):=HPa1.out.below' hb;have HATp1:Hid (At4 wp1 b (off+k*4) q):=HAT1.out.below hb;clear hb ho x1 HAT1 HPa1;go_wp2_with (at_builtin;have _t:=HPp1;refine append_row rfl _ _ rfl w.heap.size _ (celsC false (l.take k)++preC false q 1) rfl HPp1.out (some ⟨gp1,0,none⟩) (nums 2 q.b.toNat) cp1 (by rw [nums_len];rfl) HOp1.out (by intro e;cases e) (by rw [nums_len];exact pre_bound HLT.out (by omega) (by omega) (by omega)) HBp1.out.size ?_;intro v wa2 ho hb;obtain ⟨ga2,ca2,hv,HPa2⟩:=pre_grown (t:=false) (q:=q) (j:=1) HLT.out (by omega) ho;rw [show k*szC false+ofC false (1+1)=k*12+6 from rfl] at hv HPa2;subst hv;have HBa2:Hid (Below w.heap.size w wa2):=HBp1.out.trans hb;have HAT2:Hid (At4 wa2 b (off+k*4) q):=HAT.out.below HBa2.out;have x2:=HAT2.out.2.2.1;clear _t ho hb HPp1 HOp1 HBp1 HATp1)
      refine (rput2 q.c wa2 (FK.out 2 (by omega))).mono ?_;rintro e wp2 ⟨gp2,cp2,rfl,ho,hb⟩;have HBp2:Hid (Below w.heap.size w wp2):=HBa2.out.trans (hb.mono HBa2.out.size);have HOp2:Hid (Row wp2 (some ⟨gp2,0,none⟩) cp2 (nums 2 q.c.toNat)):=(ho.row' (nums_bys _ _)).2;have HPp2:Hid (Own w.heap.size wp2 (.slice ga2 (k*12+6) ca2) (celsC false (l.take k)++preC false q 2)):=HPa2.out.below' hb;have HATp2:Hid (At4 wp2 b (off+k*4) q):=HAT2.out.below hb;clear hb ho x2 HAT2 HPa2;go_wp2_with (at_builtin;have _t:=HPp2;refine append_row rfl _ _ rfl w.heap.size _ (celsC false (l.take k)++preC false q 2) rfl HPp2.out (some ⟨gp2,0,none⟩) (nums 2 q.c.toNat) cp2 (by rw [nums_len];rfl) HOp2.out (by intro e;cases e) (by rw [nums_len];exact pre_bound HLT.out (by omega) (by omega) (by omega)) HBp2.out.size ?_;intro v wa3 ho hb;obtain ⟨ga3,ca3,hv,HPa3⟩:=pre_grown (t:=false) (q:=q) (j:=2) HLT.out (by omega) ho;rw [show k*szC false+ofC false (2+1)=k*12+8 from rfl] at hv HPa3;subst hv;have HBa3:Hid (Below w.heap.size w wa3):=HBp2.out.trans hb;have HAT3:Hid (At4 wa3 b (off+k*4) q):=HAT.out.below HBa3.out;have x3:=HAT3.out.2.2.2;clear _t ho hb HPp2 HOp2 HBp2 HATp2)
      refine (rput2 q.d wa3 (FK.out 3 (by omega))).mono ?_;rintro e wp3 ⟨gp3,cp3,rfl,ho,hb⟩;have HBp3:Hid (Below w.heap.size w wp3):=HBa3.out.trans (hb.mono HBa3.out.size);have HOp3:Hid (Row wp3 (some ⟨gp3,0,none⟩) cp3 (nums 2 q.d.toNat)):=(ho.row' (nums_bys _ _)).2;have HPp3:Hid (Own w.heap.size wp3 (.slice ga3 (k*12+8) ca3) (celsC false (l.take k)++preC false q 3)):=HPa3.out.below' hb;have HATp3:Hid (At4 wp3 b (off+k*4) q):=HAT3.out.below hb;clear hb ho x3 HAT3 HPa3;go_wp2_with (first|(at_builtin;have _t:=HPp3;refine append_row rfl _ _ rfl w.heap.size _ (celsC false (l.take k)++preC false q 3) rfl HPp3.out (some ⟨gp3,0,none⟩) (nums 2 q.d.toNat) cp3 (by rw [nums_len];rfl) HOp3.out (by intro e;cases e) (by rw [nums_len];exact pre_bound HLT.out (by omega) (by omega) (by omega)) HBp3.out.size ?_;intro v wa4 ho hb;obtain ⟨ga4,ca4,hv,HPa4⟩:=pre_grown (t:=false) (q:=q) (j:=3) HLT.out (by omega) ho;rw [show k*szC false+ofC false (3+1)=k*12+10 from rfl] at hv HPa4;subst hv;have HBa4:Hid (Below w.heap.size w wa4):=HBp3.out.trans hb;have HAT4:Hid (At4 wa4 b (off+k*4) q):=HAT.out.below HBa4.out;clear _t ho hb HPp3 HOp3 HBp3 HATp3)|(at_builtin;have _t:=HPa4;refine append_row rfl _ _ rfl w.heap.size _ (celsC false (l.take k)++preC false q 4) rfl (HPa4.out.below' ((Below.refl _ _).alloc (Nat.le_refl _) _)) (some ⟨wa4.heap.size,0,none⟩) [0,0] 2 rfl (rowZ wa4 5) (by intro e;cases e) (pre_bound HLT.out (by omega) (by omega) (by decide)) (HBa4.out.alloc HBa4.out.size _).size ?_;intro v w7 ho hb;obtain ⟨a7,c7,hv,HO7⟩:=piece_grown HT.out HLT.out ho;subst hv;have HB7:Hid (Below w.heap.size w w7):=(HBa4.out.alloc HBa4.out.size _).trans hb;clear _t ho hb HPa4 HBa4))
      go_roundw
      case rel=>exact ⟨k+1,a7,c7,by omega,rfl,by go_num,HJ3.out,HO7.out,HB7.out⟩
      case measure=>simp [intOf];omega
   ·have hkn:k=n:=by omega
    subst hkn
    have HRW:Hid (Row wr g c (celsC false l)):=by
     have:=(HO.out.row' (cels_bys _ _)).2;rw [List.take_of_length_le (by rw [HL.out];exact Nat.le_refl _)] at this;exact this
    obtain ⟨bz,oz,rfl⟩:=HRW.out.some' (by have:=szC_bd false;rw [cels_len,HL.out];show 0<k*12;omega);have HS:Hid _:=HYES.out HJ.out _ c wr HRW.out (fun e=>by cases e);clear HYES HO HJ HRW;go_wp2_with fail
    refine (Calls.mono HS.out) ?_;rintro e w3 ⟨g',c',rfl,ho,hb3⟩;have HB3:Hid (Below w.heap.size w w3):=HBR.out.trans (hb3.mono HBR.out.size);have HO3:Hid (Own w.heap.size w3 (.slice g' m c') Z):=ho.weaken HBR.out.size;clear hb3 ho;go_wp2;go_ret2
    exact ⟨_,_,rfl,HO3.out,HB3.out⟩
set_option maxRecDepth 20000 in
theorem rinner_v (lv:Int) (l:List C4) (a:Option Addr) (cap n:Nat) (w:World) (hr:RowC w a cap l) (hn:l.length=n) (E:Int) (hE:layE true lv l=E) (Z:List Int) (hZ:layZ true lv l=Z) (m:Nat) (hm:Z.length=m):
  Calls Tryz.prog 64 #[.int .i64 lv,.slice a n cap] w fun e w'=>∃g c,e=.returned (.tuple #[.slice g m c,.int .i64 E])∧Own w.heap.size w' (.slice g m c) Z∧Below w.heap.size w w':=by
 have hmx:n≤9223372036854775807:=by have:=Nat.le_trans hr.2.1 hr.2.2.1;unfold maxLen at this;omega
 have HNO:Hid (layB true lv l=false→E=1∧Z=[]∧m=0):=fun h=>by
  obtain ⟨e1,e2⟩:=lay_no h;refine ⟨by rw [←hE,e1],by rw [←hZ,e2],by rw [←hm,←hZ,e2];rfl⟩
 have HTK:Hid (¬(1≤n∧n≤12∧1≤lv∧lv≤32)→E=1∧Z=[]∧m=0):=fun h=>HNO.out (by
  cases hB:layB true lv l
  ·rfl
  ·exfalso;obtain ⟨b1,b2,_⟩:=layB_out hB;rw [hn] at b2;have b3:(n:Int)≤12:=b2.2;have b4:(1:Int)≤lv:=b1.1;have b5:lv≤32:=b1.2;exact h (by omega))
 by_cases g0:1≤n;rotate_left
 ·obtain ⟨e1,e2,e3⟩:=HTK.out (by omega);have g0':n<1:=by omega
  clear hE hZ hm HNO HTK hr hn g0;subst e1;subst e2;subst e3;go_enter Tryz.func64,Tryz.ntmps64
  go_wp2;go_ret2
  exact ⟨_,_,rfl,World.ownsRow_nil _ _ _ _,Below.refl _ _⟩
 by_cases g1:n≤12;rotate_left
 ·obtain ⟨e1,e2,e3⟩:=HTK.out (by omega);have g1':12<n:=by omega
  clear hE hZ hm HNO HTK hr hn g1;subst e1;subst e2;subst e3;go_enter Tryz.func64,Tryz.ntmps64
  go_wp2;go_ret2
  exact ⟨_,_,rfl,World.ownsRow_nil _ _ _ _,Below.refl _ _⟩
 by_cases g2:1≤lv;rotate_left
 ·obtain ⟨e1,e2,e3⟩:=HTK.out (by omega);have g2':lv<1:=by omega
  clear hE hZ hm HNO HTK hr hn g2;subst e1;subst e2;subst e3;go_enter Tryz.func64,Tryz.ntmps64
  go_wp2;go_ret2
  exact ⟨_,_,rfl,World.ownsRow_nil _ _ _ _,Below.refl _ _⟩
 by_cases g3:lv≤32;rotate_left
 ·obtain ⟨e1,e2,e3⟩:=HTK.out (by omega);have g3':32<lv:=by omega
  clear hE hZ hm HNO HTK hr hn g3;subst e1;subst e2;subst e3;go_enter Tryz.func64,Tryz.ntmps64
  go_wp2;go_ret2
  exact ⟨_,_,rfl,World.ownsRow_nil _ _ _ _,Below.refl _ _⟩
 have HYES:Hid ((∀k,k<n→okC true (l.getD k c40)=true)→∀g c w1,Row w1 g c (celsC true l)→(g=none→c=0)→Calls Tryz.prog 62 #[.agg #[.int .i64 2,.int .i64 lv,.int .i64 n,.slice g (n*20) c]] w1 fun e w'=>∃g' c',e=.returned (.tuple #[.slice g' m c',.int .i64 E])∧Own w1.heap.size w' (.slice g' m c') Z∧Below w1.heap.size w1 w'):=fun hk g c w1 hrow hnil=>by
  have hB:layB true lv l=true:=layB_yes (takes_iff.2 ⟨⟨g2,g3⟩,by omega,by show (l.length:Int)≤12;omega⟩) (by rw [hn];exact hk);obtain ⟨y1,y2,y3,y4⟩:=layZ_yes hB;have:=rseal_v (pgC true lv l) g c w1 hrow hnil E (by rw [←hE,y1];exact pgC_ok hB) Z (by rw [←hZ,y2];unfold sealZ;rw [if_pos (pgC_ok hB)]) m hm;dsimp only [pgV,pgC] at this;rw [cels_len,hn] at this;exact this
 have HN1:Hid (∀k,k<n→okC true (l.getD k c40)=false→E=1∧Z=[]∧m=0):=fun k hk h=>HNO.out (layB_no (by rw [hn];exact hk) h)
 obtain ⟨b,off,rfl⟩:=hr.some' (by omega);have hcap:=hr.2.1;have hmx2:=hr.2.2.1;unfold maxLen at hmx2;rw [hn] at hcap;have HR:Hid (RowC w (some ⟨b,off,none⟩) cap l):=hr;have HL:Hid (l.length=n):=hn;clear hE hZ hm HNO HTK hr hn;go_enter Tryz.func64,Tryz.ntmps64
 go_wp2_with fail
 go_loopw [6,7] (fun o i wr=>∃(k:Nat) (g:Option Addr) (c:Nat),k≤n∧o=.slice g (k*20) c∧i=.int .i64 k∧Hid (∀j,j<k→okC true (l.getD j c40)=true)∧Hid (Own w.heap.size wr (.slice g (k*20) c) (celsC true (l.take k)))∧Hid (Below w.heap.size w wr)) (fun _ i _=>n-(intOf i).toNat)
 case atStart=>exact ⟨0,none,0,Nat.zero_le _,rfl,rfl,fun j hj=>by omega,by rw [List.take_zero];exact World.ownsRow_nil _ _ _ _,Below.refl _ _⟩
 case round=>
   obtain ⟨k,g,c,hk,rfl,rfl,HJ,HO,HBR⟩:=hrel;by_cases hlt:k<n
   ·have HAT:Hid (At4 w b (off+k*4) (l.getD k c40)):=HR.out.cells k (by rw [HL.out];exact hlt);have hat:=HAT.out.below HBR.out;have hwf:=HR.out.1 _ (getD_mem (l:=l) (i:=k) (by rw [HL.out];exact hlt));have HT:Hid (l.take (k+1)=l.take k++[l.getD k c40]):=take_next l k (by rw [HL.out];exact hlt);have HLT:Hid ((l.take k).length=k):=by show _=_;rw [List.length_take,HL.out];omega
    have HJ':Hid (okC true (l.getD k c40)=true→∀j,j<k+1→okC true (l.getD j c40)=true):=fun hh j hj=>by
     by_cases ej:j=k
     ·rw [ej];exact hh
     ·exact HJ.out j (by omega)
    have HN2:Hid (okC true (l.getD k c40)=false→E=1∧Z=[]∧m=0):=fun hh=>HN1.out k hlt hh
    obtain ⟨q,hq⟩:∃q,l.getD k c40=q:=⟨_,rfl⟩;rw [hq] at hat hwf HT HJ' HN2 HAT;obtain ⟨x0,x1,x2,x3⟩:=hat;have HF:Hid (∀w5 V,okC true q=V→Calls Tryz.prog 94 #[.agg #[.int .i64 q.a,.int .i64 q.b,.int .i64 q.c,.int .i64 q.d]] w5 fun e w'=>e=.returned (.bool V)∧Below w5.heap.size w5 w'):=fun w5 V hV=>mayK_v q hwf w5 V hV
    clear hq hwf HJ HN1 HYES;cases hv:okC true q
    ·obtain ⟨e1,e2,e3⟩:=HN2.out hv;have HF':Hid (∀w5,Calls Tryz.prog 94 #[.agg #[.int .i64 q.a,.int .i64 q.b,.int .i64 q.c,.int .i64 q.d]] w5 fun e w'=>e=.returned (.bool false)∧Below w5.heap.size w5 w'):=fun w5=>HF.out w5 _ hv
     clear hv HF HN2 HJ';subst e1;subst e2;subst e3;go_wp2_with fail
     refine (HF'.out _).mono ?_;rintro e w5 ⟨rfl,hb5⟩;have HB5:Hid (Below w.heap.size w w5):=HBR.out.trans (hb5.mono HBR.out.size);clear hb5;go_wp2;go_ret2
     exact ⟨_,_,rfl,World.ownsRow_nil _ _ _ _,HB5.out⟩
    ·have HF':Hid (∀w5,Calls Tryz.prog 94 #[.agg #[.int .i64 q.a,.int .i64 q.b,.int .i64 q.c,.int .i64 q.d]] w5 fun e w'=>e=.returned (.bool true)∧Below w5.heap.size w5 w'):=fun w5=>HF.out w5 _ hv
     have FK:Hid (∀j,j<4→fitB (wdC true j:Nat) (atC q j)=true):=fun j hj=>fitC hv hj
     have HJ3:Hid (∀j,j<k+1→okC true (l.getD j c40)=true):=HJ'.out hv;clear hv HF HN2 HJ';go_wp2_with fail
     refine (HF'.out _).mono ?_;rintro e wa0 ⟨rfl,hb5⟩;have HBa0:Hid (Below w.heap.size w wa0):=HBR.out.trans (hb5.mono HBR.out.size)
     have HPa0:Hid (Own w.heap.size wa0 (.slice g (k*20) c) (celsC true (l.take k)++preC true q 0)):=by
      show Own _ _ _ (_++[]);rw [List.append_nil];exact HO.out.below' hb5
     have HAT0:Hid (At4 wa0 b (off+k*4) q):=HAT.out.below HBa0.out;clear hb5 x0 x1 x2 x3 HO HF';have gaca:∃ga0 ca0,ga0=g∧ca0=c:=⟨g,c,rfl,rfl⟩;obtain ⟨ga0,ca0,hga,hca⟩:=gaca;rw [←hga,←hca] at HPa0 ⊢;clear hga hca
     focus
      have x0:=HAT0.out.1;go_wp2_with fail
      refine (rput4 q.a wa0 (FK.out 0 (by omega))).mono ?_;rintro e wp0 ⟨gp0,cp0,rfl,ho,hb⟩;have HBp0:Hid (Below w.heap.size w wp0):=HBa0.out.trans (hb.mono HBa0.out.size);have HOp0:Hid (Row wp0 (some ⟨gp0,0,none⟩) cp0 (nums 4 q.a.toNat)):=(ho.row' (nums_bys _ _)).2;have HPp0:Hid (Own w.heap.size wp0 (.slice ga0 (k*20) ca0) (celsC true (l.take k)++preC true q 0)):=HPa0.out.below' hb;have HATp0:Hid (At4 wp0 b (off+k*4) q):=HAT0.out.below hb;clear hb ho x0 HAT0 HPa0;go_wp2_with (at_builtin;have _t:=HPp0;refine append_row rfl _ _ rfl w.heap.size _ (celsC true (l.take k)++preC true q 0) rfl HPp0.out (some ⟨gp0,0,none⟩) (nums 4 q.a.toNat) cp0 (by rw [nums_len];rfl) HOp0.out (by intro e;cases e) (by rw [nums_len];exact pre_bound HLT.out (by omega) (by omega) (by omega)) HBp0.out.size ?_;intro v wa1 ho hb;obtain ⟨ga1,ca1,hv,HPa1⟩:=pre_grown (t:=true) (q:=q) (j:=0) HLT.out (by omega) ho;rw [show k*szC true+ofC true (0+1)=k*20+4 from rfl] at hv HPa1;subst hv;have HBa1:Hid (Below w.heap.size w wa1):=HBp0.out.trans hb;have HAT1:Hid (At4 wa1 b (off+k*4) q):=HAT.out.below HBa1.out;have x1:=HAT1.out.2.1;clear _t ho hb HPp0 HOp0 HBp0 HATp0)
      refine (rput4 q.b wa1 (FK.out 1 (by omega))).mono ?_;rintro e wp1 ⟨gp1,cp1,rfl,ho,hb⟩;have HBp1:Hid (Below w.heap.size w wp1):=HBa1.out.trans (hb.mono HBa1.out.size);have HOp1:Hid (Row wp1 (some ⟨gp1,0,none⟩) cp1 (nums 4 q.b.toNat)):=(ho.row' (nums_bys _ _)).2;have HPp1:Hid (Own w.heap.size wp1 (.slice ga1 (k*20+4) ca1) (celsC true (l.take k)++preC true q 1)):=HPa1.out.below' hb;have HATp1:Hid (At4 wp1 b (off+k*4) q):=HAT1.out.below hb;clear hb ho x1 HAT1 HPa1;go_wp2_with (at_builtin;have _t:=HPp1;refine append_row rfl _ _ rfl w.heap.size _ (celsC true (l.take k)++preC true q 1) rfl HPp1.out (some ⟨gp1,0,none⟩) (nums 4 q.b.toNat) cp1 (by rw [nums_len];rfl) HOp1.out (by intro e;cases e) (by rw [nums_len];exact pre_bound HLT.out (by omega) (by omega) (by omega)) HBp1.out.size ?_;intro v wa2 ho hb;obtain ⟨ga2,ca2,hv,HPa2⟩:=pre_grown (t:=true) (q:=q) (j:=1) HLT.out (by omega) ho;rw [show k*szC true+ofC true (1+1)=k*20+8 from rfl] at hv HPa2;subst hv;have HBa2:Hid (Below w.heap.size w wa2):=HBp1.out.trans hb;have HAT2:Hid (At4 wa2 b (off+k*4) q):=HAT.out.below HBa2.out;have x2:=HAT2.out.2.2.1;clear _t ho hb HPp1 HOp1 HBp1 HATp1)
      refine (rput8 q.c wa2 (FK.out 2 (by omega))).mono ?_;rintro e wp2 ⟨gp2,cp2,rfl,ho,hb⟩;have HBp2:Hid (Below w.heap.size w wp2):=HBa2.out.trans (hb.mono HBa2.out.size);have HOp2:Hid (Row wp2 (some ⟨gp2,0,none⟩) cp2 (nums 8 q.c.toNat)):=(ho.row' (nums_bys _ _)).2;have HPp2:Hid (Own w.heap.size wp2 (.slice ga2 (k*20+8) ca2) (celsC true (l.take k)++preC true q 2)):=HPa2.out.below' hb;have HATp2:Hid (At4 wp2 b (off+k*4) q):=HAT2.out.below hb;clear hb ho x2 HAT2 HPa2;go_wp2_with (at_builtin;have _t:=HPp2;refine append_row rfl _ _ rfl w.heap.size _ (celsC true (l.take k)++preC true q 2) rfl HPp2.out (some ⟨gp2,0,none⟩) (nums 8 q.c.toNat) cp2 (by rw [nums_len];rfl) HOp2.out (by intro e;cases e) (by rw [nums_len];exact pre_bound HLT.out (by omega) (by omega) (by omega)) HBp2.out.size ?_;intro v wa3 ho hb;obtain ⟨ga3,ca3,hv,HPa3⟩:=pre_grown (t:=true) (q:=q) (j:=2) HLT.out (by omega) ho;rw [show k*szC true+ofC true (2+1)=k*20+16 from rfl] at hv HPa3;subst hv;have HBa3:Hid (Below w.heap.size w wa3):=HBp2.out.trans hb;have HAT3:Hid (At4 wa3 b (off+k*4) q):=HAT.out.below HBa3.out;have x3:=HAT3.out.2.2.2;clear _t ho hb HPp2 HOp2 HBp2 HATp2)
      refine (rput4 q.d wa3 (FK.out 3 (by omega))).mono ?_;rintro e wp3 ⟨gp3,cp3,rfl,ho,hb⟩;have HBp3:Hid (Below w.heap.size w wp3):=HBa3.out.trans (hb.mono HBa3.out.size);have HOp3:Hid (Row wp3 (some ⟨gp3,0,none⟩) cp3 (nums 4 q.d.toNat)):=(ho.row' (nums_bys _ _)).2;have HPp3:Hid (Own w.heap.size wp3 (.slice ga3 (k*20+16) ca3) (celsC true (l.take k)++preC true q 3)):=HPa3.out.below' hb;have HATp3:Hid (At4 wp3 b (off+k*4) q):=HAT3.out.below hb;clear hb ho x3 HAT3 HPa3;go_wp2_with (at_builtin;have _t:=HPp3;refine append_row rfl _ _ rfl w.heap.size _ (celsC true (l.take k)++preC true q 3) rfl HPp3.out (some ⟨gp3,0,none⟩) (nums 4 q.d.toNat) cp3 (by rw [nums_len];rfl) HOp3.out (by intro e;cases e) (by rw [nums_len];exact pre_bound HLT.out (by omega) (by omega) (by omega)) HBp3.out.size ?_;intro v wa4 ho hb;obtain ⟨ga4,ca4,hv,HPa4⟩:=pre_grown (t:=true) (q:=q) (j:=3) HLT.out (by omega) ho;rw [show k*szC true+ofC true (3+1)=k*20+20 from rfl] at hv HPa4;subst hv;have HBa4:Hid (Below w.heap.size w wa4):=HBp3.out.trans hb;have HAT4:Hid (At4 wa4 b (off+k*4) q):=HAT.out.below HBa4.out;clear _t ho hb HPp3 HOp3 HBp3 HATp3)
      have HO7:Hid (Own w.heap.size wa4 (.slice ga4 (k*20+20) ca4) (celsC true (l.take (k+1)))):=kid_grown HT.out HPa4.out;clear HPa4;go_roundw
      case rel=>exact ⟨k+1,ga4,ca4,by omega,by rw [show (k+1)*20=k*20+20 by omega],by go_num,HJ3.out,by rw [show (k+1)*20=k*20+20 by omega];exact HO7.out,HBa4.out⟩
      case measure=>simp [intOf];omega
   ·have hkn:k=n:=by omega
    subst hkn
    have HRW:Hid (Row wr g c (celsC true l)):=by
     have:=(HO.out.row' (cels_bys _ _)).2;rw [List.take_of_length_le (by rw [HL.out];exact Nat.le_refl _)] at this;exact this
    obtain ⟨bz,oz,rfl⟩:=HRW.out.some' (by have:=szC_bd true;rw [cels_len,HL.out];show 0<k*20;omega);have HS:Hid _:=HYES.out HJ.out _ c wr HRW.out (fun e=>by cases e);clear HYES HO HJ HRW;go_wp2_with fail
    refine (Calls.mono HS.out) ?_;rintro e w3 ⟨g',c',rfl,ho,hb3⟩;have HB3:Hid (Below w.heap.size w w3):=HBR.out.trans (hb3.mono HBR.out.size);have HO3:Hid (Own w.heap.size w3 (.slice g' m c') Z):=ho.weaken HBR.out.size;clear hb3 ho;go_wp2;go_ret2
    exact ⟨_,_,rfl,HO3.out,HB3.out⟩
end Go.Proofs.YtjllhcifmfhkmaaGreat.Oct
