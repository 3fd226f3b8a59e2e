/- Part of a proof. -/
import Derived.Test.YtjllhcifmfhkmaaGreatZd
import Derived.Test.YtjllhcifmfhkmaaGreatR
namespace Go.Proofs.YtjllhcifmfhkmaaGreat.Oct
open Go.RowKit
structure C4 where
 a:Int
 b:Int
 c:Int
 d:Int
def c40:C4:=⟨0,0,0,0⟩
def c4V (q:C4):Value:=.agg #[.int .i64 q.a,.int .i64 q.b,.int .i64 q.c,.int .i64 q.d]
def atC (q:C4) (k:Nat):Int:=match k with
 |0=>q.a
 |1=>q.b
 |2=>q.c
 |_=>q.d
def wdC (t:Bool) (k:Nat):Nat:=match t,k with
 |false,0=>4
 |false,_=>2
 |true,2=>8
 |true,_=>4
def ofC (t:Bool) (k:Nat):Nat:=match t,k with
 |false,0=>0
 |false,1=>4
 |false,2=>6
 |false,3=>8
 |false,_=>10
 |true,0=>0
 |true,1=>4
 |true,2=>8
 |true,3=>16
 |true,_=>20
def szC (t:Bool):Nat:=match t with
 |false=>12
 |true=>20
def okC (t:Bool) (q:C4):Bool:=match t with
 |false=>decide ((2≤q.a∧q.a≤4095)∧0≤q.b∧(1≤q.c∧q.c≤248-q.b)∧(0≤q.d∧q.d≤q.c))
 |true=>decide ((2≤q.a∧q.a≤4095)∧1≤q.b∧(q.b≤q.c∧q.c≤1048576)∧(0≤q.d∧q.d≤q.c))
theorem four {k:Nat} (h:k<4):k=0∨k=1∨k=2∨k=3:=by omega
theorem ofC_next (t:Bool) {k:Nat} (h:k<4):ofC t (k+1)=ofC t k+wdC t k:=by
 cases t<;>rcases four h with rfl|rfl|rfl|rfl<;>rfl
theorem wdC_bd (t:Bool) (k:Nat):1≤wdC t k∧wdC t k≤8:=by
 unfold wdC;split<;>omega
theorem ofC_bd (t:Bool) {k:Nat} (h:k<4):ofC t k+wdC t k≤szC t:=by
 cases t<;>rcases four h with rfl|rfl|rfl|rfl<;>decide
theorem ofC_le (t:Bool) {k:Nat} (h:k≤4):ofC t k≤szC t:=by
 cases t<;>rcases (show k=0∨k=1∨k=2∨k=3∨k=4 by omega) with rfl|rfl|rfl|rfl|rfl<;>decide
theorem szC_bd (t:Bool):12≤szC t∧szC t≤20:=by cases t<;>decide
theorem okC_bd {t:Bool} {q:C4} (h:okC t q=true):(2≤q.a∧q.a≤4095)∧(0≤q.b∧q.b≤1048576)∧(1≤q.c∧q.c≤1048576)∧(0≤q.d∧q.d≤1048576)∧(t=false→q.b≤247∧q.c≤248∧q.d≤248):=by
 cases t
 ·have:=of_decide_eq_true h;refine ⟨this.1,?_,?_,?_,fun _=>?_⟩<;>omega
 ·have:=of_decide_eq_true h;refine ⟨this.1,?_,?_,?_,fun e=>by cases e⟩<;>omega
theorem fitC {t:Bool} {q:C4} (h:okC t q=true) {k:Nat} (hk:k<4):fitB (wdC t k:Nat) (atC q k)=true:=by
 obtain ⟨h0,h1,h2,h3,h4⟩:=okC_bd h;cases t
 ·have h4:=h4 rfl;rcases four hk with rfl|rfl|rfl|rfl
  ·show fitB 4 q.a=true;rw [fit4];exact decide_eq_true (by omega)
  ·show fitB 2 q.b=true;rw [fit2];exact decide_eq_true (by omega)
  ·show fitB 2 q.c=true;rw [fit2];exact decide_eq_true (by omega)
  ·show fitB 2 q.d=true;rw [fit2];exact decide_eq_true (by omega)
 ·rcases four hk with rfl|rfl|rfl|rfl
  ·show fitB 4 q.a=true;rw [fit4];exact decide_eq_true (by omega)
  ·show fitB 4 q.b=true;rw [fit4];exact decide_eq_true (by omega)
  ·show fitB 8 q.c=true;rw [fit8];exact decide_eq_true (by omega)
  ·show fitB 4 q.d=true;rw [fit4];exact decide_eq_true (by omega)
def preC (t:Bool) (q:C4):Nat→List Int
 |0=>[]
 |k+1=>preC t q k++nums (wdC t k) (atC q k).toNat
theorem preC_len (t:Bool) (q:C4):∀k,k≤4→(preC t q k).length=ofC t k:=by
 intro k
 induction k with
 |zero=>intro _;cases t<;>rfl
 |succ k ih=>
  intro hk;rw [preC,List.length_append,nums_len,ih (by omega),ofC_next t (by omega)]
theorem preC_bys (t:Bool) (q:C4):∀k,Bys (preC t q k):=by
 intro k
 induction k with
 |zero=>intro z hz;cases hz
 |succ k ih=>exact ih.app (nums_bys _ _)
def shC (t:Bool) (q:C4) (k:Nat):List Int:=preC t q k++List.replicate (szC t-ofC t k) 0
theorem shC_len (t:Bool) (q:C4) {k:Nat} (h:k≤4):(shC t q k).length=szC t:=by
 have:=ofC_le t h;unfold shC;rw [List.length_append,preC_len t q k h,List.length_replicate];omega
theorem shC_bys (t:Bool) (q:C4) (k:Nat):Bys (shC t q k):=(preC_bys t q k).app (bys_rep _)
def celC (t:Bool) (q:C4):List Int:=shC t q 4
theorem celC_len (t:Bool) (q:C4):(celC t q).length=szC t:=shC_len t q (Nat.le_refl _)
theorem celC_bys (t:Bool) (q:C4):Bys (celC t q):=shC_bys t q 4
def rdC (t:Bool) (zs:List Int):C4:=⟨getI zs (ofC t 0:Nat) (wdC t 0:Nat),getI zs (ofC t 1:Nat) (wdC t 1:Nat),getI zs (ofC t 2:Nat) (wdC t 2:Nat),getI zs (ofC t 3:Nat) (wdC t 3:Nat)⟩
theorem rdC_at (t:Bool) (zs:List Int) {k:Nat} (hk:k<4):atC (rdC t zs) k=getI zs (ofC t k:Nat) (wdC t k:Nat):=by
 rcases four hk with rfl|rfl|rfl|rfl<;>rfl
def okCell (t:Bool) (zs:List Int):Bool:=nouB ((zs.take (szC t)).drop (ofC t 4))&&okC t (rdC t zs)
theorem preC_split (t:Bool) (q:C4) (B:List Int):∀d k,k+d=4→∃C,preC t q 4++B=preC t q k++C∧(0<d→∃C',C=nums (wdC t k) (atC q k).toNat++C'):=by
 intro d
 induction d with
 |zero=>intro k hk;obtain rfl:k=4:=by omega
        exact ⟨B,rfl,fun h=>by omega⟩
 |succ d ih=>
  intro k hk;obtain ⟨C,hC,_⟩:=ih (k+1) (by omega);refine ⟨nums (wdC t k) (atC q k).toNat++C,?_,fun _=>⟨C,rfl⟩⟩;rw [hC,preC,List.append_assoc]
theorem getC_at {t:Bool} {q:C4} (h:okC t q=true) (B:List Int) {k:Nat} (hk:k<4):getI (preC t q 4++B) (ofC t k:Nat) (wdC t k:Nat)=atC q k:=by
 obtain ⟨C,hC,hC'⟩:=preC_split t q B (4-k) k (by omega);obtain ⟨D,hD⟩:=hC' (by omega);have hf:=fitC h hk;unfold fitB at hf;have hf':=of_decide_eq_true hf;rw [Int.toNat_natCast] at hf';have hw:=wdC_bd t k;obtain ⟨X,hX⟩:=Int.eq_ofNat_of_zero_le hf'.1
 have hlt:X<256^wdC t k:=by
  have:=hf'.2.2;rw [hX,pow_nat] at this;exact Int.ofNat_lt.1 this
 have:=getI_nums (preC t q k) D (wdC t k) (atC q k).toNat (ofC t k:Nat) (wdC t k:Nat) (by rw [preC_len t q k (by omega)]) rfl hw.1 hw.2 (by rw [hX];exact hlt) (by omega);rw [hC,hD];exact this.1.trans (by omega)
theorem rd_cel {t:Bool} {q:C4} (h:okC t q=true) (B:List Int):rdC t (celC t q++B)=q∧okCell t (celC t q++B)=true:=by
 have e:celC t q++B=preC t q 4++(List.replicate (szC t-ofC t 4) 0++B):=by
  unfold celC shC;rw [List.append_assoc]
 have hr:rdC t (celC t q++B)=q:=by
  have g0:=getC_at h (List.replicate (szC t-ofC t 4) 0++B) (k:=0) (by omega);have g1:=getC_at h (List.replicate (szC t-ofC t 4) 0++B) (k:=1) (by omega);have g2:=getC_at h (List.replicate (szC t-ofC t 4) 0++B) (k:=2) (by omega);have g3:=getC_at h (List.replicate (szC t-ofC t 4) 0++B) (k:=3) (by omega);rw [e];obtain ⟨a0,a1,a2,a3⟩:=q;unfold rdC;rw [C4.mk.injEq];exact ⟨g0,g1,g2,g3⟩
 refine ⟨hr,?_⟩;unfold okCell;rw [hr,h,Bool.and_true,List.take_append_of_le_length (by rw [celC_len];exact Nat.le_refl _),List.take_of_length_le (by rw [celC_len];exact Nat.le_refl _)];unfold celC shC;rw [List.drop_append,preC_len t q 4 (Nat.le_refl _),List.drop_of_length_le (by rw [preC_len t q 4 (Nat.le_refl _)];exact Nat.le_refl _),List.nil_append,Nat.sub_self,List.drop_zero];exact nou_rep _
theorem nums_cut {zs:List Int} (h:Bys zs) (p n:Nat) (hl:p+n≤zs.length):nums n (num zs p n).toNat=(zs.drop p).take n:=by
 refine row_ext (by rw [nums_len,List.length_take,List.length_drop];omega) fun i hi=>?_
 rw [nums_len] at hi;rw [nums_at _ _ _ hi,dgt_num h p _ _ hi];simp only [List.getD_eq_getElem?_getD,List.getElem?_take,List.getElem?_drop,if_pos hi]
theorem num_at {zs:List Int} (h:Bys zs) {t:Bool} (hl:szC t≤zs.length) (hk:okC t (rdC t zs)=true) {k:Nat} (hk4:k<4):num zs (ofC t k) (wdC t k)=atC (rdC t zs) k:=by
 have hw:=wdC_bd t k;have ho:=ofC_bd t hk4
 have e:getI zs (ofC t k:Nat) (wdC t k:Nat)=capI (num zs (ofC t k) (wdC t k)):=by
  unfold getI;rw [ins_yes hw.1 hw.2 (by omega),if_pos rfl,Int.toNat_natCast,Int.toNat_natCast]
 rw [rdC_at t zs hk4,e];by_cases hc:num zs (ofC t k) (wdC t k)≤4611686018427387904
 ·rw [(cap_yes hc).1]
 ·exfalso;by_cases h7:wdC t k≤7
  ·have:=num_bd7 h (ofC t k) (wdC t k) h7;omega
  ·have hk2:t=true∧k=2:=by
    cases t
    ·rcases four hk4 with rfl|rfl|rfl|rfl<;>exact absurd (by decide) h7
    ·rcases four hk4 with rfl|rfl|rfl|rfl
     ·exact absurd (by decide) h7
     ·exact absurd (by decide) h7
     ·exact ⟨rfl,rfl⟩
     ·exact absurd (by decide) h7
   obtain ⟨rfl,rfl⟩:=hk2;have hz:(rdC true zs).c=0:=e.trans (cap_no (by omega)).1;have:=(okC_bd hk).2.2.1;omega
theorem pre_rd {zs:List Int} (h:Bys zs) {t:Bool} (hl:szC t≤zs.length) (hk:okC t (rdC t zs)=true):∀k,k≤4→preC t (rdC t zs) k=zs.take (ofC t k):=by
 intro k
 induction k with
 |zero=>intro _;cases t<;>rfl
 |succ k ih=>
  intro hk4;have ho:=ofC_bd t (k:=k) (by omega);rw [preC,ih (by omega),←num_at h hl hk (by omega),nums_cut h _ _ (by omega),ofC_next t (by omega),List.take_add]
theorem nou_eq {zs:List Int} (h:nouB zs=true):zs=List.replicate zs.length 0:=by
 rw [List.eq_replicate_iff];refine ⟨rfl,fun z hz=>?_⟩;unfold nouB at h;have:=List.all_eq_true.1 h z hz
 simpa using this
theorem cel_rd {zs:List Int} (h:Bys zs) {t:Bool} (hl:szC t≤zs.length) (hk:okCell t zs=true):celC t (rdC t zs)=zs.take (szC t):=by
 unfold okCell at hk;rw [Bool.and_eq_true] at hk;have hn:=nou_eq hk.1;have ho:=ofC_le t (k:=4) (by omega);rw [List.length_drop,List.length_take,Nat.min_eq_left hl] at hn;unfold celC shC;rw [pre_rd h hl hk.2 4 (Nat.le_refl _),←hn];have:zs.take (ofC t 4)=(zs.take (szC t)).take (ofC t 4):=by rw [List.take_take,Nat.min_eq_left ho]
 rw [this,List.take_append_drop]
def celsC (t:Bool) (l:List C4):List Int:=l.flatMap (celC t)
theorem cels_nil (t:Bool):celsC t []=[]:=rfl
theorem cels_cons (t:Bool) (q:C4) (l:List C4):celsC t (q::l)=celC t q++celsC t l:=by simp [celsC]
theorem cels_snoc (t:Bool) (l:List C4) (q:C4):celsC t (l++[q])=celsC t l++celC t q:=by simp [celsC]
theorem cels_len (t:Bool) (l:List C4):(celsC t l).length=l.length*szC t:=by
 induction l with
 |nil=>simp [cels_nil]
 |cons q l ih=>rw [cels_cons,List.length_append,ih,celC_len,List.length_cons,Nat.succ_mul];omega
theorem cels_bys (t:Bool) (l:List C4):Bys (celsC t l):=by
 induction l with
 |nil=>intro z hz;cases hz
 |cons q l ih=>rw [cels_cons];exact (celC_bys t q).app ih
theorem cels_drop (t:Bool) (B:List Int):∀(l:List C4) (i:Nat),i≤l.length→(celsC t l++B).drop (i*szC t)=celsC t (l.drop i)++B:=by
 intro l
 induction l with
 |nil=>intro i hi;obtain rfl:i=0:=by simpa using hi
       rw [Nat.zero_mul,List.drop_zero,List.drop_zero]
 |cons q l ih=>
  intro i hi;cases i with
  |zero=>rw [Nat.zero_mul,List.drop_zero,List.drop_zero]
  |succ i=>
   rw [cels_cons,List.append_assoc,List.drop_succ_cons,←ih i (by simpa using hi),Nat.succ_mul,Nat.add_comm (i*szC t),←List.drop_drop]
   congr 1
   rw [List.drop_append,celC_len,Nat.sub_self,List.drop_zero,List.drop_of_length_le (by rw [celC_len];exact Nat.le_refl _),List.nil_append]
def cellAt (t:Bool) (zs:List Int) (i:Nat):C4:=rdC t (zs.drop (i*szC t))
def okAt (t:Bool) (zs:List Int) (i:Nat):Bool:=okCell t (zs.drop (i*szC t))
def rdL (t:Bool) (zs:List Int) (n:Nat):List C4:=(List.range n).map (cellAt t zs)
def okL (t:Bool) (zs:List Int) (n:Nat):Bool:=(List.range n).all (okAt t zs)
theorem rdL_len (t:Bool) (zs:List Int) (n:Nat):(rdL t zs n).length=n:=by simp [rdL]
theorem rdL_succ (t:Bool) (zs:List Int) (n:Nat):rdL t zs (n+1)=rdL t zs n++[cellAt t zs n]:=by simp [rdL,List.range_succ]
theorem okL_all {t:Bool} {zs:List Int} {n:Nat}:okL t zs n=true↔∀i,i<n→okAt t zs i=true:=by
 unfold okL;rw [List.all_eq_true];exact ⟨fun h i hi=>h i (List.mem_range.2 hi),fun h i hi=>h i (List.mem_range.1 hi)⟩
theorem okL_no {t:Bool} {zs:List Int} {n i:Nat} (hi:i<n) (h:okAt t zs i=false):okL t zs n=false:=by
 cases he:okL t zs n
 ·rfl
 ·have:=okL_all.1 he i hi;rw [h] at this;cases this
theorem cells_back {t:Bool} {l:List C4} (h:∀q∈l,okC t q=true) (B:List Int):rdL t (celsC t l++B) l.length=l∧okL t (celsC t l++B) l.length=true:=by
 have key:∀i (hi:i<l.length),cellAt t (celsC t l++B) i=l[i]∧okAt t (celsC t l++B) i=true:=by
  intro i hi
  have hd:(celsC t l++B).drop (i*szC t)=celC t l[i]++(celsC t (l.drop (i+1))++B):=by
   rw [cels_drop t B l i (by omega),List.drop_eq_getElem_cons hi,cels_cons,List.append_assoc]
  have:=rd_cel (h l[i] (List.getElem_mem hi)) (celsC t (l.drop (i+1))++B);unfold cellAt okAt;rw [hd];exact this
 refine ⟨?_,okL_all.2 fun i hi=>(key i hi).2⟩;refine List.ext_getElem (rdL_len _ _ _) fun i h1 h2=>?_
 simp only [rdL,List.getElem_map,List.getElem_range];exact (key i h2).1
theorem cels_rdL {zs:List Int} (h:Bys zs) {t:Bool}:∀n,n*szC t≤zs.length→okL t zs n=true→celsC t (rdL t zs n)=zs.take (n*szC t):=by
 intro n
 induction n with
 |zero=>intro _ _;simp [rdL,celsC]
 |succ n ih=>
  intro hl hk;have hs:(n+1)*szC t=n*szC t+szC t:=Nat.succ_mul _ _;have hok:=okL_all.1 hk;rw [rdL_succ,cels_snoc,ih (by omega) (okL_all.2 fun i hi=>hok i (by omega)),hs,List.take_add]
  congr 1
  refine cel_rd (fun z hz=>h z (List.mem_of_mem_drop hz)) (by rw [List.length_drop];omega) (hok n (by omega))
theorem ok_rdL {t:Bool} {zs:List Int} {n:Nat} (h:okL t zs n=true):∀q∈rdL t zs n,okC t q=true:=by
 intro q hq;obtain ⟨i,hi,rfl⟩:=List.mem_map.1 hq;have:=okL_all.1 h i (List.mem_range.1 hi);unfold okAt okCell at this;rw [Bool.and_eq_true] at this;exact this.2
structure St where
 kind:Int
 lo:Int
 hi:Int
 most:Int
def leafS:St:=⟨3,0,0,20⟩
def innerS:St:=⟨2,1,32,12⟩
def textS:St:=⟨4,0,0,248⟩
def shtT (t:Bool):St:=match t with
 |false=>leafS
 |true=>innerS
def takesB (s:St) (lv ct:Int):Bool:=decide (s.lo≤lv∧lv≤s.hi)&&decide (1≤ct∧ct≤s.most)
theorem takes_iff {s:St} {lv ct:Int}:takesB s lv ct=true↔(s.lo≤lv∧lv≤s.hi)∧(1≤ct∧ct≤s.most):=by
 unfold takesB;rw [Bool.and_eq_true,decide_eq_true_eq,decide_eq_true_eq]
def layB (t:Bool) (lv:Int) (l:List C4):Bool:=takesB (shtT t) lv l.length&&l.all (okC t)
def layE (t:Bool) (lv:Int) (l:List C4):Int:=if layB t lv l then 0 else 1
def pgC (t:Bool) (lv:Int) (l:List C4):Pg:=⟨(shtT t).kind,lv,l.length,celsC t l⟩
def layZ (t:Bool) (lv:Int) (l:List C4):List Int:=if layB t lv l then sealL (pgC t lv l) else []
theorem layB_out {t:Bool} {lv:Int} {l:List C4} (h:layB t lv l=true):((shtT t).lo≤lv∧lv≤(shtT t).hi)∧(1≤(l.length:Int)∧(l.length:Int)≤(shtT t).most)∧∀q∈l,okC t q=true:=by
 unfold layB at h;rw [Bool.and_eq_true,takes_iff] at h;exact ⟨h.1.1,h.1.2,List.all_eq_true.1 h.2⟩
theorem most_fits (t:Bool) {n:Nat} (h:(n:Int)≤(shtT t).most):n*szC t≤240∧n≤20:=by
 cases t
 ·have:n≤20:=by have:(n:Int)≤20:=h;omega
  exact ⟨by show n*12≤240;omega,this⟩
 ·have:n≤12:=by have:(n:Int)≤12:=h;omega
  exact ⟨by show n*20≤240;omega,by omega⟩
theorem pgC_ok {t:Bool} {lv:Int} {l:List C4} (h:layB t lv l=true):sealE (pgC t lv l)=0:=by
 obtain ⟨h1,h2,-⟩:=layB_out h;obtain ⟨m1,m2⟩:=most_fits t h2.2
 have ha:argP (pgC t lv l)=true:=by
  refine decide_eq_true ?_;show (1≤(shtT t).kind∧(shtT t).kind≤5)∧(0≤lv∧lv≤255)∧(0≤(l.length:Int)∧(l.length:Int)≤65535);cases t
  ·have h1':(0:Int)≤lv∧lv≤0:=h1;exact ⟨by decide,by omega,by omega⟩
  ·have h1':(1:Int)≤lv∧lv≤32:=h1;exact ⟨by decide,by omega,by omega⟩
 unfold sealE;rw [if_pos ha,if_pos (by show (celsC t l).length≤248;rw [cels_len];omega)]
theorem layZ_bys (t:Bool) (lv:Int) (l:List C4):Bys (layZ t lv l):=by
 unfold layZ;split
 ·exact seal_bys (p:=pgC t lv l) (cels_bys t l)
 ·intro z hz;cases hz
theorem layZ_len {t:Bool} {lv:Int} {l:List C4} (h:layB t lv l=true):(layZ t lv l).length=256:=by
 unfold layZ;rw [if_pos h];exact seal_len (p:=pgC t lv l) (sealE_zero (pgC_ok h)).2
def opB (s:St) (P:Pg):Bool:=decide (P.kind=s.kind)&&takesB s P.level P.count
def reB (t:Bool) (P:Pg):Bool:=opB (shtT t) P&&(okL t P.body P.count.toNat&&nouB (P.body.drop (P.count.toNat*szC t)))
def reE (t:Bool) (zs:List Int):Int:=if opE zs=0 then (if reB t (opP zs) then 0 else 4) else opE zs
def reL (t:Bool) (zs:List Int):List C4:=if reE t zs=0 then rdL t (opP zs).body (opP zs).count.toNat else []
def reV (t:Bool) (zs:List Int):Int:=if reE t zs=0 then (opP zs).level else 0
theorem re_lay {t:Bool} {lv:Int} {l:List C4} (h:layB t lv l=true):reE t (layZ t lv l)=0∧reL t (layZ t lv l)=l∧reV t (layZ t lv l)=lv:=by
 have hz:layZ t lv l=sealL (pgC t lv l):=by unfold layZ;rw [if_pos h]
 obtain ⟨o1,o2⟩:=open_seal (p:=pgC t lv l) (cels_bys t l) (pgC_ok h);obtain ⟨h1,h2,h3⟩:=layB_out h;obtain ⟨b1,b2⟩:=cells_back h3 (List.replicate (248-(celsC t l).length) 0)
 have hB:reB t (padP (pgC t lv l))=true:=by
  unfold reB opB;rw [Bool.and_eq_true,Bool.and_eq_true,Bool.and_eq_true];refine ⟨⟨decide_eq_true rfl,takes_iff.2 ⟨h1,h2⟩⟩,b2,?_⟩;show nouB ((celsC t l++List.replicate (248-(celsC t l).length) 0).drop (l.length*szC t))=true;rw [List.drop_append,cels_len,Nat.sub_self,List.drop_zero,List.drop_of_length_le (by rw [cels_len];exact Nat.le_refl _),List.nil_append];exact nou_rep _
 have he:reE t (layZ t lv l)=0:=by
  unfold reE;rw [hz,if_pos o1,o2,if_pos hB]
 refine ⟨he,?_,?_⟩
 ·unfold reL;rw [if_pos he,hz,o2];exact b1
 ·unfold reV;rw [if_pos he,hz,o2];rfl
theorem reE_zero {t:Bool} {zs:List Int} (h:reE t zs=0):opE zs=0∧reB t (opP zs)=true:=by
 unfold reE at h;by_cases ho:opE zs=0
 ·rw [if_pos ho] at h;refine ⟨ho,?_⟩;cases hB:reB t (opP zs)
  ·rw [hB] at h;exact absurd h (by decide)
  ·rfl
 ·rw [if_neg ho] at h;exact absurd h ho
theorem lay_re {t:Bool} {zs:List Int} (hb:Bys zs) (h:reE t zs=0):layB t (reV t zs) (reL t zs)=true∧layZ t (reV t zs) (reL t zs)=zs:=by
 obtain ⟨ho,hB⟩:=reE_zero h;obtain ⟨s1,s2,s3,s4⟩:=seal_open hb ho;have hV:reV t zs=(opP zs).level:=by unfold reV;rw [if_pos h]
 have hL:reL t zs=rdL t (opP zs).body (opP zs).count.toNat:=by unfold reL;rw [if_pos h]
 unfold reB opB at hB;rw [Bool.and_eq_true,Bool.and_eq_true,Bool.and_eq_true] at hB;obtain ⟨⟨k1,k2⟩,k3,k4⟩:=hB;have k1:=of_decide_eq_true k1;have k2':=takes_iff.1 k2;have hct:(((opP zs).count.toNat:Nat):Int)=(opP zs).count:=by omega
 obtain ⟨m1,m2⟩:=most_fits t (n:=(opP zs).count.toNat) (by rw [hct];exact k2'.2.2);have hc:=cels_rdL s3 (t:=t) (opP zs).count.toNat (by omega) k3
 have hlb:layB t (reV t zs) (reL t zs)=true:=by
  unfold layB;rw [Bool.and_eq_true,hV,hL,rdL_len,hct];exact ⟨k2,List.all_eq_true.2 (ok_rdL k3)⟩
 refine ⟨hlb,?_⟩;unfold layZ;rw [if_pos hlb];refine Eq.trans ?_ s2;have hn:=nou_eq k4;rw [List.length_drop,s4] at hn
 have e:tailP (pgC t (reV t zs) (reL t zs))=tailP (opP zs):=by
  unfold tailP pgC;dsimp only;rw [hV,hL,rdL_len,hct,←k1,hc,s4,List.length_take,s4,Nat.min_eq_left (by omega),←hn,Nat.sub_self,List.replicate_zero,List.append_nil,List.append_assoc,List.take_append_drop]
 unfold sealL;rw [e]
def bytB (l:List Int):Bool:=takesB textS 0 l.length
def bytE (l:List Int):Int:=if bytB l then 0 else 1
def bytZ (l:List Int):List Int:=if bytB l then sealL ⟨4,0,l.length,l⟩ else []
def teB (P:Pg):Bool:=opB textS P&&nouB (P.body.drop P.count.toNat)
def teE (zs:List Int):Int:=if opE zs=0 then (if teB (opP zs) then 0 else 4) else opE zs
def teL (zs:List Int):List Int:=if teE zs=0 then (opP zs).body.take (opP zs).count.toNat else []
theorem bytB_out {l:List Int} (h:bytB l=true):1≤l.length∧l.length≤248:=by
 have:=(takes_iff.1 h).2;have h2:(l.length:Int)≤248:=this.2;omega
theorem pgT_ok {l:List Int} (h:bytB l=true):sealE ⟨4,0,l.length,l⟩=0:=by
 have hl:=bytB_out h
 have ha:argP ⟨4,0,l.length,l⟩=true:=by
  refine decide_eq_true ?_;show ((1:Int)≤4∧(4:Int)≤5)∧((0:Int)≤0∧(0:Int)≤255)∧(0≤(l.length:Int)∧(l.length:Int)≤65535);exact ⟨by decide,by decide,by omega⟩
 unfold sealE;rw [if_pos ha,if_pos (by show l.length≤248;omega)]
theorem te_byt {l:List Int} (hb:Bys l) (h:bytB l=true):teE (bytZ l)=0∧teL (bytZ l)=l:=by
 have hz:bytZ l=sealL ⟨4,0,l.length,l⟩:=by unfold bytZ;rw [if_pos h]
 obtain ⟨o1,o2⟩:=open_seal (p:=⟨4,0,l.length,l⟩) hb (pgT_ok h)
 have hB:teB (padP ⟨4,0,l.length,l⟩)=true:=by
  unfold teB opB;rw [Bool.and_eq_true,Bool.and_eq_true];refine ⟨⟨decide_eq_true rfl,h⟩,?_⟩;show nouB ((l++List.replicate (248-l.length) 0).drop l.length)=true;rw [List.drop_append,Nat.sub_self,List.drop_zero,List.drop_of_length_le (Nat.le_refl _),List.nil_append];exact nou_rep _
 have he:teE (bytZ l)=0:=by
  unfold teE;rw [hz,if_pos o1,o2,if_pos hB]
 refine ⟨he,?_⟩;unfold teL;rw [if_pos he,hz,o2];show (l++List.replicate (248-l.length) 0).take l.length=l;rw [List.take_append_of_le_length (Nat.le_refl _),List.take_of_length_le (Nat.le_refl _)]
theorem teE_zero {zs:List Int} (h:teE zs=0):opE zs=0∧teB (opP zs)=true:=by
 unfold teE at h;by_cases ho:opE zs=0
 ·rw [if_pos ho] at h;refine ⟨ho,?_⟩;cases hB:teB (opP zs)
  ·rw [hB] at h;exact absurd h (by decide)
  ·rfl
 ·rw [if_neg ho] at h;exact absurd h ho
theorem byt_te {zs:List Int} (hb:Bys zs) (h:teE zs=0):bytB (teL zs)=true∧bytZ (teL zs)=zs:=by
 obtain ⟨ho,hB⟩:=teE_zero h;obtain ⟨s1,s2,s3,s4⟩:=seal_open hb ho;have hL:teL zs=(opP zs).body.take (opP zs).count.toNat:=by unfold teL;rw [if_pos h]
 unfold teB opB at hB;rw [Bool.and_eq_true,Bool.and_eq_true] at hB;obtain ⟨⟨k1,k2⟩,k4⟩:=hB;have k1:=of_decide_eq_true k1;have k2':=takes_iff.1 k2;have hm:(opP zs).count≤248:=k2'.2.2
 have hv:(opP zs).level=0:=by
  have h1:(0:Int)≤(opP zs).level:=k2'.1.1;have h2:(opP zs).level≤0:=k2'.1.2;omega
 have hct:(((opP zs).count.toNat:Nat):Int)=(opP zs).count:=by omega
 have hlen:(teL zs).length=(opP zs).count.toNat:=by rw [hL,List.length_take,s4];omega
 have hlb:bytB (teL zs)=true:=by
  unfold bytB;rw [hlen,hct,←hv];exact k2
 refine ⟨hlb,?_⟩;unfold bytZ;rw [if_pos hlb];refine Eq.trans ?_ s2;have hn:=nou_eq k4;rw [List.length_drop,s4] at hn
 have e:tailP ⟨4,0,(teL zs).length,teL zs⟩=tailP (opP zs):=by
  unfold tailP;dsimp only;rw [hlen,hct,hv,k1,s4,←hn,hL,Nat.sub_self,List.replicate_zero,List.append_nil,List.append_assoc,List.take_append_drop];rfl
 unfold sealL;rw [e]
theorem opP_bys {zs:List Int} (h:Bys zs):Bys (opP zs).body:=by
 unfold opP;split
 ·exact fun z hz=>h z (List.mem_of_mem_drop hz)
 ·intro z hz;cases hz
theorem open_v (a:Option Addr) (cap n:Nat) (zs:List Int) (w:World) (h:Row w a cap zs) (hn:zs.length=n) (E:Int) (hE:opE zs=E) (P:Pg) (hP:opP zs=P):
  Calls Tryz.prog 77 #[.slice a n cap] w fun e w'=>∃g c,e=.returned (.tuple #[pgV P g c,.int .i64 E])∧Own w.heap.size w' (.slice g P.body.length c) P.body∧Below w.heap.size w w':=by
 subst hn hE hP;refine (open_any a cap zs w h).mono ?_;rintro e w' ⟨v,rfl,⟨b,rfl,ho⟩,hb⟩;obtain ⟨g,c,rfl,_⟩:=ho.row (opP_bys h.1);exact ⟨g,c,rfl,ho,hb⟩
theorem ropen_v (a:Option Addr) (cap n:Nat) (zs:List Int) (w:World) (h:Row w a cap zs) (hn:zs.length=n) (E:Int) (hE:opE zs=E) (P:Pg) (hP:opP zs=P):
  Calls Tryz.prog 95 #[.slice a n cap] w fun e w'=>∃g c,e=.returned (.tuple #[pgV P g c,.int .i64 E])∧Own w.heap.size w' (.slice g P.body.length c) P.body∧Below w.heap.size w w':=by
 subst hn hE hP;refine (ropen_any a cap zs w h).mono ?_;rintro e w' ⟨v,rfl,⟨b,rfl,ho⟩,hb⟩;obtain ⟨g,c,rfl,_⟩:=ho.row (opP_bys h.1);exact ⟨g,c,rfl,ho,hb⟩
theorem rseal_v (p:Pg) (ba:Option Addr) (bc:Nat) (w:World) (hr:Row w ba bc p.body) (hnil:ba=none→bc=0) (E:Int) (hE:sealE p=E) (Z:List Int) (hZ:sealZ p=Z) (n:Nat) (hn:Z.length=n):
  Calls Tryz.prog 62 #[pgV p ba bc] w fun e w'=>∃g c,e=.returned (.tuple #[.slice g n c,.int .i64 E])∧Own w.heap.size w' (.slice g n c) Z∧Below w.heap.size w w':=by
 subst hE hZ hn;refine (rseal_walk p ba bc w hr hnil).mono ?_;rintro e w' ⟨v,rfl,ho,hb⟩;obtain ⟨g,c,rfl,_⟩:=ho.row (sealZ_bys hr.1);exact ⟨g,c,rfl,ho,hb⟩
theorem getB_yes {zs:List Int} (hb:Bys zs) {p n:Nat} (h1:1≤n) (h7:n≤7) (h:p+n≤zs.length):getB zs p n=true:=by
 have:=num_bd7 hb p n h7;unfold getB;rw [ins_yes h1 (by omega) h,if_pos rfl,Int.toNat_natCast,Int.toNat_natCast];exact (cap_yes (by omega)).2
theorem own_below {w w':World} {B e size n:Nat} {v:Value} {xs:List Value} (h:w.ownsRow B e size v n xs) (hb:Below w.heap.size w w'):w'.ownsRow B e size v n xs:=by
 obtain ⟨h0,⟨rfl,h1⟩|⟨g,cap,cur,rfl,hg,hc,hr⟩⟩:=h
 ·exact ⟨h0,.inl ⟨rfl,h1⟩⟩
 ·have hlt:g<w.heap.size:=by
   by_cases hlt:g<w.heap.size
   ·exact hlt
   ·rw [Array.getElem?_eq_none (by omega)] at hc;exact absurd hc (by simp)
  exact ⟨h0,.inr ⟨g,cap,cur,rfl,hg,(hb.block g hlt).trans hc,hr⟩⟩
def RowI (w:World) (a:Option Addr) (cap:Nat) (zs:List Int):Prop:=
 zs.length≤cap∧cap≤maxLen∧(zs=[]∨∃b off,a=some ⟨b,off,none⟩∧∀i,i<zs.length→w.cell? ⟨b,off+i,none⟩=some (.int .i64 (zs.getD i 0)))
theorem RowI.below {w w':World} {a:Option Addr} {cap:Nat} {zs:List Int} (h:RowI w a cap zs) (k:Below w.heap.size w w'):RowI w' a cap zs:=by
 obtain ⟨h2,h3,h4⟩:=h;refine ⟨h2,h3,?_⟩;rcases h4 with h4|⟨b,off,ha,hc⟩
 ·exact .inl h4
 ·exact .inr ⟨b,off,ha,fun i hi=>(k.cell (p:=⟨b,off+i,none⟩) (block_lt_of_cell (hc i hi))).trans (hc i hi)⟩
theorem RowI.at' {w:World} {a:Option Addr} {cap:Nat} {zs:List Int} (h:RowI w a cap zs) (i:Nat) (hi:i<zs.length):∃b off,a=some ⟨b,off,none⟩∧w.cell? ⟨b,off+i,none⟩=some (.int .i64 (zs.getD i 0)):=by
 rcases h.2.2 with h|⟨b,off,rfl,hc⟩
 ·rw [h] at hi;exact absurd hi (by simp)
 ·exact ⟨b,off,rfl,hc i hi⟩
theorem info3:(Tryz.prog.info? 3).map (fun i=>(i.zero,i.size,i.bytes))=some (some (.int .i64 0),1,8):=by kernel_rfl
def OwnI (base:Nat) (w:World) (v:Value) (zs:List Int):Prop:=w.ownsRow base 3 1 v zs.length (zs.map (Value.int .i64))
theorem OwnI.lt' {base:Nat} {w:World} {v:Value} {zs:List Int} (h:OwnI base w v zs) (k:Nat) (hk:v.ownBlock=some k):base≤k:=(World.ownsRow.lt h k hk).1
theorem OwnI.row {base:Nat} {w:World} {v:Value} {zs:List Int} (h:OwnI base w v zs):∃a cap,v=.slice a zs.length cap∧RowI w a cap zs:=by
 obtain ⟨_,⟨rfl,h0⟩|⟨g,cap,cur,rfl,hg,hc,hn,hm,hs,ht⟩⟩:=id h
 ·refine ⟨none,0,by rw [h0],by omega,by simp [maxLen],.inl (List.eq_nil_of_length_eq_zero h0)⟩
 ·refine ⟨_,cap,rfl,hn,hm,.inr ⟨g,0,rfl,fun i hi=>?_⟩⟩;have:=World.ownsRow.cellAt h i (by omega);rw [Nat.zero_add,this];simp [hi]
theorem ownI_step {B k:Nat} {xs:List Int} {c:Int} {w wr w1:World} {v v':Value} {o:Obj} (hk:xs.length=k) (hB:B≤wr.heap.size)
  (hown:OwnI B wr v xs) (hnx:Below B w wr)
  (hown':w1.ownsRow B 3 1 v' (k+1) (xs.map (Value.int .i64)++[.int .i64 c])) (hgrow:(wr.alloc o).grownBy w1 v.ownBlock):
  OwnI B w1 v' (xs++[c])∧Below B w w1:=by
 refine ⟨?_,(hnx.alloc hB o).grown hgrow (by simp;omega) (fun j hj=>hown.lt' j hj)⟩;unfold OwnI;rw [List.length_append,List.map_append,hk];exact hown'
end Go.Proofs.YtjllhcifmfhkmaaGreat.Oct
