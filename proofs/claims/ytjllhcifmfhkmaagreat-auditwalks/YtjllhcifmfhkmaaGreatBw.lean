/- Part of a proof. -/
import Derived.Test.YtjllhcifmfhkmaaGreatVc
import Derived.Test.YtjllhcifmfhkmaaGreatAuv
import Derived.Test.YtjllhcifmfhkmaaGreatBq
import Derived.Test.YtjllhcifmfhkmaaGreatUi
import Derived.Laws.ResultCell
import Derived.Laws.Tables
set_option maxHeartbeats 1000000
namespace Go.Proofs.YtjllhcifmfhkmaaGreat.Oct
open Go.RowKit
theorem Im.pgN {N:Nat} {L:List Int} {P:Nat→List Int} (h:Im N L P):pgN L=N:=by
 unfold Oct.pgN;rw [h.len];omega
theorem cha_goes {N:Nat} {L:List Int} {P:Nat→List Int} (hi:Im N L P) {t:List Int} (hb:Bys t) {a:Nat} (ha:2≤a) (hn:a+ned t.length≤N) (h4:N≤4096) (h:Cha P t a):
  ∀(d i:Nat),i+d=ned t.length→∀(f:Nat) (R:List Bool) (out:List Int),d<f→R.length=N→(∀j,a+i≤j→j<a+ned t.length→R.getD j false=false)→
   chB L f (if i<ned t.length then ((a+i:Nat):Int) else 0) R out=some (mkR R (List.range' (a+i) d),out++t.drop (i*244)):=by
 intro d
 induction d with
 |zero=>
  intro i e f R out hf hR hfr;obtain ⟨f,rfl⟩:∃g,f=g+1:=⟨f-1,by omega⟩;rw [if_neg (by omega)];unfold chB;rw [if_pos rfl,List.range'_zero,mkR_nil,List.drop_of_length_le (by unfold ned at e;omega),List.append_nil]
 |succ d ih=>
  intro i e f R out hf hR hfr;obtain ⟨f,rfl⟩:∃g,f=g+1:=⟨f-1,by omega⟩;have hil:i<ned t.length:=by omega
  obtain ⟨p1,p2,p3⟩:=part_cpg (k:=i) hb (ups_ok ha (by omega:a+ned t.length≤4096)) (ups_len _ _) (by rw [ups_len];exact hil)
  have hpg:pageOf L (((a+i:Nat):Int)).toNat=sealL (cpg t (ups a (ned t.length)) i):=by
   rw [Int.toNat_natCast,hi.pg _ (by omega),h i hil]
  rw [if_pos hil];unfold chB
  rw [if_neg (by omega),hpg,if_pos (by
   unfold rcB;rw [Int.toNat_natCast,hfr (a+i) (Nat.le_refl _) (by omega),p1,hR];simp;omega),p2,p3]
  have hnx:nxt (ups a (ned t.length)) i=if i+1<ned t.length then ((a+(i+1):Nat):Int) else 0:=by
   unfold nxt;rw [ups_len];split
   ·next h1=>rw [ups_at h1]
   ·rfl
  rw [hnx,Int.toNat_natCast,ih (i+1) (by omega) f _ _ (by omega) (by simpa using hR) (fun j h1 h2=>by
   rw [setB_at (by omega),if_neg (by omega)];exact hfr j (by omega) h2)]
  rw [mkR_set,List.append_assoc]
  have e2:prt t i++List.drop ((i+1)*244) t=List.drop (i*244) t:=by
   unfold prt;rw [Nat.succ_mul,←List.drop_drop,List.take_append_drop]
  rw [e2];rfl
theorem tcT_leaf {N:Nat} {L:List Int} {P:Nat→List Int} (hi:Im N L P) {l:List C4} {a:Nat} {root:Bool} (h1:1≤l.length) (h2:l.length≤20) (h3:root=false→10≤l.length) (hl:∀x∈l,okC false x=true) (ha:2≤a) (hN:a<N) (hp:P a=layZ false 0 l):
  tcT L 0 root (a:Nat)=some ⟨[a],l,sm3 l⟩:=by
 obtain ⟨r1,r2,_⟩:=re_lay (lay_leaf h1 h2 hl);have hpg:pageOf L ((a:Nat):Int).toNat=layZ false 0 l:=by rw [Int.toNat_natCast,hi.pg _ hN,hp]
 unfold tcT;rw [hpg,hi.pgN,r2,Int.toNat_natCast,if_pos];unfold inR lfB;rw [r1,r2];cases root
 ·have:=h3 rfl;simp;omega
 ·simp;omega
theorem tcK_kids {N:Nat} {L:List Int} {P:Nat→List Int} (hi:Im N L P):∀(D:List (List C4)) (a:Nat),(∀c∈D,10≤c.length∧c.length≤20)→(∀x∈D.flatten,okC false x=true)→2≤a→a+D.length≤N→(∀i,i<D.length→P (a+i)=layZ false 0 (D.getD i []))→
  tcK (tcT L 0 false) (kidsL a D)=some ⟨List.range' a D.length,D.flatten,sm3 D.flatten⟩
 |[],a,_,_,_,_,_=>rfl
 |c::D,a,hc,hl,ha,hN,hp=>by
  have h1:=hc c List.mem_cons_self;have hlc:∀x∈c,okC false x=true:=fun x hx=>hl x (by rw [List.flatten_cons];exact List.mem_append_left _ hx)
  rw [List.length_cons] at hN;have hlf:=tcT_leaf hi (root:=false) (by omega) h1.2 (fun _=>h1.1) hlc ha (by omega) (hp 0 (by simp))
  have ih:=tcK_kids hi D (a+1) (fun x hx=>hc x (List.mem_cons_of_mem _ hx)) (fun x hx=>hl x (by rw [List.flatten_cons];exact List.mem_append_right _ hx)) (by omega) (by omega) (fun i hi'=>by
   have:=hp (i+1) (by simpa using hi');rw [show a+1+i=a+(i+1) from by omega,this];rfl)
  unfold kidsL tcK;rw [show (kidOf a c).a=((a:Nat):Int) from rfl,hlf];show (if kdQ (sm3 c) (kidOf a c)=true then _ else _)=_;rw [if_pos (by unfold kdQ sm3 kidOf;simp),ih];show some (tcA _ _)=_;unfold tcA;simp only [List.length_cons,List.flatten_cons,List.range'_succ,List.singleton_append,sm3_app]
theorem tre_ok {N:Nat} {L:List Int} {P:Nat→List Int} (hi:Im N L P) {l:List C4} {a r h b:Nat} (ht:Tre P l a r h b) (hl:∀x∈l,okC false x=true) (ha:2≤a) (hb:b≤N) (h4:N≤4096):
  (∃T,(if ((r:Nat):Int)=0 then some tc0 else tcT L (((h:Nat):Int)-1).toNat true (r:Nat))=some T∧T.pc=l∧T.s=sm3 l∧T.tp.Nodup∧∀n,n∈T.tp↔a≤n∧n<b)∧a≤b∧(r=0↔l=[])∧(h=0↔r=0)∧h≤2∧(r=0∨(2≤r∧r<b)):=by
 rcases ht with ⟨rfl,rfl,rfl,rfl⟩|⟨h1,h2,rfl,rfl,rfl,hp⟩|⟨D,rfl,h1,h2,hc,rfl,rfl,rfl,hp,hq⟩
 ·refine ⟨⟨tc0,by simp,rfl,rfl,by simp [tc0],fun n=>?_⟩,Nat.le_refl _,by simp,by simp,by simp,.inl rfl⟩;simp [tc0]
 ·have hne:l≠[]:=by intro e;rw [e] at h1;simp at h1
  refine ⟨⟨⟨[r],l,sm3 l⟩,?_,rfl,rfl,by simp,fun n=>?_⟩,by omega,by simp [hne];omega,by omega,by omega,.inr (by omega)⟩
  ·rw [if_neg (by omega)];exact tcT_leaf hi (root:=true) h1 h2 (by simp) hl ha (by omega) hp
  ·simp;omega
 ·have hne:D.flatten≠[]:=by
   intro e;have h0:0<D.length:=by omega
   have:=hc (D[0]) (List.getElem_mem h0);have he:=List.flatten_eq_nil_iff.1 e _ (List.getElem_mem h0);rw [he] at this;simp at this
  have hko:=kidsL_ok D a hc hl ha (by omega)
  have hkb:layB true 1 (kidsL a D)=true:=by
   unfold layB;rw [Bool.and_eq_true,List.all_eq_true,kidsL_len];refine ⟨takes_iff.2 ⟨by decide,?_⟩,hko⟩;show 1≤(D.length:Int)∧(D.length:Int)≤12;omega
  obtain ⟨r1,r2,r3⟩:=re_lay hkb;have hpg:pageOf L (((a+D.length:Nat):Int)).toNat=layZ true 1 (kidsL a D):=by rw [Int.toNat_natCast,hi.pg _ (by omega),hq]
  refine ⟨⟨⟨(a+D.length)::List.range' a D.length,D.flatten,sm3 D.flatten⟩,?_,rfl,rfl,?_,fun n=>?_⟩,by omega,by simp [hne];omega,by omega,by omega,.inr (by omega)⟩
  ·rw [if_neg (by omega),show (((2:Nat):Int)-1).toNat=0+1 from rfl];unfold tcT;rw [hpg,hi.pgN,r2,tcK_kids hi D a hc hl ha (by omega) hp,if_pos,Int.toNat_natCast];unfold inR inB3;rw [r1,r2,r3,kidsL_len];simp;omega
  ·rw [List.nodup_cons];refine ⟨?_,List.nodup_range'⟩;rw [List.mem_range'_1];omega
  ·rw [List.mem_cons,List.mem_range'_1];omega
def txt (i n:Nat):List Int:=(List.range n).map fun k=>if (i+k)%5=4 then 10 else 97+((i%20:Nat):Int)
def szn (z:Int):Nat:=1+(z%8).toNat
def pcA (zs:List Int) (i:Nat):C4:=⟨((2+i:Nat):Int),0,(szn (zs.getD i 0):Nat),lin (txt i (szn (zs.getD i 0)))⟩
def pcU (zs:List Int) (k:Nat):List C4:=(List.range k).map (pcA zs)
def pcs (zs:List Int):List C4:=pcU zs zs.length
theorem txt_len (i n:Nat):(txt i n).length=n:=by simp [txt]
theorem txt_bys (i n:Nat):Bys (txt i n):=fun z hz=>by
 obtain ⟨k,_,rfl⟩:=List.mem_map.1 hz;split<;>omega
theorem szn_bd (z:Int):1≤szn z∧szn z≤8:=by unfold szn;omega
theorem pcU_len (zs:List Int) (k:Nat):(pcU zs k).length=k:=by simp [pcU]
theorem pcU_succ (zs:List Int) (k:Nat):pcU zs (k+1)=pcU zs k++[pcA zs k]:=by simp [pcU,List.range_succ]
theorem lin_le (l:List Int):0≤lin l∧lin l≤l.length:=by
 unfold lin;have:=List.count_le_length (a:=(10:Int)) (l:=l);omega
theorem pcA_ok (zs:List Int) {i:Nat} (h:i<4000):okC false (pcA zs i)=true:=by
 have h1:=szn_bd (zs.getD i 0);have h2:=lin_le (txt i (szn (zs.getD i 0)));rw [txt_len] at h2;unfold okC pcA;simp only [decide_eq_true_eq];omega
theorem pcU_ok (zs:List Int) {k:Nat} (h:k≤4000):∀x∈pcU zs k,okC false x=true:=fun x hx=>by
 obtain ⟨i,hi,rfl⟩:=List.mem_map.1 hx;exact pcA_ok zs (by have:=List.mem_range.1 hi;omega)
theorem byt_txt (i:Nat) (z:Int):bytB (txt i (szn z))=true:=by
 have h1:=szn_bd z;unfold bytB;refine takes_iff.2 ⟨by decide,?_⟩;rw [txt_len];show 1≤(szn z:Int)∧(szn z:Int)≤248;omega
theorem pcA_there {N:Nat} {L:List Int} {P:Nat→List Int} (hi:Im N L P) (zs:List Int) {i:Nat} (h:2+i<N) (hp:P (2+i)=bytZ (txt i (szn (zs.getD i 0)))):pcK L (pcA zs i)=true:=by
 obtain ⟨t1,t2⟩:=te_byt (txt_bys i _) (byt_txt i (zs.getD i 0))
 have hpg:pageOf L (pcA zs i).a.toNat=bytZ (txt i (szn (zs.getD i 0))):=by
  show pageOf L (((2+i:Nat):Int)).toNat=_;rw [Int.toNat_natCast,hi.pg _ h,hp]
 have hsg:seg (txt i (szn (zs.getD i 0))) (pcA zs i)=txt i (szn (zs.getD i 0)):=by
  unfold seg pcA;simp only [Int.toNat_natCast,Int.toNat_zero,List.drop_zero];exact List.take_of_length_le (by rw [txt_len];omega)
 unfold pcK;rw [hpg,t1,t2,hsg,hi.pgN,txt_len];unfold inR pcA;simp;omega
structure Bd (N g:Nat) (P:Nat→List Int) (zs st:List Int) (S:Sp) (r h b:Nat):Prop where
 tx:∀i,i<zs.length→P (2+i)=bytZ (txt i (szn (zs.getD i 0)))
 tr:Tre P (pcs zs) (2+zs.length) r h b
 sc:Cha P st b
 fr:Cha P (bitsP (fun i=>decide (i<b+ned st.length+ned ((N+7)/8))) N) (b+ned st.length)
 le:b+ned st.length+ned ((N+7)/8)≤N
 p0:P 0=enZ S
 p1:P 1=List.replicate 256 0
 s:S=⟨g,N,r,h,((pcs zs).map (·.c)).sum,((pcs zs).map (·.d)).sum,if st.length=0 then 0 else (b:Nat),(b+ned st.length:Nat)⟩
 g1:1≤g
 g2:g≤1000000
 n8:8≤N
 n4:N≤4096
 m4:zs.length≤4000
 bs:Bys st
theorem pgs_pcs (zs:List Int) (n:Nat):n∈pgs (pcs zs)↔2≤n∧n<2+zs.length:=by
 unfold pgs pcs pcU;rw [List.map_map,List.mem_map];constructor
 ·rintro ⟨i,hi,rfl⟩;have:=List.mem_range.1 hi;simp [pcA];omega
 ·intro h;refine ⟨n-2,List.mem_range.2 (by omega),?_⟩;simp [pcA];omega
theorem ned_pos {n:Nat} (h:0<n):0<ned n:=by unfold ned;omega
theorem ned_zero {n:Nat} (h:n=0):ned n=0:=by unfold ned;omega
theorem rsB_up (R:List Bool) (c:Nat) (hR:∀j,j<R.length→R.getD j false=(decide (2≤j)&&decide (j<c))):∀k,k≤R.length→rsB R k=ups 2 (min k c-2):=by
 intro k
 induction k with
 |zero=>intro _;simp [rsB,ups]
 |succ k ih=>
  intro hk;unfold rsB;rw [ih (by omega),hR k (by omega)];by_cases h1:2≤k
  ·by_cases h2:k<c
   ·rw [if_pos (by simp [h1,h2]),show min (k+1) c-2=(k-2)+1 from by omega,show min k c-2=k-2 from by omega,ups_succ,show 2+(k-2)=k from by omega]
   ·rw [if_neg (by simp [h2]),show min (k+1) c-2=min k c-2 from by omega]
  ·rw [if_neg (by simp [h1]),show min (k+1) c-2=min k c-2 from by omega]
set_option maxRecDepth 8000 in
theorem Bd.ok {N g r h b:Nat} {L:List Int} {P:Nat→List Int} {zs st:List Int} {S:Sp} (hd:Bd N g P zs st S r h b) (hi:Im N L P):
  okS S=true∧∃c,zs.length+1≤c-2∧c≤N∧Su L S ⟨S,-1,pcs zs,txs L (pcs zs),st,ups 2 (c-2),S.h⟩:=by
 obtain ⟨htx,htr,hst,hfr,hle,hp0,hp1,hs,hg1,hg2,hn8,hn4,hm4,hbs⟩:=hd;have hnb:0<ned ((N+7)/8):=ned_pos (by omega);have hpk:=pcU_ok zs hm4;obtain ⟨⟨T,t1,t2,t3,t4,t5⟩,hab,hr0,hh0,hh2,hrb⟩:=tre_ok hi htr hpk (by omega) (by omega) hn4;have hsum:=sum_le hpk;rw [pcU_len] at hsum
 have hl0:pcs zs=[]↔zs.length=0:=by
  rw [←List.length_eq_zero_iff];unfold pcs;rw [pcU_len]
 have hsum':(zs.length:Int)≤((pcs zs).map (·.c)).sum∧((pcs zs).map (·.c)).sum≤248*(zs.length:Int)∧0≤((pcs zs).map (·.d)).sum∧((pcs zs).map (·.d)).sum≤((pcs zs).map (·.c)).sum:=hsum;refine ⟨?_,b+ned st.length+ned ((N+7)/8),by omega,hle,?_⟩
 ·subst hs;rw [okS_all];intro k hk;rw [hl0] at hr0;rcases eight hk with rfl|rfl|rfl|rfl|rfl|rfl|rfl|rfl<;>simp only [fitS,ldB,decide_eq_true_eq]
  ·omega
  ·omega
  ·omega
  ·omega
  ·omega
  ·omega
  ·by_cases h0:st.length=0
   ·rw [if_pos h0];omega
   ·rw [if_neg h0];have:=ned_pos (n:=st.length) (by omega);omega
  ·omega
 ·have hsr:S.r=(r:Nat):=by rw [hs]
  have hsh:S.h=(h:Nat):=by rw [hs]
  have hsp:S.p=(N:Nat):=by rw [hs]
  have hss:S.s=if st.length=0 then 0 else ((b:Nat):Int):=by rw [hs]
  have hsf:S.f=((b+ned st.length:Nat):Int):=by rw [hs]
  have hrl:(rN L).length=N:=by unfold rN;rw [List.length_replicate,hi.pgN]
  have hr1:∀j,j<N→(mkR (rN L) (T.tp++pgs T.pc)).getD j false=(decide (2≤j)&&decide (j<b)):=fun j hj=>by
   rw [mkR_at (by rw [hrl];exact hj),t2]
   have h0:(rN L).getD j false=false:=by
    unfold rN;rw [List.getD_eq_getElem?_getD,List.getElem?_replicate];split<;>rfl
   rw [h0,Bool.false_or,←Bool.decide_and];refine decide_eq_decide.2 ?_;rw [List.mem_append,t5,pgs_pcs];omega
  have hc1:=cha_goes hi hbs (by omega:2≤b) (by omega) hn4 hst (ned st.length) 0 (by omega) (pgN L+1) (mkR (rN L) (T.tp++pgs T.pc)) [] (by rw [hi.pgN];omega) (by rw [mkR_len,hrl]) (fun j h1 h2=>by
   rw [hr1 j (by omega)];simp;omega)
  have e1:(if 0<ned st.length then ((b+0:Nat):Int) else 0)=S.s:=by
   rw [hss];by_cases h0:st.length=0
   ·rw [if_pos h0,if_neg (by rw [ned_zero h0];omega)]
   ·rw [if_neg h0,if_pos (ned_pos (by omega)),Nat.add_zero]
  rw [e1,Nat.add_zero,List.nil_append,Nat.zero_mul,List.drop_zero] at hc1;have hbl:(bitsP (fun i=>decide (i<b+ned st.length+ned ((N+7)/8))) N).length=(N+7)/8:=bitsP_len _ _
  have hr2:∀j,j<N→(mkR (mkR (rN L) (T.tp++pgs T.pc)) (List.range' b (ned st.length))).getD j false=(decide (2≤j)&&decide (j<b+ned st.length)):=fun j hj=>by
   rw [mkR_at (by rw [mkR_len,hrl];exact hj),hr1 j hj,←Bool.decide_and,←Bool.decide_and,←Bool.decide_or];refine decide_eq_decide.2 ?_;rw [List.mem_range'_1];omega
  have hc2:=cha_goes hi (bitsP_bys _ _) (by omega:2≤b+ned st.length) (by rw [hbl];omega) hn4 hfr (ned ((N+7)/8)) 0 (by rw [hbl];omega) (pgN L+1) (mkR (mkR (rN L) (T.tp++pgs T.pc)) (List.range' b (ned st.length))) [] (by rw [hi.pgN];omega) (by rw [mkR_len,mkR_len,hrl]) (fun j h1 h2=>by
   rw [hbl] at h2;rw [hr2 j (by omega)];simp;omega)
  rw [hbl,if_pos hnb] at hc2;simp only [Nat.add_zero,List.nil_append,Nat.zero_mul,List.drop_zero] at hc2;rw [←hsf] at hc2
  have hr3:∀j,j<N→(mkR (mkR (mkR (rN L) (T.tp++pgs T.pc)) (List.range' b (ned st.length))) (List.range' (b+ned st.length) (ned ((N+7)/8)))).getD j false=(decide (2≤j)&&decide (j<b+ned st.length+ned ((N+7)/8))):=fun j hj=>by
   rw [mkR_at (by rw [mkR_len,mkR_len,hrl];exact hj),hr2 j hj,←Bool.decide_and,←Bool.decide_and,←Bool.decide_or];refine decide_eq_decide.2 ?_;rw [List.mem_range'_1];omega
  refine ⟨by rw [hsp,hi.pgN],T,_,_,_,_,⟨?_,t4,?_,?_,?_,?_⟩,hc1,hc2,?_,?_⟩
  ·unfold suT;rw [hsr,hsh];exact t1
  ·intro n hn hm;rw [t2,pgs_pcs] at hm;have:=(t5 n).1 hn;omega
  ·intro p hp;rw [t2] at hp;obtain ⟨i,hi',rfl⟩:=List.mem_map.1 hp;have:=List.mem_range.1 hi';exact pcA_there hi zs (by omega) (htx i this)
  ·rw [t3,hs];rfl
  ·rw [t3,hs];rfl
  ·unfold usedL;rw [mkR_len,mkR_len,mkR_len,hrl];refine bitsP_ext fun i _=>?_
   by_cases hiN:i<N
   ·rw [hr3 i hiN,←Bool.decide_and,←Bool.decide_or];refine decide_eq_decide.2 ?_;omega
   ·rw [List.getD_eq_getElem?_getD,List.getElem?_eq_none (by rw [mkR_len,mkR_len,mkR_len,hrl];omega),Option.getD_none,Bool.or_false];refine decide_eq_decide.2 ?_;omega
  ·have:=rsB_up _ (b+ned st.length+ned ((N+7)/8)) (fun j hj=>by
    rw [mkR_len,mkR_len,mkR_len,hrl] at hj;exact hr3 j hj) N (by rw [mkR_len,mkR_len,mkR_len,hrl];exact Nat.le_refl _)
   rw [Nat.min_eq_right hle] at this;rw [hi.pgN,this,t2]
theorem Su.one {L:List Int} {S:Sp} {x y:Rp} (hx:Su L S x) (hy:Su L S y):x=y:=by
 obtain ⟨_,T,R2,st,R3,fr,h1,h2,h3,_,rfl⟩:=hx;obtain ⟨_,T',R2',st',R3',fr',h1',h2',h3',_,rfl⟩:=hy;have e1:T=T':=Option.some.inj (h1.t.symm.trans h1'.t);subst e1;have e2:=Option.some.inj (h2.symm.trans h2');rw [Prod.mk.injEq] at e2;obtain ⟨rfl,rfl⟩:=e2;have e3:=Option.some.inj (h3.symm.trans h3');rw [Prod.mk.injEq] at e3;obtain ⟨rfl,rfl⟩:=e3;rfl
structure Snd (N:Nat) (L:List Int) (S:Sp) (zs st:List Int):Prop where
 len:L.length=N*256
 bys:Bys L
 ok:okS S=true
 we:waE L S=0
 wr:∃c,zs.length+1≤c-2∧c≤N∧waR L S=⟨S,-1,pcs zs,txs L (pcs zs),st,ups 2 (c-2),S.h⟩
 oe:oaE L=0
 or:oaR L={waR L S with pl:=0}
theorem deB_no {P:Pg} (h:P.kind≠1):deB P=false:=by
 unfold deB;simp [h]
theorem kind_zero:(opP (List.replicate 256 0)).kind≠1:=by decide+kernel
theorem de_no1 {zs:List Int} (h:(opP zs).kind≠1):deE zs≠0:=by
 unfold deE;split
 ·rw [deB_no h];decide
 ·assumption
set_option maxRecDepth 8000 in
theorem de_zero:deE (List.replicate 256 0)≠0:=de_no1 (zs:=List.replicate 256 0) kind_zero
theorem Bd.snd {N g r h b:Nat} {L:List Int} {P:Nat→List Int} {zs st:List Int} {S:Sp} (hd:Bd N g P zs st S r h b) (hi:Im N L P):Snd N L S zs st:=by
 obtain ⟨hok,c,h1,h2,hsu⟩:=hd.ok hi
 have hwa:waE L S=0∧Su L S (waR L S):=by
  rcases su_wa hi.bys (by rw [hi.pgN];exact hd.n4) hok with h|h
  ·exact h
  ·exact absurd hsu (h.2 _)
 have hen:enZ S=sealL (pgS S):=by unfold enZ;rw [if_pos hok]
 obtain ⟨_,_,d1,d2⟩:=dec_enc hok;have q0:pageOf L 0=sealL (pgS S):=by rw [hi.pg 0 (by have:=hd.n8;omega),hd.p0,hen]
 have q1:pageOf L 1=List.replicate 256 0:=by rw [hi.pg 1 (by have:=hd.n8;omega),hd.p1]
 have c1:chE (pageOf L 0) (pageOf L 1)=0:=by
  unfold chE;rw [q0,d1,if_neg (by simp)]
 have c2:chS (pageOf L 0) (pageOf L 1)=S∧chP (pageOf L 0) (pageOf L 1)=0:=by
  unfold chS chP;rw [q0,q1,if_pos ⟨d1,.inl de_zero⟩,if_pos ⟨d1,.inl de_zero⟩];exact ⟨d2,rfl⟩
 have ho:oaE L=0:=by
  unfold oaE opX;rw [if_pos c1,c2.1,if_pos hwa.1]
 refine ⟨hi.len,hi.bys,hok,hwa.1,⟨c,h1,h2,hwa.2.one hsu⟩,ho,?_⟩;unfold oaR;rw [if_pos ho,c2.1,c2.2]
theorem results_rowtmp {P:Program} {fn:Func} {p u:Tmp} {ty:TypeId} (h:fn.results= #[.cell p ty,.tmp u]) (tmps:Array Value) (w:World) (g:Nat) (t:TypeId) (cs:Array Value) (fr:Nat × Nat) (d:TypeDesc)
  (hp:tmps.getD p undef=.pointer (some ⟨g,0,none⟩)) (hg:w.heap[g]?=some (.cells cs t fr))
  (hu:P.underlying ty=some d) (hd:(match d with| .struct _| .array _ _=>true|_=>false)=true) (hi:(P.info? ty).map (·.size)=some cs.size):
  (results fn tmps).run P w=.ok (.tuple #[.agg cs,tmps.getD u undef]) w:=by
 rw [results_cell_tmp h,hp];simp [asAddr,Result.andThen,run_loadVar_row w g t ty cs fr d hg hu hd hi]
def rpC (S:Sp) (pl:Int) (vP vT vS vG:Value) (h:Int):Array Value:= #[.int .i64 S.g,.int .i64 S.p,.int .i64 S.r,.int .i64 S.h,.int .i64 S.b,.int .i64 S.l,.int .i64 S.s,.int .i64 S.f,.int .i64 pl,vP,vT,vS,vG,.int .i64 h]
def rp0C:Array Value:=rpC sp0 0 (.slice none 0 0) (.slice none 0 0) (.slice none 0 0) (.slice none 0 0) 0
def RepIs (B:Nat) (w:World) (v:Value) (R:Rp):Prop:=∃aP cP aT cT aS cS aG cG,v=.agg (rpC R.s R.pl (.slice aP R.pc.length cP) (.slice aT R.tx.length cT) (.slice aS R.st.length cS) (.slice aG R.pg.length cG) R.h)∧RowC w aP cP R.pc∧Row w aT cT R.tx∧Row w aS cS R.st∧RowI w aG cG R.pg∧∀k,(obl aP k∨obl aT k∨obl aS k∨obl aG k)→B≤k
theorem RepIs.below {B:Nat} {w w':World} {v:Value} {R:Rp} (h:RepIs B w v R) (k:Below w.heap.size w w'):RepIs B w' v R:=by
 obtain ⟨aP,cP,aT,cT,aS,cS,aG,cG,e,h1,h2,h3,h4,h5⟩:=h;exact ⟨aP,cP,aT,cT,aS,cS,aG,cG,e,h1.below k,h2.below k,h3.below k,h4.below k,h5⟩
theorem rep0 (B:Nat) (w:World):RepIs B w (.agg rp0C) rp0:=⟨none,0,none,0,none,0,none,0,rfl,⟨fun q hq=>(by cases hq),Nat.le_refl _,by simp [maxLen],.inl rfl⟩,row0 w,row0 w,⟨Nat.le_refl _,by simp [maxLen],.inl rfl⟩,fun k hk=>by rcases hk with ⟨x,e,_⟩|⟨x,e,_⟩|⟨x,e,_⟩|⟨x,e,_⟩<;>cases e⟩
def StR (x y:Value):Sem Unit:=Instr.storeAt 41 x y
theorem StR_eq (x y:Value):Instr.storeAt 41 x y=StR x y:=rfl
theorem rp_one (S:Sp) (pl h:Int) (aP aT aS aG:Option Addr) (nP nT nS nG cP cT cS cG:Nat):(rpC S pl (.slice aP nP cP) (.slice aT nT cT) (.slice aS nS cS) (.slice aG nG cG) h).all (·.oneCell')=true:=by
 simp [rpC,Value.oneCell']
theorem StR_run {w:World} {g:Nat} {old cs:Array Value} (hg:w.heap[g]?=some (.cells old 41 (0,0))) (ho:old.size=14) (hc:cs.size=14) (h1:cs.all (·.oneCell')=true):(StR (.pointer (some ⟨g,0,none⟩)) (.agg cs)).run Tryz.prog w=.ok () (w.setRow g cs):=by
 unfold StR;simp only [Instr.storeAt,Instr.sureAddr,Sem.run_bind,Sem.run_pure,Result.andThen_ok];rw [run_storeVar_row w g 41 41 old cs hg (by rw [hc];kernel_rfl) (by omega) h1]
attribute [local go_sem ↓] StR_eq
def bx (w:World) (S:Sp):World:=(w.alloc (.cells #[.int .i64 S.g,.int .i64 S.p,.int .i64 S.r,.int .i64 S.h,.int .i64 S.b,.int .i64 S.l,.int .i64 S.s,.int .i64 S.f] 28)).alloc (.cells rp0C 41)
theorem bx_size (w:World) (S:Sp):(bx w S).heap.size=w.heap.size+2:=by unfold bx;simp
theorem bx_below (w:World) (S:Sp):Below w.heap.size w (bx w S):=((Below.refl _ w).alloc (Nat.le_refl _) _).alloc (by simp) _
theorem bx_s (w:World) (S:Sp):(bx w S).heap[w.heap.size]?=some (.cells #[.int .i64 S.g,.int .i64 S.p,.int .i64 S.r,.int .i64 S.h,.int .i64 S.b,.int .i64 S.l,.int .i64 S.s,.int .i64 S.f] 28 (0,0)):=heap_alloc2_old w _ _
theorem bx_r (w:World) (S:Sp):(bx w S).heap[w.heap.size+1]?=some (.cells rp0C 41 (0,0)):=heap_alloc2_new w _ _
theorem nothing_end {w w1:World} {cs:Array Value} (hb:Below w.heap.size w w1) (hr:w1.heap[w.heap.size+1]?=some (.cells rp0C 41 (0,0))):
  (StR (.pointer (some ⟨w.heap.size+1,0,none⟩)) (.agg #[.int .i64 0,.int .i64 0,.int .i64 0,.int .i64 0,.int .i64 0,.int .i64 0,.int .i64 0,.int .i64 0,.int .i64 0,.slice none 0 0,.slice none 0 0,.slice none 0 0,.slice none 0 0,.int .i64 0])).run Tryz.prog w1=.ok () (w1.setRow (w.heap.size+1) rp0C)∧(w1.setRow (w.heap.size+1) cs).heap[w.heap.size+1]?=some (.cells cs 41 (0,0))∧Below w.heap.size w (w1.setRow (w.heap.size+1) cs):=
 ⟨StR_run hr rfl rfl (by simp [Value.oneCell']),setRow_heap w1 _ _ _ _ _ hr,((Ch.of (fun _=>False) hb).setRow (.inl (by omega)) _).below (fun k e=>by cases e)⟩
set_option maxRecDepth 20000 in
theorem rwalk_arg (a:Option Addr) (n cap:Nat) (w:World) (S:Sp) (hS:okS S=false):
  Calls Tryz.prog 20 #[.slice a n cap,spV S] w fun e w'=>e=.returned (.tuple #[.agg rp0C,.int .i64 1])∧Below w.heap.size w w':=by
 have C:=rcheck_any S (bx w S);rw [show enE S=1 by unfold enE;rw [hS];rfl] at C;have HB:Hid (Below w.heap.size w (bx w S)∧(bx w S).heap.size=w.heap.size+2∧(bx w S).heap[w.heap.size+1]?=some (.cells rp0C 41 (0,0))):=⟨bx_below w S,bx_size w S,bx_r w S⟩;unfold spV at C ⊢;clear hS;go_enter Tryz.func20,Tryz.ntmps20
 go_wp2_with fail
 refine C.mono ?_;clear C;rintro e w1 ⟨rfl,hb⟩;have hr:=(hb.block (w.heap.size+1) (by have:=HB.out.2.1;omega)).trans HB.out.2.2;have hb1:=HB.out.1.trans (hb.mono HB.out.1.size);obtain ⟨n1,n2,n3⟩:=nothing_end (cs:=rp0C) hb1 hr;have HE:Hid ((w1.setRow (w.heap.size+1) rp0C).heap[w.heap.size+1]?=some (.cells rp0C 41 (0,0))∧Below w.heap.size w (w1.setRow (w.heap.size+1) rp0C)):=⟨n2,n3⟩;clear hb hr hb1 n2 n3 HB;go_wp2;refine bodyPost_ret (results_rowtmp rfl _ _ (w.heap.size+1) _ rp0C (0,0) _ rfl HE.out.1 Tryz.underlying41 rfl (by kernel_rfl)) rfl ?_;exact ⟨rfl,HE.out.2⟩
set_option maxRecDepth 20000 in
theorem rwalk_pages (a:Option Addr) (n cap N:Nat) (hn:n≤maxLen) (hN:n/256=N) (w:World) (S:Sp) (hS:okS S=true) (hp:¬S.p=(N:Int)):
  Calls Tryz.prog 20 #[.slice a n cap,spV S] w fun e w'=>e=.returned (.tuple #[.agg rp0C,.int .i64 8])∧Below w.heap.size w w':=by
 have C:=rcheck_any S (bx w S);rw [show enE S=0 by unfold enE;rw [hS];rfl] at C;have HB:Hid (Below w.heap.size w (bx w S)∧(bx w S).heap.size=w.heap.size+2∧(bx w S).heap[w.heap.size+1]?=some (.cells rp0C 41 (0,0))∧(bx w S).heap[w.heap.size]?=some (.cells #[.int .i64 S.g,.int .i64 S.p,.int .i64 S.r,.int .i64 S.h,.int .i64 S.b,.int .i64 S.l,.int .i64 S.s,.int .i64 S.f] 28 (0,0))):=⟨bx_below w S,bx_size w S,bx_r w S,bx_s w S⟩;unfold maxLen at hn;have hq:(n:Int)/256=(N:Int):=by omega
 have hp1:(S.p==(N:Int))=false:=by rw [beq_eq_false_iff_ne];exact hp
 have hp2:(S.p !=(N:Int))=true:=by unfold bne;rw [hp1];rfl
 unfold spV at C ⊢;clear hS hp hN;go_enter Tryz.func20,Tryz.ntmps20
 go_wp2_with fail
 refine C.mono ?_;clear C;rintro e w1 ⟨rfl,hb⟩;have hr:=(hb.block (w.heap.size+1) (by have:=HB.out.2.1;omega)).trans HB.out.2.2.1;have hs:=(hb.block (w.heap.size) (by have:=HB.out.2.1;omega)).trans HB.out.2.2.2;have s1:w1.cell? ⟨w.heap.size,1,none⟩=some (.int .i64 S.p):=by rw [cell_of_row w1 _ _ _ _ (0,0) hs];rfl
 have hb1:=HB.out.1.trans (hb.mono HB.out.1.size);obtain ⟨n1,n2,n3⟩:=nothing_end (cs:=rp0C) hb1 hr;have HE:Hid ((w1.setRow (w.heap.size+1) rp0C).heap[w.heap.size+1]?=some (.cells rp0C 41 (0,0))∧Below w.heap.size w (w1.setRow (w.heap.size+1) rp0C)):=⟨n2,n3⟩;clear hb hr hs hb1 n2 n3 HB;go_wp2;refine bodyPost_ret (results_rowtmp rfl _ _ (w.heap.size+1) _ rp0C (0,0) _ rfl HE.out.1 Tryz.underlying41 rfl (by kernel_rfl)) rfl ?_;exact ⟨rfl,HE.out.2⟩
end Go.Proofs.YtjllhcifmfhkmaaGreat.Oct
