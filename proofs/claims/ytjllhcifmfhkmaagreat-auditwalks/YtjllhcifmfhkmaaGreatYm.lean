/- Part of a proof. -/
import Derived.Test.YtjllhcifmfhkmaaGreatYa
import Derived.Test.YtjllhcifmfhkmaaGreatKa
import Derived.Test.YtjllhcifmfhkmaaGreatYj
import Derived.Deep.CutBlock
import Derived.Deep.DeepCutAuto
import Derived.Deep.RegionWith
set_option maxHeartbeats 4000000
namespace Go.Proofs.YtjllhcifmfhkmaaGreat.Oct
open Go.RowKit
theorem num_take (zs:List Int) (m p:Nat):∀n,p+n≤m→num (zs.take m) p n=num zs p n:=by
 intro n
 induction n with
 |zero=>intro _;rfl
 |succ n ih=>
  intro h;rw [num_succ,num_succ,ih (by omega)]
  congr 1
  rw [List.getD_eq_getElem?_getD,List.getD_eq_getElem?_getD,List.getElem?_take,if_pos (by omega)]
theorem get_take (zs:List Int) (m p n:Nat) (hn:1≤n) (hn8:n≤8) (h:p+n≤m) (hm:m≤zs.length):getI (zs.take m) p n=getI zs p n∧getB (zs.take m) p n=getB zs p n:=by
 have hl:(zs.take m).length=m:=by rw [List.length_take];omega
 unfold getI getB;rw [hl,ins_yes hn hn8 h,ins_yes hn hn8 (show p+n≤zs.length by omega),if_pos rfl,if_pos rfl,if_pos rfl,if_pos rfl,Int.toNat_natCast,Int.toNat_natCast,num_take zs m p n h];exact ⟨rfl,rfl⟩
theorem rdC_take (t:Bool) (zs:List Int) (h:szC t≤zs.length):rdC t (zs.take (szC t))=rdC t zs:=by
 have g:=fun k (hk:k<4)=>(get_take zs (szC t) (ofC t k) (wdC t k) (wdC_bd t k).1 (wdC_bd t k).2 (ofC_bd t hk) h).1
 unfold rdC;rw [g 0 (by omega),g 1 (by omega),g 2 (by omega),g 3 (by omega)]
theorem okCell_take (t:Bool) (zs:List Int) (h:szC t≤zs.length):okCell t (zs.take (szC t))=okCell t zs:=by
 unfold okCell;rw [rdC_take t zs h,List.take_take,Nat.min_self]
def mixC (T:C4) (k:Nat):C4:=⟨if 0<k then T.a else 0,if 1<k then T.b else 0,if 2<k then T.c else 0,if 3<k then T.d else 0⟩
def Sw4 (w:World) (B:Nat) (q:C4):Prop:=At4 w B 0 q∧∀k,k<4→w.frozen? ⟨B,k,none⟩=false
theorem Sw4.same {w w1:World} {B:Nat} {q:C4} (h:Sw4 w B q) (k:w1.heap[B]?=w.heap[B]?):Sw4 w1 B q:=
 ⟨h.1.same k,fun i hi=>(World.frozen?_of_block k).trans (h.2 i hi)⟩
theorem sw4_new (w:World) (q:C4) (t:TypeId):Sw4 (w.alloc (.cells #[.int .i64 q.a,.int .i64 q.b,.int .i64 q.c,.int .i64 q.d] t)) w.heap.size q:=
 ⟨at4_new w q t,fun k hk=>by rcases four hk with rfl|rfl|rfl|rfl<;>simp⟩
theorem Sw4.put {w:World} {B:Nat} {T:C4} {k:Nat} (h:Sw4 w B (mixC T k)) (hk:k<4):Sw4 (w.setCell ⟨B,k,none⟩ (.int .i64 (atC T k))) B (mixC T (k+1)):=by
 have hc:=h.1.at hk;refine ⟨?_,fun i hi=>by rw [World.frozen?_setCell];exact h.2 i hi⟩
 have key:∀j,j<4→(w.setCell ⟨B,k,none⟩ (.int .i64 (atC T k))).cell? ⟨B,j,none⟩=some (.int .i64 (atC (mixC T (k+1)) j)):=by
  intro j hj;by_cases e:j=k
  ·subst e;rw [World.cell?_setCell_same _ _ _ hc];rcases four hj with rfl|rfl|rfl|rfl<;>rfl
  ·rw [World.cell?_setCell_other _ _ _ _ (by intro e';simp only [Addr.mk.injEq] at e';omega),h.1.at hj]
   have:atC (mixC T k) j=atC (mixC T (k+1)) j:=by
    have st:∀(x:Int) (i:Nat),¬i=k→(if i<k then x else 0)=(if i<k+1 then x else 0):=fun x i hi=>by
     by_cases h1:i<k
     ·rw [if_pos h1,if_pos (by omega)]
     ·rw [if_neg h1,if_neg (by omega)]
    rcases four hj with rfl|rfl|rfl|rfl
    all_goals exact st _ _ e
   rw [this]
 exact ⟨key 0 (by omega),key 1 (by omega),key 2 (by omega),key 3 (by omega)⟩
structure Rdc (w wr:World) (t:Bool) (zs:List Int) (B F k:Nat):Prop where
 yes:∀j,j<k→getB zs (ofC t j:Nat) (wdC t j:Nat)=true
 sw:Sw4 wr B (mixC (rdC t zs) k)
 fd:Fd4 t wr F B
 bel:Below B w wr
 ne:B<F
theorem getC_no {t:Bool} {zs:List Int} (hb:Bys zs) (hl:szC t≤zs.length) {k:Nat} (hk:k<4) (h:getB zs (ofC t k:Nat) (wdC t k:Nat)=false):okCell t zs=false:=by
 have hw:=wdC_bd t k;have ho:=ofC_bd t hk;by_cases h7:wdC t k≤7
 ·rw [getB_yes hb hw.1 h7 (by omega)] at h;cases h
 ·have hk2:t=true∧k=2:=by
   cases t
   ·rcases four hk with rfl|rfl|rfl|rfl<;>exact absurd (by decide) h7
   ·rcases four hk with rfl|rfl|rfl|rfl
    ·exact absurd (by decide) h7
    ·exact absurd (by decide) h7
    ·exact ⟨rfl,rfl⟩
    ·exact absurd (by decide) h7
  obtain ⟨rfl,rfl⟩:=hk2
  have hz:(rdC true zs).c=0:=by
   show getI zs (ofC true 2:Nat) (wdC true 2:Nat)=0;unfold getB at h;unfold getI;rw [ins_yes hw.1 hw.2 (by omega),if_pos rfl] at h;rw [ins_yes hw.1 hw.2 (by omega),if_pos rfl];unfold capB at h;have:=of_decide_eq_false h;exact (cap_no (by omega)).1
  unfold okCell;cases hc:okC true (rdC true zs)
  ·rw [Bool.and_false]
  ·have:=(okC_bd hc).2.2.1;omega
theorem getI_bd {zs:List Int} (h:Bys zs) (p n:Int):0≤getI zs p n∧getI zs p n≤4611686018427387904:=by
 have:=num_bd h p.toNat n.toNat;unfold getI;split
 ·unfold capI;split
  ·omega
  ·omega
 ·omega
theorem rd_wf {t:Bool} {zs:List Int} (h:Bys zs):wfC (rdC t zs):=by
 have g:=fun p n=>getI_bd h p n
 refine ⟨?_,?_,?_,?_⟩
 ·have:=g (ofC t 0:Nat) (wdC t 0:Nat);show wf1 (getI _ _ _);unfold wf1;omega
 ·have:=g (ofC t 1:Nat) (wdC t 1:Nat);show wf1 (getI _ _ _);unfold wf1;omega
 ·have:=g (ofC t 2:Nat) (wdC t 2:Nat);show wf1 (getI _ _ _);unfold wf1;omega
 ·have:=g (ofC t 3:Nat) (wdC t 3:Nat);show wf1 (getI _ _ _);unfold wf1;omega
theorem slot_of {w:World} {R:Nat} (h:Sw4 w R c40):Slot w R (.int .i64 0) (.int .i64 0) (.int .i64 0) (.int .i64 0):=⟨h.1,h.2 0 (by omega),h.2 1 (by omega),h.2 2 (by omega),h.2 3 (by omega)⟩
theorem rd_start (w w2:World) (o:Obj) (ty:TypeId) (W:World) (hW:((w.alloc o).alloc (.cells #[.int .i64 0,.int .i64 0,.int .i64 0,.int .i64 0] ty)).alloc (.cells #[.int .i64 0,.int .i64 0,.int .i64 0,.int .i64 0] ty)=W) (hb:Below W.heap.size W w2):
  W.heap.size=w.heap.size+1+1+1∧Below w.heap.size w W∧Sw4 W (w.heap.size+1) c40∧Sw4 w2 (w.heap.size+1+1) c40∧W.heap[w.heap.size]?=some o:=by
 have hs:W.heap.size=w.heap.size+1+1+1:=by rw [←hW,heap_alloc_size,heap_alloc_size,heap_alloc_size]
 have h1:=sw4_new (w.alloc o) c40 ty;have h2:=sw4_new ((w.alloc o).alloc (.cells #[.int .i64 0,.int .i64 0,.int .i64 0,.int .i64 0] ty)) c40 ty;have e2:((w.alloc o).alloc (.cells #[.int .i64 0,.int .i64 0,.int .i64 0,.int .i64 0] ty)).heap.size=w.heap.size+1+1:=by rw [heap_alloc_size,heap_alloc_size]
 have e1:(w.alloc o).heap.size=w.heap.size+1:=heap_alloc_size _ _;rw [e2,show c40.a=0 from rfl,show c40.b=0 from rfl,show c40.c=0 from rfl,show c40.d=0 from rfl,hW] at h2;rw [e1] at h1;refine ⟨hs,?_,?_,h2.same (hb.block _ (by omega)),?_⟩
 ·rw [←hW];exact (((Below.refl _ w).alloc (Nat.le_refl _) _).alloc (by omega) _).alloc (by omega) _
 ·refine h1.same ?_;rw [←hW];exact heap_alloc_old _ _ (by omega)
 ·rw [←hW,heap_alloc_old _ _ (by omega),heap_alloc_old _ _ (by omega)];exact heap_alloc_new w o
theorem cell_obj {w:World} {B:Nat} {cs:Array Value} {ty:TypeId} (h:w.heap[B]?=some (.cells cs ty)) (j:Nat) (v:Value) (hv:cs[j]?=some v):w.cell? ⟨B,j,none⟩=some v:=by
 unfold World.cell?;rw [h]
 simpa using hv
set_option maxRecDepth 20000 in
theorem pieceRd_v (b off cap:Nat) (zs:List Int) (w:World) (hr:Row w (some ⟨b,off,none⟩) cap zs) (hl:zs.length=12) (V:Bool) (hV:okCell false zs=V):
  Calls Tryz.prog 147 #[.agg #[.int .i64 12,.func (Fn.func 139) #[] #[],.func (Fn.func 140) #[] #[]],.slice (some ⟨b,off,none⟩) 12 cap] w fun e w'=>∃q:C4,e=.returned (.tuple #[.agg #[.int .i64 q.a,.int .i64 q.b,.int .i64 q.c,.int .i64 q.d],.bool V])∧(V=true→q=rdC false zs)∧Below w.heap.size w w':=by
 have HR:Hid (Row w (some ⟨b,off,none⟩) cap zs):=hr;have HL:Hid (zs.length=12):=hl;have hcap:=hr.2.1;have hmx:=hr.2.2.1;unfold maxLen at hmx;rw [hl] at hcap;have HBW:Hid (b<w.heap.size):=block_lt_of_cell (hr.cells 0 (by omega))
 have HN:Hid (∀k,k<4→getB zs (ofC false k:Nat) (wdC false k:Nat)=false→V=false):=fun k hk hf=>by
  rw [←hV];exact getC_no hr.1 (by rw [hl];decide) hk hf
 have HY:Hid (V=(nouB (zs.drop 10)&&okC false (rdC false zs))):=by
  show V=_;rw [←hV];unfold okCell;rw [List.take_of_length_le (by rw [hl];decide)];rfl
 clear hr hl hV;go_enter Tryz.func147,Tryz.ntmps147
 go_wp2_with fail
 refine (pieceFields_v _ _).mono ?_;rintro e w2 ⟨rfl,hfd,hb⟩;obtain ⟨W,hW⟩:∃W,(((w.alloc (.cells #[.int .i64 12,.func (Fn.func 139) #[] #[],.func (Fn.func 140) #[] #[]] 183)).alloc (.cells #[.int .i64 0,.int .i64 0,.int .i64 0,.int .i64 0] 72)).alloc (.cells #[.int .i64 0,.int .i64 0,.int .i64 0,.int .i64 0] 72))=W:=⟨_,rfl⟩;rw [hW] at hfd hb ⊢;obtain ⟨hs,hbw,hR3,hB2,hO3⟩:=rd_start w w2 _ _ W hW hb;have HSZ:Hid (W.heap.size=w.heap.size+1+1+1):=hs;have HBW3:Hid (Below w.heap.size w W):=hbw;have HR3:Hid (Sw4 W (w.heap.size+1) c40):=hR3;have HF3:Hid (W.cell? ⟨w.heap.size,2,none⟩=some (.func (Fn.func 140) #[] #[])):=cell_obj hO3 2 _ rfl;have HC:Hid (Rdc W w2 false zs (w.heap.size+1+1) W.heap.size 0):=⟨fun j hj=>by omega,hB2,hfd,hb.mono (by omega),by omega⟩;have HRW:Hid (Row W (some ⟨b,off,none⟩) cap zs):=HR.out.below hbw;clear hb hfd hs hbw hR3 hB2 hO3 hW HR;go_wp2_with fail
 obtain ⟨F,hF⟩:∃F,W.heap.size=F:=⟨_,rfl⟩;rw [hF] at HC HSZ ⊢;clear hF;go_loopw [7,16] (fun a i wr=>∃k:Nat,k≤4∧a=.int .i64 (ofC false k:Nat)∧i=.int .i64 k∧Rdc W wr false zs (w.heap.size+1+1) F k) (fun _ i _=>4-(intOf i).toNat)
 case atStart=>exact ⟨0,Nat.zero_le _,rfl,rfl,HC.out⟩
 case round=>
  obtain ⟨k,hk,rfl,rfl,hrd⟩:=hrel;clear HC;have HBL:Hid (Below w.heap.size w wr):=HBW3.out.trans (hrd.bel.mono (by omega));have HRR:Hid (Sw4 wr (w.heap.size+1) c40):=HR3.out.same (hrd.bel.block _ (by omega));have HFF:Hid (wr.cell? ⟨w.heap.size,2,none⟩=some (.func (Fn.func 140) #[] #[])):=(hrd.bel.cell (p:=⟨w.heap.size,2,none⟩) (by show w.heap.size<_;omega)).trans HF3.out;have HRZ:Hid (Row wr (some ⟨b,off,none⟩) cap zs):=HRW.out.low (by have:=HBW.out;omega) hrd.bel;have HB2:Hid (w.heap.size+1<w.heap.size+1+1):=by show _<_;omega
  obtain ⟨S,hS⟩:∃S,w.heap.size=S:=⟨_,rfl⟩;rw [hS] at HFF;obtain ⟨R,hR⟩:∃R,w.heap.size+1=R:=⟨_,rfl⟩;rw [hR] at HRR hrd HB2 ⊢;obtain ⟨B,hB⟩:∃B,R+1=B:=⟨_,rfl⟩;rw [hB] at hrd HB2 ⊢;have HWR:Hid (w.heap.size≤R):=by show _≤_;omega
  rw [hS] at ⊢;clear HR3 HF3 HRW;by_cases hlt:k<4
  ·obtain ⟨c0,c1⟩:=hrd.fd k hlt;have hc3:=hrd.sw.1.at hlt;have hz3:=hrd.sw.2 k hlt;have hBw:B<wr.heap.size:=hrd.sw.1.lt;have HSW:Hid (Sw4 wr B (mixC (rdC false zs) k)):=hrd.sw
   have CG:Hid (∀o:Obj,Calls Tryz.prog 103 #[.slice (some ⟨b,off,none⟩) 12 cap,.int .i64 (ofC false k:Nat),.int .i64 (wdC false k:Nat)] (wr.alloc o) fun e w'=>e=.returned (.tuple #[.int .i64 (atC (rdC false zs) k),.bool (getB zs (ofC false k:Nat) (wdC false k:Nat))])∧Below (wr.alloc o).heap.size (wr.alloc o) w'):=fun o=>by
    have:=get_any _ _ _ (ofC false k:Nat) (wdC false k:Nat) _ (HRZ.out.below ((Below.refl _ _).alloc (Nat.le_refl _) o));rw [HL.out,←rdC_at false zs hlt] at this;exact this
   have HX:Hid (∀(w3:World) (o:Obj),Below (wr.alloc o).heap.size (wr.alloc o) w3→getB zs (ofC false k:Nat) (wdC false k:Nat)=true→Rdc W (w3.setCell ⟨B,k,none⟩ (.int .i64 (atC (rdC false zs) k))) false zs B F (k+1)):=fun w3 o hb3 hg=>by
    have hb:Below wr.heap.size wr w3:=((Below.refl _ wr).alloc (Nat.le_refl _) o).trans (hb3.mono (by rw [heap_alloc_size];omega));refine ⟨fun j hj=>?_,(hrd.sw.same (hb.block B hBw)).put hlt,(hrd.fd.below hb).same (Below.heap_setCell _ _ _ _ (by show F≠B;have:=hrd.ne;omega)),?_,hrd.ne⟩
    ·by_cases e:j=k
     ·rw [e];exact hg
     ·exact hrd.yes j (by omega)
    ·exact (hrd.bel.trans (hb.mono (Nat.le_of_lt hBw))).setCell (p:=⟨B,k,none⟩) (Nat.le_refl _) _
   have HNX:Hid (ofC false (k+1)=ofC false k+wdC false k):=ofC_next false hlt;have hob:ofC false k+wdC false k≤12:=ofC_bd false hlt;obtain ⟨qw,hq⟩:∃q,wdC false k=q:=⟨_,rfl⟩;obtain ⟨x,hx⟩:∃x,atC (rdC false zs) k=x:=⟨_,rfl⟩;obtain ⟨y,hy⟩:∃y,atC (mixC (rdC false zs) k) k=y:=⟨_,rfl⟩;obtain ⟨p,hp⟩:∃p,ofC false k=p:=⟨_,rfl⟩;rw [hy] at hc3;cases hg:getB zs (ofC false k:Nat) (wdC false k:Nat)
   ·have ev:=HN.out k hlt hg;subst ev;rw [hg,hq,hx,hp] at CG;rw [hq] at c0;rw [hp];obtain ⟨M,hM⟩:∃M,mixC (rdC false zs) k=M:=⟨_,rfl⟩;rw [hM] at HSW;clear hrd hq hx hp HN HY HX hg HNX hy hM hc3 hz3;go_wp2_with fail
    refine (CG.out _).mono ?_;rintro e w3 ⟨rfl,hb3⟩;have hb:Below wr.heap.size wr w3:=((Below.refl _ wr).alloc (Nat.le_refl _) _).trans (hb3.mono (by rw [heap_alloc_size];omega));have HB3:Hid (Below w.heap.size w w3):=HBL.out.trans (hb.mono HBL.out.size);have hm:=HSW.out.1.below hb;have HRR3:Hid (Sw4 w3 R c40):=HRR.out.same (hb.block _ HRR.out.1.lt);obtain ⟨m0,m1,m2,m3⟩:=hm;obtain ⟨⟨r0,r1,r2,r3⟩,rf⟩:=HRR3.out;have f0:=rf 0 (by omega);have f1:=rf 1 (by omega);have f2:=rf 2 (by omega);have f3:=rf 3 (by omega);dsimp only [c40] at r0 r1 r2 r3;have HSL:Hid (Slot w3 R (.int .i64 0) (.int .i64 0) (.int .i64 0) (.int .i64 0)):=⟨⟨r0,r1,r2,r3⟩,f0,f1,f2,f3⟩;clear hb3 hb rf;go_wp2;clear r0 r1 r2 r3 f0 f1 f2 f3 m0 m1 m2 m3;obtain ⟨⟨q0,q1,q2,q3⟩,_⟩:=HSL.out.wrote (.int .i64 M.a) (.int .i64 M.b) (.int .i64 M.c) (.int .i64 M.d);refine bodyPost_ret (v:=.tuple #[.agg #[.int .i64 M.a,.int .i64 M.b,.int .i64 M.c,.int .i64 M.d],.bool false]) ?_ rfl ⟨M,rfl,(fun h=>by cases h),below_wrote HB3.out HWR.out _ _ _ _⟩;simp [results,Tryz.results147,go_sem,q0,q1,q2,q3]
   ·have HX':Hid (∀(w3:World) (o:Obj),Below (wr.alloc o).heap.size (wr.alloc o) w3→Rdc W (w3.setCell ⟨B,k,none⟩ (.int .i64 (atC (rdC false zs) k))) false zs B F (k+1)):=fun w3 o h=>HX.out w3 o h hg
    rw [hg,hq,hx,hp] at CG;rw [hx] at HX';rw [hq] at c0;rw [hq,hp] at hob HNX;rw [hp];clear hrd hq hx hp hg HN HY HX hy HBL HSW HRR HFF;go_wp2_with fail
    refine (CG.out _).mono ?_;rintro e w3 ⟨rfl,hb3⟩;have HR3:Hid (Rdc W (w3.setCell ⟨B,k,none⟩ (.int .i64 x)) false zs B F (k+1)):=HX'.out w3 _ hb3;have d0:w3.cell? ⟨wr.heap.size,0,none⟩=some (.int .i64 (qw:Int)):=(hb3.cell (p:=⟨wr.heap.size,0,none⟩) (by simp)).trans (by simp);have d1:w3.cell? ⟨wr.heap.size,1,none⟩=some (.pointer (some ⟨B,k,none⟩)):=(hb3.cell (p:=⟨wr.heap.size,1,none⟩) (by simp)).trans (by simp);have d2:w3.cell? ⟨B,k,none⟩=some (.int .i64 y):=(hb3.cell (p:=⟨B,k,none⟩) (by simp;omega)).trans (by rw [World.cell?_alloc_lt _ _ _ hBw];exact hc3);have d3:w3.frozen? ⟨B,k,none⟩=false:=(hb3.frozen (p:=⟨B,k,none⟩) (by simp;omega)).trans ((((Below.refl _ wr).alloc (Nat.le_refl _) _).frozen (p:=⟨B,k,none⟩) hBw).trans hz3);have d4:(w3.setCell ⟨B,k,none⟩ (.int .i64 x)).cell? ⟨wr.heap.size,0,none⟩=some (.int .i64 (qw:Int)):=by rw [World.cell?_setCell_other _ _ _ _ (by intro e';simp only [Addr.mk.injEq] at e';omega)];exact d0
    clear hb3 HX';go_wp2_with fail
    go_roundw
    case rel=>exact ⟨k+1,by omega,by rw [HNX.out];go_num,by go_num,HR3.out⟩
    case measure=>simp [intOf];omega
  ·have hk4:k=4:=by omega
   subst hk4;obtain ⟨Tq,hTq⟩:∃Tq,rdC false zs=Tq:=⟨_,rfl⟩;have hsw:Sw4 wr B (rdC false zs):=hrd.sw;rw [hTq] at hsw HY;have HTQ:Hid (rdC false zs=Tq):=hTq;have HSW:Hid (Sw4 wr B Tq):=hsw;obtain ⟨⟨m0,m1,m2,m3⟩,_⟩:=hsw;obtain ⟨⟨r0,r1,r2,r3⟩,rf⟩:=HRR.out;have f0:=rf 0 (by omega);have f1:=rf 1 (by omega);have f2:=rf 2 (by omega);have f3:=rf 3 (by omega);dsimp only [c40] at r0 r1 r2 r3;have fF:=HFF.out;clear rf hrd HN HFF hTq;have e4:ofC false 4=10:=rfl;rw [e4];clear e4
   have HCF:Hid (Calls Tryz.prog 140 #[.agg #[.int .i64 Tq.a,.int .i64 Tq.b,.int .i64 Tq.c,.int .i64 Tq.d]] wr.drew fun e w'=>e=.returned (.bool (okC false Tq))∧Hid (Sw4 w' B Tq∧Sw4 w' R c40∧Below w.heap.size w w')):=by
    refine (pieceFits_v Tq (by rw [←HTQ.out];exact rd_wf HRZ.out.1) wr.drew _ rfl).mono ?_;rintro e w6 ⟨rfl,hb6⟩;have hb:Below wr.heap.size wr w6:=((Below.refl _ wr).drew).trans hb6;exact ⟨rfl,HSW.out.same (hb.block _ HSW.out.1.lt),HRR.out.same (hb.block _ HRR.out.1.lt),HBL.out.trans (hb.mono HBL.out.size)⟩
   have HSL:Hid (Slot wr R (.int .i64 0) (.int .i64 0) (.int .i64 0) (.int .i64 0)):=⟨⟨r0,r1,r2,r3⟩,f0,f1,f2,f3⟩
   have HCN:Hid (∀w5:World,w5.heap=wr.heap→Calls Tryz.prog 129 #[.slice (some ⟨b,off+10,none⟩) 2 (cap-10)] w5 fun e w'=>e=.returned (.bool (nouB (zs.drop 10)))∧w5=w'):=fun w5 h5=>by
    have hrw:=HRZ.out.drop' 10 (by rw [HL.out];decide)
    have hrw5:Row w5 (some ⟨b,off+10,none⟩) (cap-10) (zs.drop 10):=by
     refine ⟨hrw.1,hrw.2.1,hrw.2.2.1,?_⟩;rcases hrw.2.2.2 with h|⟨b',off',e,hc⟩
     ·exact .inl h
     ·exact .inr ⟨b',off',e,fun i hi=>(World.cell?_of_block (by rw [h5])).trans (hc i hi)⟩
    exact noughts_w _ _ _ _ w5 hrw5 (by rw [List.length_drop,HL.out]) _ rfl
   have h10:¬cap=10:=by omega
   cases hn:nouB (zs.drop 10)
   ·rw [hn] at HCN HY;have ev:V=false:=HY.out;subst ev;go_wp2_with fail
    first|go_region_with (go_at_call 129;refine (HCN.out wr.drew rfl).mono ?_;rintro e w6 ⟨rfl,rfl⟩)|skip
    all_goals
     go_wp2;clear m0 m1 m2 m3 r0 r1 r2 r3 f0 f1 f2 f3 fF;obtain ⟨⟨q0,q1,q2,q3⟩,_⟩:=HSL.out.wrote (.int .i64 Tq.a) (.int .i64 Tq.b) (.int .i64 Tq.c) (.int .i64 Tq.d);refine bodyPost_ret (v:=.tuple #[.agg #[.int .i64 Tq.a,.int .i64 Tq.b,.int .i64 Tq.c,.int .i64 Tq.d],.bool false]) ?_ rfl ⟨Tq,rfl,(fun h=>by cases h),(below_wrote HBL.out HWR.out _ _ _ _).drew⟩;simp [results,Tryz.results147,go_sem,q0,q1,q2,q3]
   ·rw [hn] at HCN HY;have ev:V=okC false Tq:=HY.out;subst ev;go_wp2_with fail
    first|go_region_with (first|(go_at_call 129;refine (HCN.out wr.drew rfl).mono ?_;rintro e w6 ⟨rfl,rfl⟩)|(go_at_call 140;refine Calls.mono HCF.out ?_;rintro e w6 ⟨rfl,H6⟩;have h6:=H6.out;obtain ⟨⟨⟨m0',m1',m2',m3'⟩,_⟩,⟨⟨r0',r1',r2',r3'⟩,rf'⟩,_⟩:=h6;have f0':=rf' 0 (by omega);have f1':=rf' 1 (by omega);have f2':=rf' 2 (by omega);have f3':=rf' 3 (by omega);clear rf';dsimp only [c40] at r0' r1' r2' r3'))|skip
    all_goals
     go_wp2;clear m0 m1 m2 m3 r0 r1 r2 r3 f0 f1 f2 f3 fF m0' m1' m2' m3' r0' r1' r2' r3' f0' f1' f2' f3';obtain ⟨⟨q0,q1,q2,q3⟩,_⟩:=(slot_of H6.out.2.1).wrote (.int .i64 Tq.a) (.int .i64 Tq.b) (.int .i64 Tq.c) (.int .i64 Tq.d);refine bodyPost_ret (v:=.tuple #[.agg #[.int .i64 Tq.a,.int .i64 Tq.b,.int .i64 Tq.c,.int .i64 Tq.d],.bool (okC false Tq)]) ?_ rfl ⟨Tq,rfl,(fun _=>HTQ.out.symm),below_wrote H6.out.2.2 HWR.out _ _ _ _⟩;simp [results,Tryz.results147,go_sem,q0,q1,q2,q3]
set_option maxRecDepth 20000 in
theorem kidRd_v (b off cap:Nat) (zs:List Int) (w:World) (hr:Row w (some ⟨b,off,none⟩) cap zs) (hl:zs.length=20) (V:Bool) (hV:okCell true zs=V):
  Calls Tryz.prog 149 #[.agg #[.int .i64 20,.func (Fn.func 142) #[] #[],.func (Fn.func 143) #[] #[]],.slice (some ⟨b,off,none⟩) 20 cap] w fun e w'=>∃q:C4,e=.returned (.tuple #[.agg #[.int .i64 q.a,.int .i64 q.b,.int .i64 q.c,.int .i64 q.d],.bool V])∧(V=true→q=rdC true zs)∧Below w.heap.size w w':=by
 have HR:Hid (Row w (some ⟨b,off,none⟩) cap zs):=hr;have HL:Hid (zs.length=20):=hl;have hcap:=hr.2.1;have hmx:=hr.2.2.1;unfold maxLen at hmx;rw [hl] at hcap;have HBW:Hid (b<w.heap.size):=block_lt_of_cell (hr.cells 0 (by omega))
 have HN:Hid (∀k,k<4→getB zs (ofC true k:Nat) (wdC true k:Nat)=false→V=false):=fun k hk hf=>by
  rw [←hV];exact getC_no hr.1 (by rw [hl];decide) hk hf
 have HY:Hid (V=(nouB (zs.drop 20)&&okC true (rdC true zs))):=by
  show V=_;rw [←hV];unfold okCell;rw [List.take_of_length_le (by rw [hl];decide)];rfl
 clear hr hl hV;go_enter Tryz.func149,Tryz.ntmps149
 go_wp2_with fail
 refine (kidFields_v _ _).mono ?_;rintro e w2 ⟨rfl,hfd,hb⟩;obtain ⟨W,hW⟩:∃W,(((w.alloc (.cells #[.int .i64 20,.func (Fn.func 142) #[] #[],.func (Fn.func 143) #[] #[]] 188)).alloc (.cells #[.int .i64 0,.int .i64 0,.int .i64 0,.int .i64 0] 130)).alloc (.cells #[.int .i64 0,.int .i64 0,.int .i64 0,.int .i64 0] 130))=W:=⟨_,rfl⟩;rw [hW] at hfd hb ⊢;obtain ⟨hs,hbw,hR3,hB2,hO3⟩:=rd_start w w2 _ _ W hW hb;have HSZ:Hid (W.heap.size=w.heap.size+1+1+1):=hs;have HBW3:Hid (Below w.heap.size w W):=hbw;have HR3:Hid (Sw4 W (w.heap.size+1) c40):=hR3;have HF3:Hid (W.cell? ⟨w.heap.size,2,none⟩=some (.func (Fn.func 143) #[] #[])):=cell_obj hO3 2 _ rfl;have HC:Hid (Rdc W w2 true zs (w.heap.size+1+1) W.heap.size 0):=⟨fun j hj=>by omega,hB2,hfd,hb.mono (by omega),by omega⟩;have HRW:Hid (Row W (some ⟨b,off,none⟩) cap zs):=HR.out.below hbw;clear hb hfd hs hbw hR3 hB2 hO3 hW HR;go_wp2_with fail
 obtain ⟨F,hF⟩:∃F,W.heap.size=F:=⟨_,rfl⟩;rw [hF] at HC HSZ ⊢;clear hF;go_loopw [7,16] (fun a i wr=>∃k:Nat,k≤4∧a=.int .i64 (ofC true k:Nat)∧i=.int .i64 k∧Rdc W wr true zs (w.heap.size+1+1) F k) (fun _ i _=>4-(intOf i).toNat)
 case atStart=>exact ⟨0,Nat.zero_le _,rfl,rfl,HC.out⟩
 case round=>
  obtain ⟨k,hk,rfl,rfl,hrd⟩:=hrel;clear HC;have HBL:Hid (Below w.heap.size w wr):=HBW3.out.trans (hrd.bel.mono (by omega));have HRR:Hid (Sw4 wr (w.heap.size+1) c40):=HR3.out.same (hrd.bel.block _ (by omega));have HFF:Hid (wr.cell? ⟨w.heap.size,2,none⟩=some (.func (Fn.func 143) #[] #[])):=(hrd.bel.cell (p:=⟨w.heap.size,2,none⟩) (by show w.heap.size<_;omega)).trans HF3.out;have HRZ:Hid (Row wr (some ⟨b,off,none⟩) cap zs):=HRW.out.low (by have:=HBW.out;omega) hrd.bel;have HB2:Hid (w.heap.size+1<w.heap.size+1+1):=by show _<_;omega
  obtain ⟨S,hS⟩:∃S,w.heap.size=S:=⟨_,rfl⟩;rw [hS] at HFF;obtain ⟨R,hR⟩:∃R,w.heap.size+1=R:=⟨_,rfl⟩;rw [hR] at HRR hrd HB2 ⊢;obtain ⟨B,hB⟩:∃B,R+1=B:=⟨_,rfl⟩;rw [hB] at hrd HB2 ⊢;have HWR:Hid (w.heap.size≤R):=by show _≤_;omega
  rw [hS] at ⊢;clear HR3 HF3 HRW;by_cases hlt:k<4
  ·obtain ⟨c0,c1⟩:=hrd.fd k hlt;have hc3:=hrd.sw.1.at hlt;have hz3:=hrd.sw.2 k hlt;have hBw:B<wr.heap.size:=hrd.sw.1.lt;have HSW:Hid (Sw4 wr B (mixC (rdC true zs) k)):=hrd.sw
   have CG:Hid (∀o:Obj,Calls Tryz.prog 103 #[.slice (some ⟨b,off,none⟩) 20 cap,.int .i64 (ofC true k:Nat),.int .i64 (wdC true k:Nat)] (wr.alloc o) fun e w'=>e=.returned (.tuple #[.int .i64 (atC (rdC true zs) k),.bool (getB zs (ofC true k:Nat) (wdC true k:Nat))])∧Below (wr.alloc o).heap.size (wr.alloc o) w'):=fun o=>by
    have:=get_any _ _ _ (ofC true k:Nat) (wdC true k:Nat) _ (HRZ.out.below ((Below.refl _ _).alloc (Nat.le_refl _) o));rw [HL.out,←rdC_at true zs hlt] at this;exact this
   have HX:Hid (∀(w3:World) (o:Obj),Below (wr.alloc o).heap.size (wr.alloc o) w3→getB zs (ofC true k:Nat) (wdC true k:Nat)=true→Rdc W (w3.setCell ⟨B,k,none⟩ (.int .i64 (atC (rdC true zs) k))) true zs B F (k+1)):=fun w3 o hb3 hg=>by
    have hb:Below wr.heap.size wr w3:=((Below.refl _ wr).alloc (Nat.le_refl _) o).trans (hb3.mono (by rw [heap_alloc_size];omega));refine ⟨fun j hj=>?_,(hrd.sw.same (hb.block B hBw)).put hlt,(hrd.fd.below hb).same (Below.heap_setCell _ _ _ _ (by show F≠B;have:=hrd.ne;omega)),?_,hrd.ne⟩
    ·by_cases e:j=k
     ·rw [e];exact hg
     ·exact hrd.yes j (by omega)
    ·exact (hrd.bel.trans (hb.mono (Nat.le_of_lt hBw))).setCell (p:=⟨B,k,none⟩) (Nat.le_refl _) _
   have HNX:Hid (ofC true (k+1)=ofC true k+wdC true k):=ofC_next true hlt;have hob:ofC true k+wdC true k≤20:=ofC_bd true hlt;obtain ⟨qw,hq⟩:∃q,wdC true k=q:=⟨_,rfl⟩;obtain ⟨x,hx⟩:∃x,atC (rdC true zs) k=x:=⟨_,rfl⟩;obtain ⟨y,hy⟩:∃y,atC (mixC (rdC true zs) k) k=y:=⟨_,rfl⟩;obtain ⟨p,hp⟩:∃p,ofC true k=p:=⟨_,rfl⟩;rw [hy] at hc3;cases hg:getB zs (ofC true k:Nat) (wdC true k:Nat)
   ·have ev:=HN.out k hlt hg;subst ev;rw [hg,hq,hx,hp] at CG;rw [hq] at c0;rw [hp];obtain ⟨M,hM⟩:∃M,mixC (rdC true zs) k=M:=⟨_,rfl⟩;rw [hM] at HSW;clear hrd hq hx hp HN HY HX hg HNX hy hM hc3 hz3;go_wp2_with fail
    refine (CG.out _).mono ?_;rintro e w3 ⟨rfl,hb3⟩;have hb:Below wr.heap.size wr w3:=((Below.refl _ wr).alloc (Nat.le_refl _) _).trans (hb3.mono (by rw [heap_alloc_size];omega));have HB3:Hid (Below w.heap.size w w3):=HBL.out.trans (hb.mono HBL.out.size);have hm:=HSW.out.1.below hb;have HRR3:Hid (Sw4 w3 R c40):=HRR.out.same (hb.block _ HRR.out.1.lt);obtain ⟨m0,m1,m2,m3⟩:=hm;obtain ⟨⟨r0,r1,r2,r3⟩,rf⟩:=HRR3.out;have f0:=rf 0 (by omega);have f1:=rf 1 (by omega);have f2:=rf 2 (by omega);have f3:=rf 3 (by omega);dsimp only [c40] at r0 r1 r2 r3;have HSL:Hid (Slot w3 R (.int .i64 0) (.int .i64 0) (.int .i64 0) (.int .i64 0)):=⟨⟨r0,r1,r2,r3⟩,f0,f1,f2,f3⟩;clear hb3 hb rf;go_wp2;clear r0 r1 r2 r3 f0 f1 f2 f3 m0 m1 m2 m3;obtain ⟨⟨q0,q1,q2,q3⟩,_⟩:=HSL.out.wrote (.int .i64 M.a) (.int .i64 M.b) (.int .i64 M.c) (.int .i64 M.d);refine bodyPost_ret (v:=.tuple #[.agg #[.int .i64 M.a,.int .i64 M.b,.int .i64 M.c,.int .i64 M.d],.bool false]) ?_ rfl ⟨M,rfl,(fun h=>by cases h),below_wrote HB3.out HWR.out _ _ _ _⟩;simp [results,Tryz.results149,go_sem,q0,q1,q2,q3]
   ·have HX':Hid (∀(w3:World) (o:Obj),Below (wr.alloc o).heap.size (wr.alloc o) w3→Rdc W (w3.setCell ⟨B,k,none⟩ (.int .i64 (atC (rdC true zs) k))) true zs B F (k+1)):=fun w3 o h=>HX.out w3 o h hg
    rw [hg,hq,hx,hp] at CG;rw [hx] at HX';rw [hq] at c0;rw [hq,hp] at hob HNX;rw [hp];clear hrd hq hx hp hg HN HY HX hy HBL HSW HRR HFF;go_wp2_with fail
    refine (CG.out _).mono ?_;rintro e w3 ⟨rfl,hb3⟩;have HR3:Hid (Rdc W (w3.setCell ⟨B,k,none⟩ (.int .i64 x)) true zs B F (k+1)):=HX'.out w3 _ hb3;have d0:w3.cell? ⟨wr.heap.size,0,none⟩=some (.int .i64 (qw:Int)):=(hb3.cell (p:=⟨wr.heap.size,0,none⟩) (by simp)).trans (by simp);have d1:w3.cell? ⟨wr.heap.size,1,none⟩=some (.pointer (some ⟨B,k,none⟩)):=(hb3.cell (p:=⟨wr.heap.size,1,none⟩) (by simp)).trans (by simp);have d2:w3.cell? ⟨B,k,none⟩=some (.int .i64 y):=(hb3.cell (p:=⟨B,k,none⟩) (by simp;omega)).trans (by rw [World.cell?_alloc_lt _ _ _ hBw];exact hc3);have d3:w3.frozen? ⟨B,k,none⟩=false:=(hb3.frozen (p:=⟨B,k,none⟩) (by simp;omega)).trans ((((Below.refl _ wr).alloc (Nat.le_refl _) _).frozen (p:=⟨B,k,none⟩) hBw).trans hz3);have d4:(w3.setCell ⟨B,k,none⟩ (.int .i64 x)).cell? ⟨wr.heap.size,0,none⟩=some (.int .i64 (qw:Int)):=by rw [World.cell?_setCell_other _ _ _ _ (by intro e';simp only [Addr.mk.injEq] at e';omega)];exact d0
    clear hb3 HX';go_wp2_with fail
    go_roundw
    case rel=>exact ⟨k+1,by omega,by rw [HNX.out];go_num,by go_num,HR3.out⟩
    case measure=>simp [intOf];omega
  ·have hk4:k=4:=by omega
   subst hk4;obtain ⟨Tq,hTq⟩:∃Tq,rdC true zs=Tq:=⟨_,rfl⟩;have hsw:Sw4 wr B (rdC true zs):=hrd.sw;rw [hTq] at hsw HY;have HTQ:Hid (rdC true zs=Tq):=hTq;have HSW:Hid (Sw4 wr B Tq):=hsw;obtain ⟨⟨m0,m1,m2,m3⟩,_⟩:=hsw;obtain ⟨⟨r0,r1,r2,r3⟩,rf⟩:=HRR.out;have f0:=rf 0 (by omega);have f1:=rf 1 (by omega);have f2:=rf 2 (by omega);have f3:=rf 3 (by omega);dsimp only [c40] at r0 r1 r2 r3;have fF:=HFF.out;clear rf hrd HN HFF hTq;have e4:ofC true 4=20:=rfl;rw [e4];clear e4
   have HCF:Hid (Calls Tryz.prog 143 #[.agg #[.int .i64 Tq.a,.int .i64 Tq.b,.int .i64 Tq.c,.int .i64 Tq.d]] wr.drew fun e w'=>e=.returned (.bool (okC true Tq))∧Hid (Sw4 w' B Tq∧Sw4 w' R c40∧Below w.heap.size w w')):=by
    refine (kidFits_v Tq (by rw [←HTQ.out];exact rd_wf HRZ.out.1) wr.drew _ rfl).mono ?_;rintro e w6 ⟨rfl,hb6⟩;have hb:Below wr.heap.size wr w6:=((Below.refl _ wr).drew).trans hb6;exact ⟨rfl,HSW.out.same (hb.block _ HSW.out.1.lt),HRR.out.same (hb.block _ HRR.out.1.lt),HBL.out.trans (hb.mono HBL.out.size)⟩
   have HSL:Hid (Slot wr R (.int .i64 0) (.int .i64 0) (.int .i64 0) (.int .i64 0)):=⟨⟨r0,r1,r2,r3⟩,f0,f1,f2,f3⟩;have hn:nouB (zs.drop 20)=true:=by rw [List.drop_of_length_le (by rw [HL.out];exact Nat.le_refl _)];rfl
   rw [hn] at HY;have ev:V=okC true Tq:=HY.out;subst ev;by_cases h10:cap=20
   ·subst h10;have HCN:Hid (∀w5:World,w5.heap=wr.heap→Calls Tryz.prog 129 #[.slice (some ⟨b,off,none⟩) 0 0] w5 fun e w'=>e=.returned (.bool true)∧w5=w'):=fun w5 _=>noughts_e (some ⟨b,off,none⟩) 0 w5
    go_wp2_with fail
    first|go_region_with (first|(go_at_call 129;refine (HCN.out wr.drew rfl).mono ?_;rintro e w6 ⟨rfl,rfl⟩)|(go_at_call 143;refine Calls.mono HCF.out ?_;rintro e w6 ⟨rfl,H6⟩;have h6:=H6.out;obtain ⟨⟨⟨m0',m1',m2',m3'⟩,_⟩,⟨⟨r0',r1',r2',r3'⟩,rf'⟩,_⟩:=h6;have f0':=rf' 0 (by omega);have f1':=rf' 1 (by omega);have f2':=rf' 2 (by omega);have f3':=rf' 3 (by omega);clear rf';dsimp only [c40] at r0' r1' r2' r3'))|skip
    all_goals
     go_wp2;clear m0 m1 m2 m3 r0 r1 r2 r3 f0 f1 f2 f3 fF m0' m1' m2' m3' r0' r1' r2' r3' f0' f1' f2' f3';obtain ⟨⟨q0,q1,q2,q3⟩,_⟩:=(slot_of H6.out.2.1).wrote (.int .i64 Tq.a) (.int .i64 Tq.b) (.int .i64 Tq.c) (.int .i64 Tq.d);refine bodyPost_ret (v:=.tuple #[.agg #[.int .i64 Tq.a,.int .i64 Tq.b,.int .i64 Tq.c,.int .i64 Tq.d],.bool (okC true Tq)]) ?_ rfl ⟨Tq,rfl,(fun _=>HTQ.out.symm),below_wrote H6.out.2.2 HWR.out _ _ _ _⟩;simp [results,Tryz.results149,go_sem,q0,q1,q2,q3]
   ·have HCN:Hid (∀w5:World,w5.heap=wr.heap→Calls Tryz.prog 129 #[.slice (some ⟨b,off+20,none⟩) 0 (cap-20)] w5 fun e w'=>e=.returned (.bool true)∧w5=w'):=fun w5 _=>noughts_e (some ⟨b,off+20,none⟩) (cap-20) w5
    go_wp2_with fail
    first|go_region_with (first|(go_at_call 129;refine (HCN.out wr.drew rfl).mono ?_;rintro e w6 ⟨rfl,rfl⟩)|(go_at_call 143;refine Calls.mono HCF.out ?_;rintro e w6 ⟨rfl,H6⟩;have h6:=H6.out;obtain ⟨⟨⟨m0',m1',m2',m3'⟩,_⟩,⟨⟨r0',r1',r2',r3'⟩,rf'⟩,_⟩:=h6;have f0':=rf' 0 (by omega);have f1':=rf' 1 (by omega);have f2':=rf' 2 (by omega);have f3':=rf' 3 (by omega);clear rf';dsimp only [c40] at r0' r1' r2' r3'))|skip
    all_goals
     go_wp2;clear m0 m1 m2 m3 r0 r1 r2 r3 f0 f1 f2 f3 fF m0' m1' m2' m3' r0' r1' r2' r3' f0' f1' f2' f3';obtain ⟨⟨q0,q1,q2,q3⟩,_⟩:=(slot_of H6.out.2.1).wrote (.int .i64 Tq.a) (.int .i64 Tq.b) (.int .i64 Tq.c) (.int .i64 Tq.d);refine bodyPost_ret (v:=.tuple #[.agg #[.int .i64 Tq.a,.int .i64 Tq.b,.int .i64 Tq.c,.int .i64 Tq.d],.bool (okC true Tq)]) ?_ rfl ⟨Tq,rfl,(fun _=>HTQ.out.symm),below_wrote H6.out.2.2 HWR.out _ _ _ _⟩;simp [results,Tryz.results149,go_sem,q0,q1,q2,q3]
theorem cell_wrote (w:World) (B:Nat) (y0 y1 y2 y3:Value) (a j:Nat) (h:a≠B):
  ((((w.setCell ⟨B,0,none⟩ y0).setCell ⟨B,1,none⟩ y1).setCell ⟨B,2,none⟩ y2).setCell ⟨B,3,none⟩ y3).cell? ⟨a,j,none⟩=w.cell? ⟨a,j,none⟩:=by
 refine World.cell?_of_block ?_;have ne:∀i,a≠(⟨B,i,none⟩:Addr).block:=fun i=>h
 show (World.heap _)[a]?=w.heap[a]?;rw [Below.heap_setCell _ _ _ _ (ne 3),Below.heap_setCell _ _ _ _ (ne 2),Below.heap_setCell _ _ _ _ (ne 1),Below.heap_setCell _ _ _ _ (ne 0)]
theorem append_c4n (tS tE:TypeId) (hu:Tryz.prog.underlying tS=some (.slice tE)) (hinfo:(Tryz.prog.info? tE).map (fun i=>(i.zero,i.size,i.bytes))=some (some zero4,4,32))
  {w:World} {ops:Array Oper} {rest:List Oper} {o:Oper} {a:Act} {Q:Exit→Act→World→Prop} (hgd:o.guard=none) (s x:Operand)
  (ho:o.op=.call {callee:=.builtin .append,args:= #[s,x],argTypes:= #[tS,tS]})
  (base:Nat) (v:Value) (l:List C4) (hs:a.eval s=v) (hown:OwnC tE base w v l) (q:C4) (B:Nat) (hx:a.eval x=.slice (some ⟨B,0,none⟩) 1 1) (hq:At4 w B 0 q)
  (hsz:l.length≤1000000) (hbase:base≤w.heap.size) (n:Nat) (hn:l.length=n) (L:List C4) (hL:l++[q]=L)
  (h:∀b c w',OwnC tE base w' (.slice b (n+1) c) L→Below base w w'→wpList Tryz.prog ops Q rest (a.put o.dst (.slice b (n+1) c)) w'):wpList Tryz.prog ops Q (o::rest) a w:=by
 subst hn;subst hL;exact append_c4 tS tE hu hinfo hgd s x ho base v l hs hown q B hx hq hsz hbase h
theorem okL_yes {t:Bool} {zs:List Int} {n:Nat} (h:∀j,j<n→okAt t zs j=true):okL t zs n=true:=okL_all.2 h
set_option maxRecDepth 20000 in
theorem pieceRds_v (b off cap n:Nat) (zs:List Int) (w:World) (hr:Row w (some ⟨b,off,none⟩) cap zs) (hl:zs.length=248) (hn:n≤20) (V:Bool) (hV:(okL false zs n&&nouB (zs.drop (n*12)))=V):
  Calls Tryz.prog 138 #[.agg #[.int .i64 12,.func (Fn.func 139) #[] #[],.func (Fn.func 140) #[] #[]],.int .i64 n,.slice (some ⟨b,off,none⟩) 248 cap] w fun e w'=>∃g m c,e=.returned (.tuple #[.slice g m c,.bool V])∧(V=true→m=n∧OwnC 72 w.heap.size w' (.slice g m c) (rdL false zs n))∧Below w.heap.size w w':=by
 have HR:Hid (Row w (some ⟨b,off,none⟩) cap zs):=hr;have HL:Hid (zs.length=248):=hl;have hcap:=hr.2.1;have hmx:=hr.2.2.1;unfold maxLen at hmx;rw [hl] at hcap;have HN:Hid (∀j,j<n→okAt false zs j=false→V=false):=fun j hj h=>by rw [←hV,okL_no hj h];rfl
 have HY:Hid ((∀j,j<n→okAt false zs j=true)→V=nouB (zs.drop (n*12))):=fun h=>by rw [←hV,okL_yes h,Bool.true_and]
 clear hr hl hV;obtain ⟨i0,hi0,hz0,hz1,hz2⟩:=info_parts infoP;go_enter Tryz.func138,Tryz.ntmps138
 go_wp2_with (at_make;refine wpList_make_own _ rfl _ _ 29 rfl (w.heap.size+1) 72 i0 zero4 4 Tryz.underlying29 hi0 hz0 hz1 .i64 .i64 _ n rfl rfl rfl (by rw [hz2];omega) (by unfold maxLen;omega) (by rw [heap_alloc_size];exact Nat.le_refl _) ?_;intro w1 hown1 hgrow1)
 obtain ⟨W,hW⟩:∃W,w.alloc (.cells #[.int .i64 12,.func (Fn.func 139) #[] #[],.func (Fn.func 140) #[] #[]] 183)=W:=⟨_,rfl⟩;have hs:W.heap.size=w.heap.size+1:=by rw [←hW];exact heap_alloc_size _ _
 have hO3:W.heap[w.heap.size]?=some (.cells #[.int .i64 12,.func (Fn.func 139) #[] #[],.func (Fn.func 140) #[] #[]] 183):=by rw [←hW];exact heap_alloc_new _ _
 have HBW:Hid (Below w.heap.size w W):=by rw [←hW];exact (Below.refl _ w).alloc (Nat.le_refl _) _
 rw [hW] at hown1 hgrow1;have HB1:Hid (Below W.heap.size W w1):=(Below.refl _ _).grown hgrow1 (Nat.le_refl _) (by simp);have HO1:Hid (OwnC 72 W.heap.size w1 (.slice (some ⟨w.heap.size+1,0,none⟩) 0 n) []):=by rw [hs] at hown1 ⊢;exact hown1
 have HP0:Hid (W.cell? ⟨w.heap.size,0,none⟩=some (.int .i64 12)):=cell_obj hO3 0 _ rfl;have HP1:Hid (W.cell? ⟨w.heap.size,1,none⟩=some (.func (Fn.func 139) #[] #[])):=cell_obj hO3 1 _ rfl;have HP2:Hid (W.cell? ⟨w.heap.size,2,none⟩=some (.func (Fn.func 140) #[] #[])):=cell_obj hO3 2 _ rfl;have HSW:Hid (w.heap.size<W.heap.size):=by show _<_;omega
 have HRW:Hid (Row W (some ⟨b,off,none⟩) cap zs):=HR.out.below HBW.out;clear hown1 hgrow1 hO3 hW hs hi0 hz0 hz1 hz2 HR;go_wp2_with fail
 go_loopw [2,8,14] (fun bd ls i wr=>∃(k:Nat) (g:Option Addr) (c:Nat),k≤n∧bd=.slice (some ⟨b,off+k*12,none⟩) (248-k*12) (cap-k*12)∧ls=.slice g k c∧i=.int .i64 k∧Hid (∀j,j<k→okAt false zs j=true)∧Hid (OwnC 72 W.heap.size wr (.slice g k c) (rdL false zs k))∧Hid (Below W.heap.size W wr)) (fun _ _ i _=>n-(intOf i).toNat)
 case atStart=>exact ⟨0,_,_,Nat.zero_le _,by rw [Nat.zero_mul];rfl,rfl,rfl,fun j hj=>by omega,HO1.out,HB1.out⟩
 case round=>
  obtain ⟨k,g,c,hk,rfl,rfl,rfl,HJ,HO,HBR⟩:=hrel;clear HO1 HB1;have p0:=(HBR.out.cell (p:=⟨w.heap.size,0,none⟩) HSW.out).trans HP0.out;have p1:=(HBR.out.cell (p:=⟨w.heap.size,1,none⟩) HSW.out).trans HP1.out;have p2:=(HBR.out.cell (p:=⟨w.heap.size,2,none⟩) HSW.out).trans HP2.out;have HRR:Hid (Row wr (some ⟨b,off+k*12,none⟩) (cap-k*12) (zs.drop (k*12))):=(HRW.out.below HBR.out).drop' (k*12) (by rw [HL.out];omega);have HBWR:Hid (Below w.heap.size w wr):=HBW.out.trans (HBR.out.mono HBW.out.size);by_cases hlt:k<n
  ·have HNX:Hid (∃o2 m2 c2,off+k*12=o2∧248-k*12=m2∧cap-k*12=c2∧12<m2∧m2≤c2∧c2≤cap∧off+(k+1)*12=o2+12∧248-(k+1)*12=m2-12∧cap-(k+1)*12=c2-12):=⟨_,_,_,rfl,rfl,rfl,by omega,by omega,by omega,by omega,by omega,by omega⟩;obtain ⟨o2,m2,c2,eo,em,ec,hm2,hmc,hcc,eo',em',ec'⟩:=HNX.out;have HE:Hid (off+(k+1)*12=o2+12∧248-(k+1)*12=m2-12∧cap-(k+1)*12=c2-12):=⟨eo',em',ec'⟩;have HLD:Hid (12≤(zs.drop (k*12)).length):=by show _≤_;rw [List.length_drop,HL.out];omega
   rw [eo,ec] at HRR;rw [eo,em,ec];clear eo em ec eo' em' ec' HNX;obtain ⟨V2,hV2⟩:∃V2,okAt false zs k=V2:=⟨_,rfl⟩
   have HRC:Hid (∀w5,Below wr.heap.size wr w5→Calls Tryz.prog 147 #[.agg #[.int .i64 12,.func (Fn.func 139) #[] #[],.func (Fn.func 140) #[] #[]],.slice (some ⟨b,o2,none⟩) 12 c2] w5 fun e w'=>∃q:C4,e=.returned (.tuple #[.agg #[.int .i64 q.a,.int .i64 q.b,.int .i64 q.c,.int .i64 q.d],.bool V2])∧Hid (V2=true→q=cellAt false zs k)∧Hid (Below wr.heap.size wr w')∧w'.cell? ⟨w.heap.size,0,none⟩=some (.int .i64 12)∧w'.cell? ⟨w.heap.size,1,none⟩=some (.func (Fn.func 139) #[] #[])∧w'.cell? ⟨w.heap.size,2,none⟩=some (.func (Fn.func 140) #[] #[])∧(wr.heap.size<w5.heap.size→w'.cell? ⟨wr.heap.size,0,none⟩=w5.cell? ⟨wr.heap.size,0,none⟩)∧(wr.heap.size<w5.heap.size→w'.cell? ⟨wr.heap.size,1,none⟩=w5.cell? ⟨wr.heap.size,1,none⟩)∧(wr.heap.size<w5.heap.size→w'.cell? ⟨wr.heap.size,2,none⟩=w5.cell? ⟨wr.heap.size,2,none⟩)∧(wr.heap.size<w5.heap.size→w'.cell? ⟨wr.heap.size,3,none⟩=w5.cell? ⟨wr.heap.size,3,none⟩)∧(wr.heap.size<w5.heap.size→w'.frozen? ⟨wr.heap.size,0,none⟩=w5.frozen? ⟨wr.heap.size,0,none⟩)∧(wr.heap.size<w5.heap.size→w'.frozen? ⟨wr.heap.size,1,none⟩=w5.frozen? ⟨wr.heap.size,1,none⟩)∧(wr.heap.size<w5.heap.size→w'.frozen? ⟨wr.heap.size,2,none⟩=w5.frozen? ⟨wr.heap.size,2,none⟩)∧(wr.heap.size<w5.heap.size→w'.frozen? ⟨wr.heap.size,3,none⟩=w5.frozen? ⟨wr.heap.size,3,none⟩)):=fun w5 hb5=>by
    have hrow:Row w5 (some ⟨b,o2,none⟩) c2 ((zs.drop (k*12)).take 12):=(HRR.out.below hb5).take' 12 c2 HLD.out (by omega) (Nat.le_refl _);refine (pieceRd_v b o2 c2 ((zs.drop (k*12)).take 12) w5 hrow (by rw [List.length_take];have:=HLD.out;omega) V2 (by rw [←hV2];exact okCell_take false _ HLD.out)).mono ?_;rintro e w' ⟨q,rfl,h3,hb⟩;have hb':Below wr.heap.size wr w':=hb5.trans (hb.mono hb5.size);have hlt':=Nat.lt_of_lt_of_le HSW.out HBR.out.size;refine ⟨q,rfl,fun hv=>?_,hb',(hb'.cell (p:=⟨w.heap.size,0,none⟩) hlt').trans p0,(hb'.cell (p:=⟨w.heap.size,1,none⟩) hlt').trans p1,(hb'.cell (p:=⟨w.heap.size,2,none⟩) hlt').trans p2,fun h=>hb.cell (p:=⟨wr.heap.size,0,none⟩) h,fun h=>hb.cell (p:=⟨wr.heap.size,1,none⟩) h,fun h=>hb.cell (p:=⟨wr.heap.size,2,none⟩) h,fun h=>hb.cell (p:=⟨wr.heap.size,3,none⟩) h,fun h=>hb.frozen (p:=⟨wr.heap.size,0,none⟩) h,fun h=>hb.frozen (p:=⟨wr.heap.size,1,none⟩) h,fun h=>hb.frozen (p:=⟨wr.heap.size,2,none⟩) h,fun h=>hb.frozen (p:=⟨wr.heap.size,3,none⟩) h⟩;rw [h3 hv];exact rdC_take false _ HLD.out
   have HN2:Hid (V2=false→V=false):=fun h=>HN.out k hlt (by rw [hV2];exact h)
   have HJ2:Hid (V2=true→∀j,j<k+1→okAt false zs j=true):=fun h j hj=>by
    by_cases ej:j=k
    ·rw [ej,hV2];exact h
    ·exact HJ.out j (by omega)
   have hne:¬c2=12:=by omega
   have hle:12≤c2:=by omega
   have hlm:12≤m2:=by omega
   have pa0:(wr.alloc (.cells #[.int .i64 0,.int .i64 0,.int .i64 0,.int .i64 0] 72)).cell? ⟨w.heap.size,0,none⟩=some (.int .i64 12):=by rw [World.cell?_alloc_lt _ _ _ (Nat.lt_of_lt_of_le HSW.out HBR.out.size)];exact p0
   have pa1:(wr.alloc (.cells #[.int .i64 0,.int .i64 0,.int .i64 0,.int .i64 0] 72)).cell? ⟨w.heap.size,1,none⟩=some (.func (Fn.func 139) #[] #[]):=by rw [World.cell?_alloc_lt _ _ _ (Nat.lt_of_lt_of_le HSW.out HBR.out.size)];exact p1
   have pa2:(wr.alloc (.cells #[.int .i64 0,.int .i64 0,.int .i64 0,.int .i64 0] 72)).cell? ⟨w.heap.size,2,none⟩=some (.func (Fn.func 140) #[] #[]):=by rw [World.cell?_alloc_lt _ _ _ (Nat.lt_of_lt_of_le HSW.out HBR.out.size)];exact p2
   have HNE:Hid (w.heap.size≠wr.heap.size):=Nat.ne_of_lt (Nat.lt_of_lt_of_le HSW.out HBR.out.size);have hi1:(12:Int)≤(c2:Int):=by omega
   have hne0:¬c2=0:=by omega
   have hi2:(12:Int)≤(m2:Int):=by omega
   clear hV2 HN HJ;go_upto_region 4 with fail
   go_cut [9,10] (fun s9 s10 wx=>∃(B9:Nat) (q:C4),s9=.pointer (some ⟨B9,0,none⟩)∧s10=.bool V2∧Hid (At4 wx B9 0 q∧Below wr.heap.size wr wx∧(V2=true→q=cellAt false zs k)))
   case first=>
    go_region_held3 (fun u=>u.cell? ⟨w.heap.size,0,none⟩=some (.int .i64 12)∧u.cell? ⟨w.heap.size,1,none⟩=some (.func (Fn.func 139) #[] #[])∧u.cell? ⟨w.heap.size,2,none⟩=some (.func (Fn.func 140) #[] #[])) (first|with_reducible exact ⟨s0,s1,s2⟩|with_reducible exact ⟨(cell_wrote _ _ _ _ _ _ _ _ HNE.out).trans s0,(cell_wrote _ _ _ _ _ _ _ _ HNE.out).trans s1,(cell_wrote _ _ _ _ _ _ _ _ HNE.out).trans s2⟩|go_keep) ((go_at_call 147;refine Calls.mono (HRC.out _ ?_) ?_;(first|exact (Below.refl _ wr).drew|exact ((Below.refl _ wr).alloc (Nat.le_refl _) _).drew);rintro e w6 ⟨q,rfl,HQ,HB7,s0,s1,s2,n0,n1,n2,n3,g0,g1,g2,g3⟩;simp at n0 n1 n2 n3 g0 g1 g2 g3))
    ·go_wp2_with fail
     go_meet
     exact ⟨w6.heap.size,q,rfl,rfl,at4_new w6 q _,HB7.out.alloc HB7.out.size _,HQ.out⟩
    ·go_wp2_with fail
     go_meet
     exact ⟨wr.heap.size,q,rfl,rfl,(Slot.wrote ⟨⟨n0,n1,n2,n3⟩,g0,g1,g2,g3⟩ (.int .i64 q.a) (.int .i64 q.b) (.int .i64 q.c) (.int .i64 q.d)).1,below_wrote HB7.out (Nat.le_refl _) _ _ _ _,HQ.out⟩
   case rest=>
    obtain ⟨B9,q,rfl,rfl,HX⟩:=hcut;obtain ⟨z0,z1,z2,z3⟩:=HX.out.1;have HBX:Hid (Below wr.heap.size wr wc):=HX.out.2.1;have HBW6:Hid (Below w.heap.size w wc):=HBWR.out.trans (HBX.out.mono HBWR.out.size);have HBWW:Hid (Below W.heap.size W wc):=HBR.out.trans (HBX.out.mono HBR.out.size);clear p0 p1 p2 pa0 pa1 pa2 HRC;cases V2
    ·have ev:=HN2.out rfl;subst ev;go_wp2;go_ret2
     exact ⟨⟨_,_,_,rfl⟩,HBW6.out⟩
    ·have HJ3:=HJ2.out rfl;have HJ4:Hid (∀j,j<k+1→okAt false zs j=true):=HJ3;have HQ4:Hid (rdL false zs k++[q]=rdL false zs (k+1)):=by show _=_;rw [rdL_succ,HX.out.2.2 rfl]
     have HO6:Hid (OwnC 72 W.heap.size wc (.slice g k c) (rdL false zs k)):=HO.out.below' HBX.out;clear HJ2 HJ3 HN2 HX HO;go_wp2_with (at_builtin;have _t:=HO6;refine append_c4n 29 72 Tryz.underlying29 infoP rfl _ _ rfl W.heap.size _ (rdL false zs k) rfl (HO6.out.below' ((Below.refl _ _).alloc (Nat.le_refl _) _)) q wc.heap.size rfl (at4_new wc q _) (by rw [rdL_len];omega) (Nat.le_trans HBWW.out.size (by rw [heap_alloc_size];omega)) k (rdL_len _ _ _) _ HQ4.out ?_;intro b7 c7 w7 ho7 hb7;have HO7:Hid (OwnC 72 W.heap.size w7 (.slice b7 (k+1) c7) (rdL false zs (k+1))):=ho7;have HB7:Hid (Below W.heap.size W w7):=(HBWW.out.alloc HBWW.out.size _).trans hb7;have t0:=(HB7.out.cell (p:=⟨w.heap.size,0,none⟩) HSW.out).trans HP0.out;clear _t ho7 hb7 HO6)
     go_roundw
     case rel=>exact ⟨k+1,b7,c7,by omega,by rw [HE.out.1,HE.out.2.1,HE.out.2.2],rfl,by go_num,HJ4.out,HO7.out,HB7.out⟩
     case measure=>simp [intOf];omega
  ·have hkn:k=n:=by omega
   subst hkn;have ev:=HY.out HJ.out;have HNX:Hid (∃o2 m2 c2,off+k*12=o2∧248-k*12=m2∧cap-k*12=c2∧(zs.drop (k*12)).length=m2):=⟨_,_,_,rfl,rfl,rfl,by rw [List.length_drop,HL.out]⟩;obtain ⟨o2,m2,c2,eo,em,ec,hlm⟩:=HNX.out;rw [eo,ec] at HRR;rw [eo,em,ec];have HC:Hid (Calls Tryz.prog 129 #[.slice (some ⟨b,o2,none⟩) m2 c2] wr fun e w'=>e=.returned (.bool V)∧wr=w'):=noughts_w _ _ _ _ wr HRR.out hlm V ev.symm;clear eo em ec HNX hlm HRR ev HN HY HJ p0 p1 p2;go_wp2_with fail
   refine Calls.mono HC.out ?_;rintro e w6 ⟨rfl,rfl⟩;go_wp2;go_ret2
   exact ⟨_,_,_,rfl,(fun _=>⟨rfl,HO.out.weaken HBW.out.size⟩),HBWR.out⟩
set_option maxRecDepth 20000 in
theorem kidRds_v (b off cap n:Nat) (zs:List Int) (w:World) (hr:Row w (some ⟨b,off,none⟩) cap zs) (hl:zs.length=248) (hn:n≤12) (V:Bool) (hV:(okL true zs n&&nouB (zs.drop (n*20)))=V):
  Calls Tryz.prog 141 #[.agg #[.int .i64 20,.func (Fn.func 142) #[] #[],.func (Fn.func 143) #[] #[]],.int .i64 n,.slice (some ⟨b,off,none⟩) 248 cap] w fun e w'=>∃g m c,e=.returned (.tuple #[.slice g m c,.bool V])∧(V=true→m=n∧OwnC 130 w.heap.size w' (.slice g m c) (rdL true zs n))∧Below w.heap.size w w':=by
 have HR:Hid (Row w (some ⟨b,off,none⟩) cap zs):=hr;have HL:Hid (zs.length=248):=hl;have hcap:=hr.2.1;have hmx:=hr.2.2.1;unfold maxLen at hmx;rw [hl] at hcap;have HN:Hid (∀j,j<n→okAt true zs j=false→V=false):=fun j hj h=>by rw [←hV,okL_no hj h];rfl
 have HY:Hid ((∀j,j<n→okAt true zs j=true)→V=nouB (zs.drop (n*20))):=fun h=>by rw [←hV,okL_yes h,Bool.true_and]
 clear hr hl hV;obtain ⟨i0,hi0,hz0,hz1,hz2⟩:=info_parts infoK;go_enter Tryz.func141,Tryz.ntmps141
 go_wp2_with (at_make;refine wpList_make_own _ rfl _ _ 128 rfl (w.heap.size+1) 130 i0 zero4 4 Tryz.underlying128 hi0 hz0 hz1 .i64 .i64 _ n rfl rfl rfl (by rw [hz2];omega) (by unfold maxLen;omega) (by rw [heap_alloc_size];exact Nat.le_refl _) ?_;intro w1 hown1 hgrow1)
 obtain ⟨W,hW⟩:∃W,w.alloc (.cells #[.int .i64 20,.func (Fn.func 142) #[] #[],.func (Fn.func 143) #[] #[]] 188)=W:=⟨_,rfl⟩;have hs:W.heap.size=w.heap.size+1:=by rw [←hW];exact heap_alloc_size _ _
 have hO3:W.heap[w.heap.size]?=some (.cells #[.int .i64 20,.func (Fn.func 142) #[] #[],.func (Fn.func 143) #[] #[]] 188):=by rw [←hW];exact heap_alloc_new _ _
 have HBW:Hid (Below w.heap.size w W):=by rw [←hW];exact (Below.refl _ w).alloc (Nat.le_refl _) _
 rw [hW] at hown1 hgrow1;have HB1:Hid (Below W.heap.size W w1):=(Below.refl _ _).grown hgrow1 (Nat.le_refl _) (by simp);have HO1:Hid (OwnC 130 W.heap.size w1 (.slice (some ⟨w.heap.size+1,0,none⟩) 0 n) []):=by rw [hs] at hown1 ⊢;exact hown1
 have HP0:Hid (W.cell? ⟨w.heap.size,0,none⟩=some (.int .i64 20)):=cell_obj hO3 0 _ rfl;have HP1:Hid (W.cell? ⟨w.heap.size,1,none⟩=some (.func (Fn.func 142) #[] #[])):=cell_obj hO3 1 _ rfl;have HP2:Hid (W.cell? ⟨w.heap.size,2,none⟩=some (.func (Fn.func 143) #[] #[])):=cell_obj hO3 2 _ rfl;have HSW:Hid (w.heap.size<W.heap.size):=by show _<_;omega
 have HRW:Hid (Row W (some ⟨b,off,none⟩) cap zs):=HR.out.below HBW.out;clear hown1 hgrow1 hO3 hW hs hi0 hz0 hz1 hz2 HR;go_wp2_with fail
 go_loopw [2,8,14] (fun bd ls i wr=>∃(k:Nat) (g:Option Addr) (c:Nat),k≤n∧bd=.slice (some ⟨b,off+k*20,none⟩) (248-k*20) (cap-k*20)∧ls=.slice g k c∧i=.int .i64 k∧Hid (∀j,j<k→okAt true zs j=true)∧Hid (OwnC 130 W.heap.size wr (.slice g k c) (rdL true zs k))∧Hid (Below W.heap.size W wr)) (fun _ _ i _=>n-(intOf i).toNat)
 case atStart=>exact ⟨0,_,_,Nat.zero_le _,by rw [Nat.zero_mul];rfl,rfl,rfl,fun j hj=>by omega,HO1.out,HB1.out⟩
 case round=>
  obtain ⟨k,g,c,hk,rfl,rfl,rfl,HJ,HO,HBR⟩:=hrel;clear HO1 HB1;have p0:=(HBR.out.cell (p:=⟨w.heap.size,0,none⟩) HSW.out).trans HP0.out;have p1:=(HBR.out.cell (p:=⟨w.heap.size,1,none⟩) HSW.out).trans HP1.out;have p2:=(HBR.out.cell (p:=⟨w.heap.size,2,none⟩) HSW.out).trans HP2.out;have HRR:Hid (Row wr (some ⟨b,off+k*20,none⟩) (cap-k*20) (zs.drop (k*20))):=(HRW.out.below HBR.out).drop' (k*20) (by rw [HL.out];omega);have HBWR:Hid (Below w.heap.size w wr):=HBW.out.trans (HBR.out.mono HBW.out.size);by_cases hlt:k<n
  ·have HNX:Hid (∃o2 m2 c2,off+k*20=o2∧248-k*20=m2∧cap-k*20=c2∧20<m2∧m2≤c2∧c2≤cap∧off+(k+1)*20=o2+20∧248-(k+1)*20=m2-20∧cap-(k+1)*20=c2-20):=⟨_,_,_,rfl,rfl,rfl,by omega,by omega,by omega,by omega,by omega,by omega⟩;obtain ⟨o2,m2,c2,eo,em,ec,hm2,hmc,hcc,eo',em',ec'⟩:=HNX.out;have HE:Hid (off+(k+1)*20=o2+20∧248-(k+1)*20=m2-20∧cap-(k+1)*20=c2-20):=⟨eo',em',ec'⟩;have HLD:Hid (20≤(zs.drop (k*20)).length):=by show _≤_;rw [List.length_drop,HL.out];omega
   rw [eo,ec] at HRR;rw [eo,em,ec];clear eo em ec eo' em' ec' HNX;obtain ⟨V2,hV2⟩:∃V2,okAt true zs k=V2:=⟨_,rfl⟩
   have HRC:Hid (∀w5,Below wr.heap.size wr w5→Calls Tryz.prog 149 #[.agg #[.int .i64 20,.func (Fn.func 142) #[] #[],.func (Fn.func 143) #[] #[]],.slice (some ⟨b,o2,none⟩) 20 c2] w5 fun e w'=>∃q:C4,e=.returned (.tuple #[.agg #[.int .i64 q.a,.int .i64 q.b,.int .i64 q.c,.int .i64 q.d],.bool V2])∧Hid (V2=true→q=cellAt true zs k)∧Hid (Below wr.heap.size wr w')∧w'.cell? ⟨w.heap.size,0,none⟩=some (.int .i64 20)∧w'.cell? ⟨w.heap.size,1,none⟩=some (.func (Fn.func 142) #[] #[])∧w'.cell? ⟨w.heap.size,2,none⟩=some (.func (Fn.func 143) #[] #[])∧(wr.heap.size<w5.heap.size→w'.cell? ⟨wr.heap.size,0,none⟩=w5.cell? ⟨wr.heap.size,0,none⟩)∧(wr.heap.size<w5.heap.size→w'.cell? ⟨wr.heap.size,1,none⟩=w5.cell? ⟨wr.heap.size,1,none⟩)∧(wr.heap.size<w5.heap.size→w'.cell? ⟨wr.heap.size,2,none⟩=w5.cell? ⟨wr.heap.size,2,none⟩)∧(wr.heap.size<w5.heap.size→w'.cell? ⟨wr.heap.size,3,none⟩=w5.cell? ⟨wr.heap.size,3,none⟩)∧(wr.heap.size<w5.heap.size→w'.frozen? ⟨wr.heap.size,0,none⟩=w5.frozen? ⟨wr.heap.size,0,none⟩)∧(wr.heap.size<w5.heap.size→w'.frozen? ⟨wr.heap.size,1,none⟩=w5.frozen? ⟨wr.heap.size,1,none⟩)∧(wr.heap.size<w5.heap.size→w'.frozen? ⟨wr.heap.size,2,none⟩=w5.frozen? ⟨wr.heap.size,2,none⟩)∧(wr.heap.size<w5.heap.size→w'.frozen? ⟨wr.heap.size,3,none⟩=w5.frozen? ⟨wr.heap.size,3,none⟩)):=fun w5 hb5=>by
    have hrow:Row w5 (some ⟨b,o2,none⟩) c2 ((zs.drop (k*20)).take 20):=(HRR.out.below hb5).take' 20 c2 HLD.out (by omega) (Nat.le_refl _);refine (kidRd_v b o2 c2 ((zs.drop (k*20)).take 20) w5 hrow (by rw [List.length_take];have:=HLD.out;omega) V2 (by rw [←hV2];exact okCell_take true _ HLD.out)).mono ?_;rintro e w' ⟨q,rfl,h3,hb⟩;have hb':Below wr.heap.size wr w':=hb5.trans (hb.mono hb5.size);have hlt':=Nat.lt_of_lt_of_le HSW.out HBR.out.size;refine ⟨q,rfl,fun hv=>?_,hb',(hb'.cell (p:=⟨w.heap.size,0,none⟩) hlt').trans p0,(hb'.cell (p:=⟨w.heap.size,1,none⟩) hlt').trans p1,(hb'.cell (p:=⟨w.heap.size,2,none⟩) hlt').trans p2,fun h=>hb.cell (p:=⟨wr.heap.size,0,none⟩) h,fun h=>hb.cell (p:=⟨wr.heap.size,1,none⟩) h,fun h=>hb.cell (p:=⟨wr.heap.size,2,none⟩) h,fun h=>hb.cell (p:=⟨wr.heap.size,3,none⟩) h,fun h=>hb.frozen (p:=⟨wr.heap.size,0,none⟩) h,fun h=>hb.frozen (p:=⟨wr.heap.size,1,none⟩) h,fun h=>hb.frozen (p:=⟨wr.heap.size,2,none⟩) h,fun h=>hb.frozen (p:=⟨wr.heap.size,3,none⟩) h⟩;rw [h3 hv];exact rdC_take true _ HLD.out
   have HN2:Hid (V2=false→V=false):=fun h=>HN.out k hlt (by rw [hV2];exact h)
   have HJ2:Hid (V2=true→∀j,j<k+1→okAt true zs j=true):=fun h j hj=>by
    by_cases ej:j=k
    ·rw [ej,hV2];exact h
    ·exact HJ.out j (by omega)
   have hne:¬c2=20:=by omega
   have hle:20≤c2:=by omega
   have hlm:20≤m2:=by omega
   have pa0:(wr.alloc (.cells #[.int .i64 0,.int .i64 0,.int .i64 0,.int .i64 0] 130)).cell? ⟨w.heap.size,0,none⟩=some (.int .i64 20):=by rw [World.cell?_alloc_lt _ _ _ (Nat.lt_of_lt_of_le HSW.out HBR.out.size)];exact p0
   have pa1:(wr.alloc (.cells #[.int .i64 0,.int .i64 0,.int .i64 0,.int .i64 0] 130)).cell? ⟨w.heap.size,1,none⟩=some (.func (Fn.func 142) #[] #[]):=by rw [World.cell?_alloc_lt _ _ _ (Nat.lt_of_lt_of_le HSW.out HBR.out.size)];exact p1
   have pa2:(wr.alloc (.cells #[.int .i64 0,.int .i64 0,.int .i64 0,.int .i64 0] 130)).cell? ⟨w.heap.size,2,none⟩=some (.func (Fn.func 143) #[] #[]):=by rw [World.cell?_alloc_lt _ _ _ (Nat.lt_of_lt_of_le HSW.out HBR.out.size)];exact p2
   have HNE:Hid (w.heap.size≠wr.heap.size):=Nat.ne_of_lt (Nat.lt_of_lt_of_le HSW.out HBR.out.size);have hi1:(20:Int)≤(c2:Int):=by omega
   have hne0:¬c2=0:=by omega
   have hi2:(20:Int)≤(m2:Int):=by omega
   clear hV2 HN HJ;go_upto_region 4 with fail
   go_cut [9,10] (fun s9 s10 wx=>∃(B9:Nat) (q:C4),s9=.pointer (some ⟨B9,0,none⟩)∧s10=.bool V2∧Hid (At4 wx B9 0 q∧Below wr.heap.size wr wx∧(V2=true→q=cellAt true zs k)))
   case first=>
    go_region_held3 (fun u=>u.cell? ⟨w.heap.size,0,none⟩=some (.int .i64 20)∧u.cell? ⟨w.heap.size,1,none⟩=some (.func (Fn.func 142) #[] #[])∧u.cell? ⟨w.heap.size,2,none⟩=some (.func (Fn.func 143) #[] #[])) (first|with_reducible exact ⟨s0,s1,s2⟩|with_reducible exact ⟨(cell_wrote _ _ _ _ _ _ _ _ HNE.out).trans s0,(cell_wrote _ _ _ _ _ _ _ _ HNE.out).trans s1,(cell_wrote _ _ _ _ _ _ _ _ HNE.out).trans s2⟩|go_keep) ((go_at_call 149;refine Calls.mono (HRC.out _ ?_) ?_;(first|exact (Below.refl _ wr).drew|exact ((Below.refl _ wr).alloc (Nat.le_refl _) _).drew);rintro e w6 ⟨q,rfl,HQ,HB7,s0,s1,s2,n0,n1,n2,n3,g0,g1,g2,g3⟩;simp at n0 n1 n2 n3 g0 g1 g2 g3))
    ·go_wp2_with fail
     go_meet
     exact ⟨w6.heap.size,q,rfl,rfl,at4_new w6 q _,HB7.out.alloc HB7.out.size _,HQ.out⟩
    ·go_wp2_with fail
     go_meet
     exact ⟨wr.heap.size,q,rfl,rfl,(Slot.wrote ⟨⟨n0,n1,n2,n3⟩,g0,g1,g2,g3⟩ (.int .i64 q.a) (.int .i64 q.b) (.int .i64 q.c) (.int .i64 q.d)).1,below_wrote HB7.out (Nat.le_refl _) _ _ _ _,HQ.out⟩
   case rest=>
    obtain ⟨B9,q,rfl,rfl,HX⟩:=hcut;obtain ⟨z0,z1,z2,z3⟩:=HX.out.1;have HBX:Hid (Below wr.heap.size wr wc):=HX.out.2.1;have HBW6:Hid (Below w.heap.size w wc):=HBWR.out.trans (HBX.out.mono HBWR.out.size);have HBWW:Hid (Below W.heap.size W wc):=HBR.out.trans (HBX.out.mono HBR.out.size);clear p0 p1 p2 pa0 pa1 pa2 HRC;cases V2
    ·have ev:=HN2.out rfl;subst ev;go_wp2;go_ret2
     exact ⟨⟨_,_,_,rfl⟩,HBW6.out⟩
    ·have HJ3:=HJ2.out rfl;have HJ4:Hid (∀j,j<k+1→okAt true zs j=true):=HJ3;have HQ4:Hid (rdL true zs k++[q]=rdL true zs (k+1)):=by show _=_;rw [rdL_succ,HX.out.2.2 rfl]
     have HO6:Hid (OwnC 130 W.heap.size wc (.slice g k c) (rdL true zs k)):=HO.out.below' HBX.out;clear HJ2 HJ3 HN2 HX HO;go_wp2_with (at_builtin;have _t:=HO6;refine append_c4n 128 130 Tryz.underlying128 infoK rfl _ _ rfl W.heap.size _ (rdL true zs k) rfl (HO6.out.below' ((Below.refl _ _).alloc (Nat.le_refl _) _)) q wc.heap.size rfl (at4_new wc q _) (by rw [rdL_len];omega) (Nat.le_trans HBWW.out.size (by rw [heap_alloc_size];omega)) k (rdL_len _ _ _) _ HQ4.out ?_;intro b7 c7 w7 ho7 hb7;have HO7:Hid (OwnC 130 W.heap.size w7 (.slice b7 (k+1) c7) (rdL true zs (k+1))):=ho7;have HB7:Hid (Below W.heap.size W w7):=(HBWW.out.alloc HBWW.out.size _).trans hb7;have t0:=(HB7.out.cell (p:=⟨w.heap.size,0,none⟩) HSW.out).trans HP0.out;clear _t ho7 hb7 HO6)
     go_roundw
     case rel=>exact ⟨k+1,b7,c7,by omega,by rw [HE.out.1,HE.out.2.1,HE.out.2.2],rfl,by go_num,HJ4.out,HO7.out,HB7.out⟩
     case measure=>simp [intOf];omega
  ·have hkn:k=n:=by omega
   subst hkn;have ev:=HY.out HJ.out;have HNX:Hid (∃o2 m2 c2,off+k*20=o2∧248-k*20=m2∧cap-k*20=c2∧(zs.drop (k*20)).length=m2):=⟨_,_,_,rfl,rfl,rfl,by rw [List.length_drop,HL.out]⟩;obtain ⟨o2,m2,c2,eo,em,ec,hlm⟩:=HNX.out;rw [eo,ec] at HRR;rw [eo,em,ec];have HC:Hid (Calls Tryz.prog 129 #[.slice (some ⟨b,o2,none⟩) m2 c2] wr fun e w'=>e=.returned (.bool V)∧wr=w'):=noughts_w _ _ _ _ wr HRR.out hlm V ev.symm;clear eo em ec HNX hlm HRR ev HN HY HJ p0 p1 p2;go_wp2_with fail
   refine Calls.mono HC.out ?_;rintro e w6 ⟨rfl,rfl⟩;go_wp2;go_ret2
   exact ⟨_,_,_,rfl,(fun _=>⟨rfl,HO.out.weaken HBW.out.size⟩),HBWR.out⟩
theorem re_no {t:Bool} {zs:List Int} (h:soE (shtT t) zs≠0):reE t zs=soE (shtT t) zs∧reL t zs=[]∧reV t zs=0:=by
 have e1:reE t zs=soE (shtT t) zs:=by
  unfold reE reB soE;unfold soE at h;by_cases ho:opE zs=0
  ·rw [if_pos ho] at h;rw [if_pos ho,if_pos ho];cases hB:opB (shtT t) (opP zs)
   ·rfl
   ·rw [hB] at h;exact absurd rfl h
  ·rw [if_neg ho,if_neg ho]
 refine ⟨e1,?_,?_⟩
 ·unfold reL;rw [e1,if_neg h]
 ·unfold reV;rw [e1,if_neg h]
theorem re_bad {t:Bool} {zs:List Int} (ho:opE zs=0) (h:reB t (opP zs)=false):reE t zs=4∧reL t zs=[]∧reV t zs=0:=by
 have e1:reE t zs=4:=by unfold reE;rw [if_pos ho,h];rfl
 refine ⟨e1,?_,?_⟩
 ·unfold reL;rw [e1];rfl
 ·unfold reV;rw [e1];rfl
theorem re_good {t:Bool} {zs:List Int} (ho:opE zs=0) (h:reB t (opP zs)=true):reE t zs=0∧reL t zs=rdL t (opP zs).body (opP zs).count.toNat∧reV t zs=(opP zs).level:=by
 have e1:reE t zs=0:=by unfold reE;rw [if_pos ho,h];rfl
 refine ⟨e1,?_,?_⟩
 ·unfold reL;rw [if_pos e1]
 ·unfold reV;rw [if_pos e1]
set_option maxRecDepth 20000 in
theorem pieceRead_err (a:Option Addr) (cap n:Nat) (w:World) (P:Pg) (E:Int) (C:∀w1,Below w.heap.size w w1→Calls Tryz.prog 128 #[.agg #[.int .i64 3,.int .i64 0,.int .i64 0,.int .i64 20],.slice a n cap] w1 fun e w'=>∃g c,e=.returned (.tuple #[pgV P g c,.int .i64 E])∧Own w1.heap.size w' (.slice g P.body.length c) P.body∧Below w1.heap.size w1 w') (hE:(E !=0)=true):
  Calls Tryz.prog 121 #[.agg #[.int .i64 3,.int .i64 0,.int .i64 0,.int .i64 20],.agg #[.int .i64 12,.func (Fn.func 139) #[] #[],.func (Fn.func 140) #[] #[]],.slice a n cap] w fun e w'=>e=.returned (.tuple #[.int .i64 0,.slice none 0 0,.int .i64 E])∧Below w.heap.size w w':=by
 dsimp only [pgV] at C;have HC:Hid _:=C;clear C;go_enter Tryz.func121,Tryz.ntmps121
 go_wp2_with fail
 refine (HC.out _ (((Below.refl _ w).alloc (Nat.le_refl _) _).alloc (by rw [heap_alloc_size];omega) _)).mono ?_;rintro e w1 ⟨g,c,rfl,ho,hb⟩;obtain ⟨HB,⟨k0,k1,k2,k3⟩,p0,p1,p2⟩:=pieceLay_box w w1 hb;clear hb ho HC k0 k1 k2 k3 p0 p1 p2;go_wp2;refine bodyPost_ret (v:=.tuple #[.int .i64 0,.slice none 0 0,.int .i64 E]) ?_ rfl ⟨rfl,HB.out.alloc HB.out.size _⟩;simp [results,Tryz.results121,go_sem]
set_option maxRecDepth 20000 in
theorem pieceRead_got (a:Option Addr) (cap n:Nat) (w:World) (P:Pg) (E:Int) (C:∀w1,Below w.heap.size w w1→Calls Tryz.prog 128 #[.agg #[.int .i64 3,.int .i64 0,.int .i64 0,.int .i64 20],.slice a n cap] w1 fun e w'=>∃g c,e=.returned (.tuple #[pgV P g c,.int .i64 E])∧Own w1.heap.size w' (.slice g P.body.length c) P.body∧Below w1.heap.size w1 w') (hE:E=0) (k:Nat) (hk:P.count=k) (hk2:k≤20) (hlen:P.body.length=248) (hbys:Bys P.body) (V:Bool) (hV:(okL false P.body k&&nouB (P.body.drop (k*12)))=V):
  Calls Tryz.prog 121 #[.agg #[.int .i64 3,.int .i64 0,.int .i64 0,.int .i64 20],.agg #[.int .i64 12,.func (Fn.func 139) #[] #[],.func (Fn.func 140) #[] #[]],.slice a n cap] w fun e w'=>∃g m c,e=.returned (.tuple #[.int .i64 (if V then P.level else 0),.slice g m c,.int .i64 (if V then 0 else 4)])∧m=(if V then k else 0)∧OwnC 72 w.heap.size w' (.slice g m c) (if V then rdL false P.body k else [])∧Below w.heap.size w w':=by
 subst hE;rw [hlen] at C;dsimp only [pgV] at C;have HC:Hid _:=C;clear C;go_enter Tryz.func121,Tryz.ntmps121
 go_wp2_with fail
 refine (HC.out _ (((Below.refl _ w).alloc (Nat.le_refl _) _).alloc (by rw [heap_alloc_size];omega) _)).mono ?_;rintro e w1 ⟨g,c,rfl,ho,hb⟩;obtain ⟨HB,⟨k0,k1,k2,k3⟩,p0,p1,p2⟩:=pieceLay_box w w1 hb;have HO:Hid (Own (w.heap.size+1+1) w1 (.slice g 248 c) P.body):=ho.weaken (by rw [heap_alloc_size,heap_alloc_size];exact Nat.le_refl _);have hsz:w.heap.size+1+1≤w1.heap.size:=by have:=hb.size;rw [heap_alloc_size,heap_alloc_size] at this;exact this
 have HR:Hid (Row (w1.alloc (.cells #[.int .i64 P.kind,.int .i64 P.level,.int .i64 k,.slice g 248 c] 127)) g c P.body):=(HO.out.row' hbys).2.below ((Below.refl _ _).alloc (Nat.le_refl _) _);obtain ⟨bb,off,hg⟩:=HR.out.some' (by omega);subst hg;have HRD:Hid _:=pieceRds_v bb off c k P.body _ HR.out hlen hk2 V hV;have y0:(w1.alloc (.cells #[.int .i64 P.kind,.int .i64 P.level,.int .i64 k,.slice (some ⟨bb,off,none⟩) 248 c] 127)).cell? ⟨w.heap.size+1,0,none⟩=some (.int .i64 12):=by rw [World.cell?_alloc_lt _ _ _ (show w.heap.size+1<w1.heap.size by omega)];exact p0
 have y1:(w1.alloc (.cells #[.int .i64 P.kind,.int .i64 P.level,.int .i64 k,.slice (some ⟨bb,off,none⟩) 248 c] 127)).cell? ⟨w.heap.size+1,1,none⟩=some (.func (Fn.func 139) #[] #[]):=by rw [World.cell?_alloc_lt _ _ _ (show w.heap.size+1<w1.heap.size by omega)];exact p1
 have y2:(w1.alloc (.cells #[.int .i64 P.kind,.int .i64 P.level,.int .i64 k,.slice (some ⟨bb,off,none⟩) 248 c] 127)).cell? ⟨w.heap.size+1,2,none⟩=some (.func (Fn.func 140) #[] #[]):=by rw [World.cell?_alloc_lt _ _ _ (show w.heap.size+1<w1.heap.size by omega)];exact p2
 rw [hk];clear hb ho HC k0 k1 k2 k3 p0 p1 p2 hsz hk hV;go_wp2_with fail
 refine Calls.mono HRD.out ?_;rintro e w2 ⟨g2,m2,c2,rfl,h2,hb2⟩;have HB2:Hid (Below w.heap.size w w2):=(HB.out.alloc HB.out.size _).trans (hb2.mono (Nat.le_trans HB.out.size (by rw [heap_alloc_size];omega)));obtain ⟨⟨z0,z1,z2,z3⟩,_⟩:=(slot_new w1 (.int .i64 P.kind) (.int .i64 P.level) (.int .i64 k) (.slice (some ⟨bb,off,none⟩) 248 c) 127).below hb2;cases V
 ·clear h2 hb2;go_wp2;refine bodyPost_ret (v:=.tuple #[.int .i64 0,.slice none 0 0,.int .i64 4]) ?_ rfl ⟨none,0,0,rfl,rfl,ownC_nil _ _ _,HB2.out⟩;simp [results,Tryz.results121,go_sem]
 ·obtain ⟨e2,h3⟩:=h2 rfl;subst e2;have HO2:Hid (OwnC 72 w.heap.size w2 (.slice g2 m2 c2) (rdL false P.body m2)):=h3.weaken (Nat.le_trans HB.out.size (by rw [heap_alloc_size];omega));clear h3 h2 hb2;go_wp2;refine bodyPost_ret (v:=.tuple #[.int .i64 P.level,.slice g2 m2 c2,.int .i64 0]) ?_ rfl ⟨g2,m2,c2,rfl,rfl,HO2.out,HB2.out⟩;simp [results,Tryz.results121,go_sem]
theorem pieceRead_v (a:Option Addr) (cap n:Nat) (zs:List Int) (w:World) (h:Row w a cap zs) (hn:zs.length=n) (E:Int) (hE:reE false zs=E) (L:List C4) (hL:reL false zs=L) (m:Nat) (hm:L.length=m) (lv:Int) (hlv:reV false zs=lv):
  Calls Tryz.prog 121 #[.agg #[.int .i64 3,.int .i64 0,.int .i64 0,.int .i64 20],.agg #[.int .i64 12,.func (Fn.func 139) #[] #[],.func (Fn.func 140) #[] #[]],.slice a n cap] w fun e w'=>∃g c,e=.returned (.tuple #[.int .i64 lv,.slice g m c,.int .i64 E])∧OwnC 72 w.heap.size w' (.slice g m c) L∧Below w.heap.size w w':=by
 subst hE hL hm hlv;have C:∀w1,Below w.heap.size w w1→Calls Tryz.prog 128 #[.agg #[.int .i64 3,.int .i64 0,.int .i64 0,.int .i64 20],.slice a n cap] w1 fun e w'=>∃g c,e=.returned (.tuple #[pgV (soP leafS zs) g c,.int .i64 (soE leafS zs)])∧Own w1.heap.size w' (.slice g (soP leafS zs).body.length c) (soP leafS zs).body∧Below w1.heap.size w1 w':=fun w1 hb=>sheetOpen_v leafS a cap n zs w1 (h.below hb) hn _ rfl _ rfl
 by_cases hs:soE leafS zs=0
 ·obtain ⟨ho,hp,hB,hbys,hlen⟩:=so_good_out h.1 hs;rw [hs,hp] at C;obtain ⟨k1,k2,k3⟩:=opB_out hB;obtain ⟨k,hk⟩:=Int.eq_ofNat_of_zero_le (show 0≤(opP zs).count by omega);have hk3:(opP zs).count≤20:=k3.2;have:=pieceRead_got a cap n w (opP zs) 0 C rfl k hk (by omega) hlen hbys _ rfl;cases hv:(okL false (opP zs).body k&&nouB ((opP zs).body.drop (k*12)))
  ·obtain ⟨e1,e2,e3⟩:=re_bad (t:=false) ho (by unfold reB;rw [hk,Int.toNat_natCast,show szC false=12 from rfl,hv,Bool.and_false]);rw [hv] at this;rw [e1,e2,e3];refine this.mono ?_;rintro e w' ⟨g,m,c,rfl,hm,ho',hb⟩;have hm0:m=0:=hm;subst hm0;exact ⟨g,c,rfl,ho',hb⟩
  ·obtain ⟨e1,e2,e3⟩:=re_good (t:=false) ho (by unfold reB;rw [hk,Int.toNat_natCast,show szC false=12 from rfl,hv,Bool.and_true];exact hB);rw [hv] at this;rw [e1,e2,e3,hk,Int.toNat_natCast,rdL_len];refine this.mono ?_;rintro e w' ⟨g,m,c,rfl,hm,ho',hb⟩;have hm0:m=k:=hm;subst hm0;exact ⟨g,c,rfl,ho',hb⟩
 ·have:=pieceRead_err a cap n w _ _ C (by simpa using hs);obtain ⟨e1,e2,e3⟩:=re_no (t:=false) hs;rw [e1,e2,e3];refine this.mono ?_;rintro e w' ⟨rfl,hb⟩;exact ⟨none,0,rfl,ownC_nil _ _ _,hb⟩
theorem pieces_v (a:Option Addr) (cap n:Nat) (zs:List Int) (w:World) (h:Row w a cap zs) (hn:zs.length=n) (E:Int) (hE:reE false zs=E) (L:List C4) (hL:reL false zs=L) (m:Nat) (hm:L.length=m):
  Calls Tryz.prog 107 #[.slice a n cap] w fun e w'=>∃g c,e=.returned (.tuple #[.slice g m c,.int .i64 E])∧OwnC 72 w.heap.size w' (.slice g m c) L∧Below w.heap.size w w':=by
 have HC:Hid _:=fun w1 (hb:Below w.heap.size w w1)=>pieceRead_v a cap n zs w1 (h.below hb) hn E hE L hL m hm _ rfl
 clear h hn hE hL hm;go_enter Tryz.func107,Tryz.ntmps107
 go_wp2_with fail
 refine (leaf_v _).mono ?_;rintro e w1 ⟨rfl,hb⟩;have HB1:Hid (Below w.heap.size w w1):=hb;clear hb;go_wp2_with fail
 refine (piecesSh_v _).mono ?_;rintro e w2 ⟨rfl,hb⟩;have HB2:Hid (Below w.heap.size w w2):=HB1.out.trans (hb.mono HB1.out.size);clear hb HB1;go_wp2_with fail
 refine (HC.out _ HB2.out).mono ?_;rintro e w3 ⟨g,c,rfl,ho,hb⟩;have HB3:Hid (Below w.heap.size w w3):=HB2.out.trans (hb.mono HB2.out.size);have HO:Hid (OwnC 72 w.heap.size w3 (.slice g m c) L):=ho.weaken HB2.out.size;clear hb ho;go_wp2;go_ret2
 exact ⟨_,_,rfl,HO.out,HB3.out⟩
set_option maxRecDepth 20000 in
theorem kidRead_err (a:Option Addr) (cap n:Nat) (w:World) (P:Pg) (E:Int) (C:∀w1,Below w.heap.size w w1→Calls Tryz.prog 128 #[.agg #[.int .i64 2,.int .i64 1,.int .i64 32,.int .i64 12],.slice a n cap] w1 fun e w'=>∃g c,e=.returned (.tuple #[pgV P g c,.int .i64 E])∧Own w1.heap.size w' (.slice g P.body.length c) P.body∧Below w1.heap.size w1 w') (hE:(E !=0)=true):
  Calls Tryz.prog 124 #[.agg #[.int .i64 2,.int .i64 1,.int .i64 32,.int .i64 12],.agg #[.int .i64 20,.func (Fn.func 142) #[] #[],.func (Fn.func 143) #[] #[]],.slice a n cap] w fun e w'=>e=.returned (.tuple #[.int .i64 0,.slice none 0 0,.int .i64 E])∧Below w.heap.size w w':=by
 dsimp only [pgV] at C;have HC:Hid _:=C;clear C;go_enter Tryz.func124,Tryz.ntmps124
 go_wp2_with fail
 refine (HC.out _ (((Below.refl _ w).alloc (Nat.le_refl _) _).alloc (by rw [heap_alloc_size];omega) _)).mono ?_;rintro e w1 ⟨g,c,rfl,ho,hb⟩;obtain ⟨HB,⟨k0,k1,k2,k3⟩,p0,p1,p2⟩:=kidLay_box w w1 hb;clear hb ho HC k0 k1 k2 k3 p0 p1 p2;go_wp2;refine bodyPost_ret (v:=.tuple #[.int .i64 0,.slice none 0 0,.int .i64 E]) ?_ rfl ⟨rfl,HB.out.alloc HB.out.size _⟩;simp [results,Tryz.results124,go_sem]
set_option maxRecDepth 20000 in
theorem kidRead_got (a:Option Addr) (cap n:Nat) (w:World) (P:Pg) (E:Int) (C:∀w1,Below w.heap.size w w1→Calls Tryz.prog 128 #[.agg #[.int .i64 2,.int .i64 1,.int .i64 32,.int .i64 12],.slice a n cap] w1 fun e w'=>∃g c,e=.returned (.tuple #[pgV P g c,.int .i64 E])∧Own w1.heap.size w' (.slice g P.body.length c) P.body∧Below w1.heap.size w1 w') (hE:E=0) (k:Nat) (hk:P.count=k) (hk2:k≤12) (hlen:P.body.length=248) (hbys:Bys P.body) (V:Bool) (hV:(okL true P.body k&&nouB (P.body.drop (k*20)))=V):
  Calls Tryz.prog 124 #[.agg #[.int .i64 2,.int .i64 1,.int .i64 32,.int .i64 12],.agg #[.int .i64 20,.func (Fn.func 142) #[] #[],.func (Fn.func 143) #[] #[]],.slice a n cap] w fun e w'=>∃g m c,e=.returned (.tuple #[.int .i64 (if V then P.level else 0),.slice g m c,.int .i64 (if V then 0 else 4)])∧m=(if V then k else 0)∧OwnC 130 w.heap.size w' (.slice g m c) (if V then rdL true P.body k else [])∧Below w.heap.size w w':=by
 subst hE;rw [hlen] at C;dsimp only [pgV] at C;have HC:Hid _:=C;clear C;go_enter Tryz.func124,Tryz.ntmps124
 go_wp2_with fail
 refine (HC.out _ (((Below.refl _ w).alloc (Nat.le_refl _) _).alloc (by rw [heap_alloc_size];omega) _)).mono ?_;rintro e w1 ⟨g,c,rfl,ho,hb⟩;obtain ⟨HB,⟨k0,k1,k2,k3⟩,p0,p1,p2⟩:=kidLay_box w w1 hb;have HO:Hid (Own (w.heap.size+1+1) w1 (.slice g 248 c) P.body):=ho.weaken (by rw [heap_alloc_size,heap_alloc_size];exact Nat.le_refl _);have hsz:w.heap.size+1+1≤w1.heap.size:=by have:=hb.size;rw [heap_alloc_size,heap_alloc_size] at this;exact this
 have HR:Hid (Row (w1.alloc (.cells #[.int .i64 P.kind,.int .i64 P.level,.int .i64 k,.slice g 248 c] 127)) g c P.body):=(HO.out.row' hbys).2.below ((Below.refl _ _).alloc (Nat.le_refl _) _);obtain ⟨bb,off,hg⟩:=HR.out.some' (by omega);subst hg;have HRD:Hid _:=kidRds_v bb off c k P.body _ HR.out hlen hk2 V hV;have y0:(w1.alloc (.cells #[.int .i64 P.kind,.int .i64 P.level,.int .i64 k,.slice (some ⟨bb,off,none⟩) 248 c] 127)).cell? ⟨w.heap.size+1,0,none⟩=some (.int .i64 20):=by rw [World.cell?_alloc_lt _ _ _ (show w.heap.size+1<w1.heap.size by omega)];exact p0
 have y1:(w1.alloc (.cells #[.int .i64 P.kind,.int .i64 P.level,.int .i64 k,.slice (some ⟨bb,off,none⟩) 248 c] 127)).cell? ⟨w.heap.size+1,1,none⟩=some (.func (Fn.func 142) #[] #[]):=by rw [World.cell?_alloc_lt _ _ _ (show w.heap.size+1<w1.heap.size by omega)];exact p1
 have y2:(w1.alloc (.cells #[.int .i64 P.kind,.int .i64 P.level,.int .i64 k,.slice (some ⟨bb,off,none⟩) 248 c] 127)).cell? ⟨w.heap.size+1,2,none⟩=some (.func (Fn.func 143) #[] #[]):=by rw [World.cell?_alloc_lt _ _ _ (show w.heap.size+1<w1.heap.size by omega)];exact p2
 rw [hk];clear hb ho HC k0 k1 k2 k3 p0 p1 p2 hsz hk hV;go_wp2_with fail
 refine Calls.mono HRD.out ?_;rintro e w2 ⟨g2,m2,c2,rfl,h2,hb2⟩;have HB2:Hid (Below w.heap.size w w2):=(HB.out.alloc HB.out.size _).trans (hb2.mono (Nat.le_trans HB.out.size (by rw [heap_alloc_size];omega)));obtain ⟨⟨z0,z1,z2,z3⟩,_⟩:=(slot_new w1 (.int .i64 P.kind) (.int .i64 P.level) (.int .i64 k) (.slice (some ⟨bb,off,none⟩) 248 c) 127).below hb2;cases V
 ·clear h2 hb2;go_wp2;refine bodyPost_ret (v:=.tuple #[.int .i64 0,.slice none 0 0,.int .i64 4]) ?_ rfl ⟨none,0,0,rfl,rfl,ownC_nil _ _ _,HB2.out⟩;simp [results,Tryz.results124,go_sem]
 ·obtain ⟨e2,h3⟩:=h2 rfl;subst e2;have HO2:Hid (OwnC 130 w.heap.size w2 (.slice g2 m2 c2) (rdL true P.body m2)):=h3.weaken (Nat.le_trans HB.out.size (by rw [heap_alloc_size];omega));clear h3 h2 hb2;go_wp2;refine bodyPost_ret (v:=.tuple #[.int .i64 P.level,.slice g2 m2 c2,.int .i64 0]) ?_ rfl ⟨g2,m2,c2,rfl,rfl,HO2.out,HB2.out⟩;simp [results,Tryz.results124,go_sem]
theorem kidRead_v (a:Option Addr) (cap n:Nat) (zs:List Int) (w:World) (h:Row w a cap zs) (hn:zs.length=n) (E:Int) (hE:reE true zs=E) (L:List C4) (hL:reL true zs=L) (m:Nat) (hm:L.length=m) (lv:Int) (hlv:reV true zs=lv):
  Calls Tryz.prog 124 #[.agg #[.int .i64 2,.int .i64 1,.int .i64 32,.int .i64 12],.agg #[.int .i64 20,.func (Fn.func 142) #[] #[],.func (Fn.func 143) #[] #[]],.slice a n cap] w fun e w'=>∃g c,e=.returned (.tuple #[.int .i64 lv,.slice g m c,.int .i64 E])∧OwnC 130 w.heap.size w' (.slice g m c) L∧Below w.heap.size w w':=by
 subst hE hL hm hlv;have C:∀w1,Below w.heap.size w w1→Calls Tryz.prog 128 #[.agg #[.int .i64 2,.int .i64 1,.int .i64 32,.int .i64 12],.slice a n cap] w1 fun e w'=>∃g c,e=.returned (.tuple #[pgV (soP innerS zs) g c,.int .i64 (soE innerS zs)])∧Own w1.heap.size w' (.slice g (soP innerS zs).body.length c) (soP innerS zs).body∧Below w1.heap.size w1 w':=fun w1 hb=>sheetOpen_v innerS a cap n zs w1 (h.below hb) hn _ rfl _ rfl
 by_cases hs:soE innerS zs=0
 ·obtain ⟨ho,hp,hB,hbys,hlen⟩:=so_good_out h.1 hs;rw [hs,hp] at C;obtain ⟨k1,k2,k3⟩:=opB_out hB;obtain ⟨k,hk⟩:=Int.eq_ofNat_of_zero_le (show 0≤(opP zs).count by omega);have hk3:(opP zs).count≤12:=k3.2;have:=kidRead_got a cap n w (opP zs) 0 C rfl k hk (by omega) hlen hbys _ rfl;cases hv:(okL true (opP zs).body k&&nouB ((opP zs).body.drop (k*20)))
  ·obtain ⟨e1,e2,e3⟩:=re_bad (t:=true) ho (by unfold reB;rw [hk,Int.toNat_natCast,show szC true=20 from rfl,hv,Bool.and_false]);rw [hv] at this;rw [e1,e2,e3];refine this.mono ?_;rintro e w' ⟨g,m,c,rfl,hm,ho',hb⟩;have hm0:m=0:=hm;subst hm0;exact ⟨g,c,rfl,ho',hb⟩
  ·obtain ⟨e1,e2,e3⟩:=re_good (t:=true) ho (by unfold reB;rw [hk,Int.toNat_natCast,show szC true=20 from rfl,hv,Bool.and_true];exact hB);rw [hv] at this;rw [e1,e2,e3,hk,Int.toNat_natCast,rdL_len];refine this.mono ?_;rintro e w' ⟨g,m,c,rfl,hm,ho',hb⟩;have hm0:m=k:=hm;subst hm0;exact ⟨g,c,rfl,ho',hb⟩
 ·have:=kidRead_err a cap n w _ _ C (by simpa using hs);obtain ⟨e1,e2,e3⟩:=re_no (t:=true) hs;rw [e1,e2,e3];refine this.mono ?_;rintro e w' ⟨rfl,hb⟩;exact ⟨none,0,rfl,ownC_nil _ _ _,hb⟩
theorem kids_v (a:Option Addr) (cap n:Nat) (zs:List Int) (w:World) (h:Row w a cap zs) (hn:zs.length=n) (E:Int) (hE:reE true zs=E) (L:List C4) (hL:reL true zs=L) (m:Nat) (hm:L.length=m) (lv:Int) (hlv:reV true zs=lv):
  Calls Tryz.prog 108 #[.slice a n cap] w fun e w'=>∃g c,e=.returned (.tuple #[.int .i64 lv,.slice g m c,.int .i64 E])∧OwnC 130 w.heap.size w' (.slice g m c) L∧Below w.heap.size w w':=by
 have HC:Hid _:=fun w1 (hb:Below w.heap.size w w1)=>kidRead_v a cap n zs w1 (h.below hb) hn E hE L hL m hm lv hlv
 clear h hn hE hL hm;go_enter Tryz.func108,Tryz.ntmps108
 go_wp2_with fail
 refine (inner_v _).mono ?_;rintro e w1 ⟨rfl,hb⟩;have HB1:Hid (Below w.heap.size w w1):=hb;clear hb;go_wp2_with fail
 refine (kidsSh_v _).mono ?_;rintro e w2 ⟨rfl,hb⟩;have HB2:Hid (Below w.heap.size w w2):=HB1.out.trans (hb.mono HB1.out.size);clear hb HB1;go_wp2_with fail
 refine (HC.out _ HB2.out).mono ?_;rintro e w3 ⟨g,c,rfl,ho,hb⟩;have HB3:Hid (Below w.heap.size w w3):=HB2.out.trans (hb.mono HB2.out.size);have HO:Hid (OwnC 130 w.heap.size w3 (.slice g m c) L):=ho.weaken HB2.out.size;clear hb ho;go_wp2;refine bodyPost_ret (v:=.tuple #[.int .i64 lv,.slice g m c,.int .i64 E]) ?_ rfl ⟨_,_,rfl,HO.out,HB3.out⟩;simp [results,Tryz.results108,go_sem]
end Go.Proofs.YtjllhcifmfhkmaaGreat.Oct
