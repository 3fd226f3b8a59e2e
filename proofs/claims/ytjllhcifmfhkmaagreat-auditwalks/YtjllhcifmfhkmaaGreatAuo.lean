/- Part of a proof. -/
import Derived.Test.YtjllhcifmfhkmaaGreatAum
import Derived.Test.YtjllhcifmfhkmaaGreatUl
import Derived.Laws.BytesArg
namespace Go.Proofs.YtjllhcifmfhkmaaGreat.Oct
open Go.RowKit
def usF (R:List Bool) (i:Nat):Bool:=decide (i<2)||R.getD i false
def usK (R:List Bool) (k:Nat):List Int:=bitsP (fun i=>decide (i<k)&&usF R i) R.length
theorem usK_all {R:List Bool} (h:2≤R.length):usK R R.length=usedL R:=bitsP_ext fun i _=>by
 by_cases h1:i<R.length
 ·simp [h1,usF]
 ·rw [List.getD_eq_getElem?_getD,List.getElem?_eq_none (by omega)];have h2:¬i<2:=by omega
  simp [h1,h2]
theorem usK_yes {R:List Bool} {k:Nat} (h:k<R.length) (hu:usF R k=true):usK R (k+1)=(usK R k).set (k/8) (bits .or .u8 ((usK R k).getD (k/8) 0) (2^(k%8)%256)):=
 (bitsP_or h (by show (decide (k<k+1)&&_)=true;rw [hu];simp) fun i hi=>by
  show (decide (i<k+1)&&_)=(decide (i<k)&&_)
  congr 1
  exact decide_eq_decide.2 (by omega)).symm
theorem usK_no {R:List Bool} {k:Nat} (hu:usF R k=false):usK R (k+1)=usK R k:=bitsP_ext fun i _=>by
 by_cases e:i=k
 ·subst e;rw [hu];simp
 ·congr 1
  exact decide_eq_decide.2 (by omega)
theorem usK_zero (R:List Bool):usK R 0=List.replicate ((R.length+7)/8) 0:=by
 unfold usK;rw [←bitsP_none];exact bitsP_ext fun i _=>by simp
section
variable {w w':World} {p d:Nat} {F:Nat→Prop} {D0:Dv} {L:List Int} {R:List Bool} {pcs:List C4} {ts:List (Nat × Value)}
set_option maxHeartbeats 2000000 in
set_option maxRecDepth 20000 in
theorem used_p (h:PWA w p d F D0 L R pcs ts) (nb:Nat) (hnb:(R.length+7)/8=nb):
  Calls Tryz.prog 60 #[.pointer (some ⟨p,0,none⟩)] w fun e w'=>∃g,e=.returned (.slice (some ⟨g,0,none⟩) nb nb)∧Own w.heap.size w' (.slice (some ⟨g,0,none⟩) nb nb) (usedL R)∧Below w.heap.size w w':=by
 obtain ⟨i0,hi0,hz0,hz1,hz2⟩:=info_parts info5;have hrn:=h.rn;obtain ⟨FD,gr,cr,m,aP,cP,h⟩:=h;have c1:=h.at.2.1;have hcap:=h.rch.cap;obtain ⟨N,hN⟩:∃N,R.length=N:=⟨_,rfl⟩;have HC:Hid (∀k,k<N→w.cell? ⟨gr,k,none⟩=some (.bool (R.getD k false))):=fun k hk=>(ownL_at h.rch k (by omega)).2.1
 have HG:Hid (gr<w.heap.size∧p<w.heap.size):=⟨hcap.2.2.2.1,h.lt p h.fp⟩;have hN4:N≤4096:=by omega
 have HN:Hid (R.length=N∧8≤N∧(N+7)/8=nb):=⟨hN,by omega,by omega⟩;have hq:((N:Int)+7)/8=(nb:Int):=by omega
 rw [hN] at c1;have hcr:N≤cr:=by omega
 have hcr2:=hcap.2.2.1;unfold maxLen at hcr2;have hm:nb≤maxLen:=by unfold maxLen;omega
 have hnb1:nb≤513:=by omega
 clear h hrn hcap hN hnb;go_enter Tryz.func60,Tryz.ntmps60
 go_wp2_with (at_make;refine wpList_make_full _ rfl _ _ 30 rfl w.heap.size 5 i0 (.int .u8 0) 1 Tryz.underlying30 hi0 hz0 hz1 .i64 .i64 _ _ nb rfl rfl hq hq (by rw [hz2];omega) hm (Nat.le_refl _) ?_;intro w1 hown1 hgrow1;have HO:Hid (Own w.heap.size w1 (.slice (some ⟨w.heap.size,0,none⟩) nb nb) (usK R 0)∧Below w.heap.size w w1):=⟨(by rw [usK_zero,HN.out.1,HN.out.2.2];exact made_own hown1),(Below.refl _ w).grown hgrow1 (Nat.le_refl _) (by simp)⟩;have c1':=(HO.out.2.cell (p:=⟨p,1,none⟩) HG.out.2).trans c1;clear hown1 hgrow1 hm c1 hq)
 go_loopg [19] N (fun gh i wr=>∃k:Nat,k≤N∧gh=N-k∧i=.int .i64 k∧Hid (Own w.heap.size wr (.slice (some ⟨w.heap.size,0,none⟩) nb nb) (usK R k)∧Below w.heap.size w wr))
 case atStart=>exact ⟨0,Nat.zero_le _,rfl,rfl,HO.out⟩
 case round=>
  clear HO;obtain ⟨k,hk,hgk,rfl,HI⟩:=hrel;have HGK:Hid (gk=N-k):=hgk;clear hgk;by_cases hlt:k<N
  ·have ck:=(HI.out.2.cell (p:=⟨gr,k,none⟩) HG.out.1).trans (HC.out k hlt);obtain ⟨-,b1,b2,hst⟩:=own_at' HI.out.1 (k/8) (by show _<(bitsP _ _).length;rw [bitsP_len];have:=HN.out;omega);have hyb:=(bitsP_bys (fun i=>decide (i<k)&&usF R i) R.length).at (k/8);have hyn:usF R k=true→usK R (k+1)=_:=usK_yes (by have:=HN.out.1;omega);have hno:usF R k=false→usK R (k+1)=usK R k:=usK_no;obtain ⟨b,hb⟩:∃b,R.getD k false=b:=⟨_,rfl⟩;rw [hb] at ck;have HB:Hid (R.getD k false=b):=hb;have hjl:k/8<nb:=by have:=HN.out.2.2;omega
   change 0≤(usK R k).getD (k/8) 0∧(usK R k).getD (k/8) 0≤255 at hyb
   obtain ⟨y,hy⟩:∃y,(usK R k).getD (k/8) 0=y:=⟨_,rfl⟩;rw [hy] at b1 hyn hyb;have hgne:¬gr=w.heap.size:=by have:=HG.out.1;omega
   have hpne:¬p=w.heap.size:=by have:=HG.out.2;omega
   obtain ⟨j,hj⟩:∃j,k/8=j:=⟨_,rfl⟩;have hkj:((k:Int)/8)=(j:Int):=by omega
   rw [hj] at b1 b2 hst hyn hjl;obtain ⟨r,hr⟩:∃r,k%8=r:=⟨_,rfl⟩;have hkr:((k:Int)%8)=(r:Int):=by omega
   have hr8:r<8:=by omega
   rw [hr] at hyn;have HS:Hid _:=hst;have HY:Hid _:=hyn;have HNo:Hid _:=hno;clear hst hyn hno hy hj hr hb;cases b with
   |true=>
    go_wp2;go_region
    go_wp2;go_roundg (N-(k+1))
    case rel=>exact ⟨k+1,by omega,rfl,by go_num,(by show _∧_;rw [HY.out (by unfold usF;rw [HB.out];simp)];exact ⟨HS.out _,(HI.out.2.setCell (Nat.le_refl _) _).drew⟩)⟩
    case measure=>have:=HGK.out;omega
   |false=>
    by_cases h2:k<2
    ·have h2i:decide ((k:Int)<2)=true:=decide_eq_true (by omega);go_wp2;go_region
     go_wp2;go_roundg (N-(k+1))
     case rel=>exact ⟨k+1,by omega,rfl,by go_num,(by show _∧_;rw [HY.out (by unfold usF;rw [decide_eq_true h2];rfl)];exact ⟨HS.out _,(HI.out.2.setCell (Nat.le_refl _) _).drew⟩)⟩
     case measure=>have:=HGK.out;omega
    ·have h2i:decide ((k:Int)<2)=false:=decide_eq_false (by omega);have HU:Hid (usK R (k+1)=usK R k):=HNo.out (by unfold usF;rw [decide_eq_false h2,HB.out];rfl);go_wp2;go_roundg (N-(k+1))
     case rel=>exact ⟨k+1,by omega,rfl,by go_num,(by show _∧_;rw [HU.out];exact HI.out)⟩
     case measure=>have:=HGK.out;omega
  ·obtain rfl:k=N:=by omega
   have HE:Hid (∃g,Ending.returned (.slice (some ⟨w.heap.size,0,none⟩) nb nb)=.returned (.slice (some ⟨g,0,none⟩) nb nb)∧Own w.heap.size wr (.slice (some ⟨g,0,none⟩) nb nb) (usedL R)∧Below w.heap.size w wr):=⟨_,rfl,(by rw [←usK_all (by have:=HN.out;omega),HN.out.1];exact HI.out.1),HI.out.2⟩;clear HI HC;go_wp2;go_ret
   exact HE.out
end
theorem conv_row {w:World} {a:Option Addr} {c n:Nat} {xs:List Int} (h:Row w a c xs) (hn:xs.length=n):(convert 30 9 (.slice a n c)).run Tryz.prog w=.ok (.string (strOfNums xs)) w:=by
 subst hn;rcases Nat.eq_zero_or_pos xs.length with h0|h0
 ·obtain rfl:xs=[]:=List.eq_nil_of_length_eq_zero h0;rw [run_convert_bytes_string w 30 9 5 _ _ c Tryz.underlying30 Tryz.underlying5 Tryz.underlying9];cases a<;>simp [Conv.bytesToString,loadCells]
  all_goals rfl
 ·obtain ⟨b,off,rfl⟩:=h.some' h0;exact run_convert_bytes_arg w 30 5 Tryz.underlying30 Tryz.underlying5 b off xs.length c xs rfl (fun i hi=>h.cells i hi) 9 Tryz.underlying9
theorem u8_inj {x y:Int} (hx:0≤x∧x≤255) (hy:0≤y∧y≤255) (h:UInt8.ofNat x.toNat=UInt8.ofNat y.toNat):x=y:=by
 have:=congrArg UInt8.toNat h;simp at this;omega
theorem map_inj {xs:List Int}:∀{ys:List Int},Bys xs→Bys ys→xs.map (fun n=>UInt8.ofNat n.toNat)=ys.map (fun n=>UInt8.ofNat n.toNat)→xs=ys:=by
 induction xs with
 |nil=>intro ys _ _ h;cases ys with|nil=>rfl|cons y ys=>simp at h
 |cons x xs ih=>
  intro ys hx hy h;cases ys with
  |nil=>simp at h
  |cons y ys=>
   simp only [List.map_cons,List.cons.injEq] at h;rw [u8_inj (hx x (List.mem_cons_self ..)) (hy y (List.mem_cons_self ..)) h.1,ih (fun z hz=>hx z (List.mem_cons_of_mem _ hz)) (fun z hz=>hy z (List.mem_cons_of_mem _ hz)) h.2]
theorem str_eq {xs ys:List Int} (hx:Bys xs) (hy:Bys ys):((strOfNums xs).toList==(strOfNums ys).toList)=decide (xs=ys):=by
 by_cases h:xs=ys
 ·subst h;simp
 ·rw [decide_eq_false h,beq_eq_false_iff_ne];intro e;refine h (map_inj hx hy ?_);rw [←strOfNums_data,←strOfNums_data,←Lib.toList_data,←Lib.toList_data];exact e
theorem equal_v {w:World} {a1 a2:Option Addr} {c1 c2 n1 n2:Nat} {xs ys:List Int} (h1:Row w a1 c1 xs) (h2:Row w a2 c2 ys) (e1:xs.length=n1) (e2:ys.length=n2) (b:Bool) (hb:decide (xs=ys)=b):
  Calls Tryz.prog 59 #[.slice a1 n1 c1,.slice a2 n2 c2] w fun e w'=>e=.returned (.bool b)∧w=w':=by
 have k1:=conv_row h1 e1;have k2:=conv_row h2 e2;have k3:=str_eq h1.1 h2.1;rw [hb] at k3;obtain ⟨s1,hs1⟩:∃s,strOfNums xs=s:=⟨_,rfl⟩;obtain ⟨s2,hs2⟩:∃s,strOfNums ys=s:=⟨_,rfl⟩;rw [hs1] at k1 k3;rw [hs2] at k2 k3;clear h1 h2 e1 e2 hb hs1 hs2;go_enter Tryz.func59,Tryz.ntmps59
 go_wp2;go_ret
 exact ⟨rfl,rfl⟩
theorem info4b:(Tryz.prog.info? 4).map (fun i=>(i.zero,i.size,i.bytes))=some (some (.bool false),1,1):=by kernel_rfl
theorem made_ownL {B g N:Nat} {w:World} (h:w.ownsRow B 4 1 (.slice (some ⟨g,0,none⟩) N N) N (madeCells (Value.bool false).cells (N*1)).toList):OwnL B w (.slice (some ⟨g,0,none⟩) N N) (List.replicate N false):=by
 unfold OwnL;rw [show (Value.bool false).cells= #[Value.bool false] from rfl,toList_madeCells_one,Nat.mul_one] at h;rw [List.length_replicate,List.map_replicate];exact h
theorem cnt_none (N:Nat):cnt (List.replicate N false)=0:=by
 unfold cnt
 induction N with
 |zero=>rfl
 |succ N ih=>simpa [List.replicate_succ] using ih
theorem pw_new {w w2:World} {p d g m N:Nat} {FD:Nat→Prop} {D0:Dv} {L:List Int} (hd:Dev w d FD D0) (hL:D0.now=L) (hN:D0.n=N) (hops:D0.ops≤1000000000000) (hb:Below w.heap.size w w2)
  (hc:w2.heap[p]?=some (.cells #[.pointer (some ⟨d,0,none⟩),.slice (some ⟨g,0,none⟩) N N,.slice none 0 0,.map (some m)] 121 (0,0)))
  (ho:OwnL w.heap.size w2 (.slice (some ⟨g,0,none⟩) N N) (List.replicate N false)) (hm:HeldV w2 m []) (lp:w.heap.size≤p) (lg:w.heap.size≤g) (lm:w.heap.size≤m) (npg:¬p=g) (npm:¬p=m) (ngm:¬g=m):
  PWA w2 p d (fun k=>FD k∨k=p∨k=g∨k=m) D0 L (List.replicate N false) [] []:=by
 have hF:∀k,FD k→k<w.heap.size:=hd.2.1;refine ⟨FD,g,N,m,none,0,{lt:=fun k hk=>?_,dev:=?_,told:=?_,now:=hL,rn:=by rw [List.length_replicate];exact hN.symm,ops:=hops,cells:=by rw [List.length_replicate];exact hc,rch:=?_,pc:=⟨rfl,.inl ⟨rfl,rfl⟩⟩,tx:=hm,row:=fun x hx=>(by cases hx),fD:=fun k hk=>.inl hk,fp:=.inr (.inl rfl),fg:=.inr (.inr (.inl rfl)),fm:=.inr (.inr (.inr rfl)),fP:=fun k ⟨x,e,_⟩=>(by cases e),pD:=fun e=>?_,gD:=fun e=>?_,mD:=fun e=>?_,PD:=fun k ⟨x,e,_⟩=>(by cases e),pg:=npg,pm:=npm,gm:=ngm,pP:=fun ⟨x,e,_⟩=>(by cases e),gP:=fun ⟨x,e,_⟩=>(by cases e),mP:=fun ⟨x,e,_⟩=>(by cases e)}⟩
 ·rcases hk with hk|rfl|rfl|rfl
  ·exact Nat.lt_of_lt_of_le (hF k hk) hb.size
  ·exact heap_lt hc
  ·exact ho.cap.2.2.2.1
  ·exact hm.lt
 ·rw [cnt_none];exact hd.below hb
 ·intro j hj;rw [cnt_none] at hj;omega
 ·rw [List.length_replicate];have:=ho;unfold OwnL World.ownsRow at this ⊢;obtain ⟨h1,h2|⟨q,cap,cur,e,h3,h4⟩⟩:=this
  ·exact ⟨h1,.inl h2⟩
  ·exact ⟨h1,.inr ⟨q,cap,cur,e,Nat.zero_le _,h4⟩⟩
 ·have:=hF _ e;omega
 ·have:=hF _ e;omega
 ·have:=hF _ e;omega
theorem rN_at (L:List Int) (i:Nat):(rN L).getD i false=false:=by
 unfold rN;rw [List.getD_eq_getElem?_getD,List.getElem?_replicate];split<;>rfl
theorem rN_len (L:List Int):(rN L).length=pgN L:=by simp [rN]
theorem su_no1 {L:List Int} {S:Sp} (h:∀T,suT L S=some T→T.s.b=S.b→T.s.l=S.l→¬FrR (rN L) T.tp) (r:Rp):¬Su L S r:=by
 rintro ⟨-,T,R2,st,R3,fr,hok,-⟩;exact h T hok.t hok.b hok.l ⟨hok.nd,fun n _=>rN_at L n⟩
theorem su_no2 {L:List Int} {S:Sp} {T:Tc} (hT:suT L S=some T) (h:¬∀x∈T.pc,pcR L (mkR (rN L) T.tp) x) (r:Rp):¬Su L S r:=by
 rintro ⟨-,T',R2,st,R3,fr,hok,-⟩;have e:=hok.t;rw [hT] at e;cases e;refine h fun x hx=>⟨hok.pc x hx,?_⟩
 have hin:=(pcK_in (hok.pc x hx)).2;rw [mkR_at (by rw [rN_len];exact hin),rN_at,decide_eq_false (fun e=>hok.ap _ e (List.mem_map.2 ⟨x,hx,rfl⟩))];rfl
theorem su_ok {L:List Int} {S:Sp} {T:Tc} (hT:suT L S=some T) (hF:FrR (rN L) T.tp) (hb:T.s.b=S.b) (hl:T.s.l=S.l) (h:∀x∈T.pc,pcR L (mkR (rN L) T.tp) x):SuOk L S T where
 t:=hT
 nd:=hF.1
 ap:=fun n hn hm=>by
  obtain ⟨x,hx,rfl⟩:=List.mem_map.1 hm;have h1:=(h x hx).2;have hin:=(pcK_in (h x hx).1).2;rw [mkR_at (by rw [rN_len];exact hin),decide_eq_true hn] at h1;simp at h1
 pc:=fun x hx=>(h x hx).1
 b:=hb
 l:=hl
theorem SuOk.one {L:List Int} {S:Sp} {T T':Tc} (h:SuOk L S T) (h':SuOk L S T'):T'=T:=by
 have e:=h'.t;rw [h.t] at e;cases e;rfl
theorem su_no3 {L:List Int} {S:Sp} {T:Tc} (hok:SuOk L S T) (h:chB L (pgN L+1) S.s (mkR (rN L) (T.tp++pgs T.pc)) []=none) (r:Rp):¬Su L S r:=by
 rintro ⟨-,T',R2,st,R3,fr,hok',h1,-⟩;rw [hok.one hok',h] at h1;cases h1
theorem su_no4 {L:List Int} {S:Sp} {T:Tc} {R2:List Bool} {st:List Int} (hok:SuOk L S T) (h:chB L (pgN L+1) S.s (mkR (rN L) (T.tp++pgs T.pc)) []=some (R2,st)) (h2:chB L (pgN L+1) S.f R2 []=none) (r:Rp):¬Su L S r:=by
 rintro ⟨-,T',R2',st',R3,fr,hok',h1,h3,-⟩;rw [hok.one hok',h] at h1;cases h1;rw [h2] at h3;cases h3
theorem su_no5 {L:List Int} {S:Sp} {T:Tc} {R2 R3:List Bool} {st fr:List Int} (hok:SuOk L S T) (h:chB L (pgN L+1) S.s (mkR (rN L) (T.tp++pgs T.pc)) []=some (R2,st)) (h2:chB L (pgN L+1) S.f R2 []=some (R3,fr)) (hne:¬fr=usedL R3) (r:Rp):¬Su L S r:=by
 rintro ⟨-,T',R2',st',R3',fr',hok',h1,h3,h4,-⟩;rw [hok.one hok',h] at h1;cases h1;rw [h2] at h3;cases h3;exact hne h4
end Go.Proofs.YtjllhcifmfhkmaaGreat.Oct
