/- Part of a proof. -/
import Derived.Test.YtjllhcifmfhkmaaGreatBe
import Derived.BigRegion
set_option maxHeartbeats 2000000
namespace Go.Proofs.YtjllhcifmfhkmaaGreat.Oct
open Go.RowKit
theorem wrap_in {z:Int} (h0: -9223372036854775808≤z) (h1:z≤9223372036854775807):IntKind.i64.wrap z=z:=by
 simp [IntKind.wrap,IntKind.signed,IntKind.bits];omega
section
variable {w w':World} {p gk ck cP cT ic:Nat} {F:Nat→Prop} {ia aP aT:Option Addr} {L:List Int} {q:Nat→Value} {W:Wk}
set_option maxRecDepth 20000 in
theorem piece_00 (h:RW w p F ia ic L gk ck aP aT cP cT q W) (hbad:W.bad=false) (hok:WkOk W) (hk0:0<W.kd.length) (x:C4) (hx:okC false x=true) (hk:kdB W x.a 120=true) (ht:teE (pageOf L x.a.toNat)=0∧x.b+x.c≤((teL (pageOf L x.a.toNat)).length:Int)) (hl:lin (seg (teL (pageOf L x.a.toNat)) x)=x.d) (hm:(W.tx++seg (teL (pageOf L x.a.toNat)) x).length≤1048576):
  Calls Tryz.prog 99 #[.pointer (some ⟨p,0,none⟩),c4V x] w fun e w'=>e=.returned (.tuple #[])∧∃F' aP' aT' cP' cT',RW w' p F' ia ic L gk ck aP' aT' cP' cT' q ⟨W.kd.set x.a.toNat 120,W.pc++[x],W.tx++seg (teL (pageOf L x.a.toNat)) x,false⟩∧Step F F' w w':=by
 obtain ⟨i0,hi0,hz0,hz1,hz2⟩:=info_parts infoP;obtain ⟨j0,hj0,hy0,hy1,hy2⟩:=info_parts info5;have hb:=okC_bd hx;have hb5:=hb.2.2.2.2 rfl;obtain ⟨A,B,C,D⟩:=x;simp only at hb hb5 hk ht hl hm ⊢;obtain ⟨Bn,rfl⟩:=Int.eq_ofNat_of_zero_le hb.2.1.1;obtain ⟨Cn,rfl⟩:=Int.eq_ofNat_of_zero_le (show 0≤C by omega);have hp:=page_yes (h.below hk0 (w':=w.alloc (.cells #[.int .i64 A,.int .i64 Bn,.int .i64 Cn,.int .i64 D] 72)) ((Below.refl _ w).alloc (Nat.le_refl _) _)) A 120 (by omega) hk;have HF:Hid (∀w2,Ch (w.alloc (.cells #[.int .i64 A,.int .i64 Bn,.int .i64 Cn,.int .i64 D] 72)).heap.size F (w.alloc (.cells #[.int .i64 A,.int .i64 Bn,.int .i64 Cn,.int .i64 D] 72)) w2→∀j,w2.cell? ⟨w.heap.size,j,none⟩=(w.alloc (.cells #[.int .i64 A,.int .i64 Bn,.int .i64 Cn,.int .i64 D] 72)).cell? ⟨w.heap.size,j,none⟩):=fun w2 hc j=>h.fresh hc j
 have HB0:Hid (∀o,Below w.heap.size w (w.alloc o)):=fun o=>(Below.refl _ w).alloc (Nat.le_refl _) o
 have HK:Hid (0<W.kd.length):=hk0;have HBAD:Hid (W.bad=false):=hbad;have HFL:Hid (∀k,F k→k<w.heap.size):=h.lt;have hbP:W.pc.length≤1048576∧W.tx.length≤1048576:=by have:=hok.1;have:=hok.2 hbad;omega
 unfold c4V;obtain ⟨T,hT⟩:∃T,teL (pageOf L A.toNat)=T:=⟨_,rfl⟩;rw [hT] at ht hl hm ⊢;have HT:Hid (teL (pageOf L A.toNat)=T∧teE (pageOf L A.toNat)=0):=⟨hT,ht.1⟩;have htl:Bn+Cn≤T.length:=by omega
 have hsg:seg T ⟨A,Bn,Cn,D⟩=(T.drop Bn).take Cn:=rfl;rw [hsg] at hl hm ⊢;obtain ⟨z,hz⟩:∃z,(T.drop Bn).take Cn=z:=⟨_,rfl⟩;have HZ:Hid ((T.drop Bn).take Cn=z):=hz;have hzl:z.length=Cn:=by rw [←hz];simp;omega
 have HZL:Hid (z.length=Cn):=hzl;rw [hz] at hl hm ⊢;obtain ⟨ab,hab⟩:∃ab,w.heap.size=ab:=⟨_,rfl⟩;have HAB:Hid (w.heap.size=ab):=hab;have HHL:Hid (lin z=D):=hl;have HHM:Hid _:=hm;clear h hx hk ht hbad hab hk0 hok hT hsg hz hl hm hzl;go_enter Tryz.func99,Tryz.ntmps99
 go_wp2_with fail
 refine hp.mono ?_;clear hp;rintro e w1 ⟨⟨a',c',rfl,hr1,hl1,hobl⟩,h1,hc1⟩;obtain ⟨-,-,-,-,c16⟩:=h1.at;simp only [HBAD.out] at c16;rw [HAB.out];have ls:ab<w1.heap.size:=by have:=hc1.size;simp at this;have:=HAB.out;omega
 have f0:w1.cell? ⟨ab,0,none⟩=some (.int .i64 A):=by rw [←HAB.out];exact (HF.out w1 hc1 0).trans (by simp [go_sem])
 have f1:w1.cell? ⟨ab,1,none⟩=some (.int .i64 Bn):=by rw [←HAB.out];exact (HF.out w1 hc1 1).trans (by simp [go_sem])
 have f2:w1.cell? ⟨ab,2,none⟩=some (.int .i64 Cn):=by rw [←HAB.out];exact (HF.out w1 hc1 2).trans (by simp [go_sem])
 have f3:w1.cell? ⟨ab,3,none⟩=some (.int .i64 D):=by rw [←HAB.out];exact (HF.out w1 hc1 3).trans (by simp [go_sem])
 have H1:Hid (RW w1 p F ia ic L gk ck aP aT cP cT q {W with kd:=W.kd.set A.toNat 120}∧Ch w.heap.size F w w1):=⟨h1,(Ch.of F (HB0.out _)).trans (hc1.mono (by simp) (fun _ _ e=>e))⟩;have htx:=rtext_f (some a') c' 256 (pageOf L A.toNat) w1 hr1 hl1 0 HT.out.2 T HT.out.1 _ rfl;have hTb:T.length≤248:=by rw [←HT.out.1];exact teL_le hr1.1
 have lp:p<w1.heap.size:=h1.lt p h1.fp;clear h1 hc1 hr1 hl1 hobl HF HT;go_wp2_with fail
 refine htx.mono ?_;clear htx;rintro e w2 ⟨g,c,rfl,-,hgl,hrT,hb2⟩;have d16:=(hb2.cell (p:=⟨p,16,none⟩) lp).trans c16;have g0:=(hb2.cell (p:=⟨ab,0,none⟩) ls).trans f0;have g1:=(hb2.cell (p:=⟨ab,1,none⟩) ls).trans f1;have g2:=(hb2.cell (p:=⟨ab,2,none⟩) ls).trans f2;have g3:=(hb2.cell (p:=⟨ab,3,none⟩) ls).trans f3;have H2:Hid (RW w2 p F ia ic L gk ck aP aT cP cT q {W with kd:=W.kd.set A.toNat 120}∧Ch w.heap.size F w w2):=⟨H1.out.1.below (by show 0<(W.kd.set _ _).length;rw [List.length_set];exact HK.out) hb2,H1.out.2.trans (Ch.of F (hb2.mono H1.out.2.size))⟩;obtain ⟨tb,tf,rfl⟩:=hrT.some' (by omega);have HRT:Hid (Row w2 (some ⟨tb,tf,none⟩) c T):=hrT;have hcap:=hrT.2.1;have hcm:=hrT.2.2.1;unfold maxLen at hcm;have HTB:Hid (w1.heap.size≤tb):=hgl _ rfl;have lsb:Hid (ab<w2.heap.size):=Nat.lt_of_lt_of_le ls hb2.size;have HW1:Hid (ab<w1.heap.size):=ls;clear hb2 H1 c16 f0 f1 f2 f3 hrT hgl;obtain ⟨E,hE⟩:∃E,Bn+Cn=E:=⟨_,rfl⟩;have hEi:(Bn:Int)+(Cn:Int)=(E:Int):=by omega
 have hEl:E≤T.length:=by omega
 have hBE:Bn≤E:=by omega
 have HE:Hid (Bn+Cn=E):=hE;clear hE;go_wp2;go_loopw [7,8] (fun v i wr=>∃j:Nat,Bn≤j∧j≤E∧i=.int .i64 j∧v=.int .i64 (lnJ T Bn j)∧w2=wr) (fun _ i _=>E-(intOf i).toNat)
 case atStart=>exact ⟨Bn,Nat.le_refl _,hBE,rfl,by rw [lnJ_zero],rfl⟩
 case round=>
  obtain ⟨j,hj1,hj2,rfl,rfl,rfl⟩:=hrel;by_cases hlt:j<E
  ·have e1:=HRT.out.cells j (by omega);have hsu:=lnJ_succ hj1 (show j<T.length by omega);have hbd:=lnJ_bd T Bn j;obtain ⟨v,hv⟩:∃v,lnJ T Bn j=v:=⟨_,rfl⟩;obtain ⟨y,hy⟩:∃y,T.getD j 0=y:=⟨_,rfl⟩;rw [hv] at hsu hbd ⊢;rw [hy] at hsu e1;have hj8:j≤248:=by omega
   have hjT:j<T.length:=by omega
   by_cases e:y=10
   ·subst e;have HS:Hid (lnJ T Bn (j+1)=v+1):=by show _=_;rw [hsu,if_pos rfl]
    clear hsu hv hy;go_wp2;go_roundw
    case rel=>exact ⟨j+1,by omega,by omega,by go_num,by rw [HS.out],trivial⟩
    case measure=>simp [intOf];omega
   ·have e':(y==10)=false:=by simpa using e
    have HS:Hid (lnJ T Bn (j+1)=v):=by show _=_;rw [hsu,if_neg e];omega
    clear hsu hv hy e;go_wp2;go_roundw
    case rel=>exact ⟨j+1,by omega,by omega,by go_num,by rw [HS.out],trivial⟩
    case measure=>simp [intOf];omega
  ·have hj:j=E:=by omega
   subst hj;have HLn:Hid (lnJ T Bn j=lin z):=by show _=_;rw [←HE.out,lnJ_all,HZ.out]
   rw [HLn.out];obtain ⟨v,hv⟩:∃v,lin z=v:=⟨_,rfl⟩;have hvD:=HHL.out;rw [hv] at hvD ⊢;have z16:=H2.out.1.frz 16;obtain ⟨-,-,m11,m12,-⟩:=H2.out.1.at;simp only at m11 m12;clear hv HLn;subst hvD;have H3:Hid (RW w2 p F ia ic L gk ck aP aT cP cT q {W with kd:=W.kd.set A.toNat 120}∧Ch w.heap.size F w w2):=H2.out;clear H2;have HN3:Hid (0<(W.kd.set A.toNat 120).length):=by show 0<_;rw [List.length_set];exact HK.out
   have HAP:Hid (w2.ownsRow 0 72 4 (.slice aP W.pc.length cP) W.pc.length (W.pc.flatMap vals4)):=H3.out.1.pc
   have HFIN:Hid (∀(w5:World) (g5 cap5:Nat) (o:Obj),w5.ownsRow 0 72 4 (.slice (some ⟨g5,0,none⟩) (W.pc.length+1) cap5) (W.pc.length+1) (W.pc.flatMap vals4++[.int .i64 A,.int .i64 Bn,.int .i64 Cn,.int .i64 v])→(w2.alloc o).grownBy w5 (Value.slice aP W.pc.length cP).ownBlock→((Value.slice aP W.pc.length cP).ownBlock=some g5∨g5=w2.heap.size+1)→g5<w5.heap.size→
     (w5.cell? ⟨p,11,none⟩=some (.slice aP W.pc.length cP)∧w5.frozen? ⟨p,11,none⟩=false)∧RW (w5.setCell ⟨p,11,none⟩ (.slice (some ⟨g5,0,none⟩) (W.pc.length+1) cap5)) p (fun k=>F k∨k=g5) ia ic L gk ck (some ⟨g5,0,none⟩) aT cap5 cT q ⟨W.kd.set A.toNat 120,W.pc++[⟨A,Bn,Cn,v⟩],W.tx,W.bad⟩∧Step F (fun k=>F k∨k=g5) w2 (w5.setCell ⟨p,11,none⟩ (.slice (some ⟨g5,0,none⟩) (W.pc.length+1) cap5))):=fun w5 g5 cap5 o h1 h2 h3 h4=>H3.out.1.afterPc HN3.out ⟨A,Bn,Cn,v⟩ h1 h2 h3 h4
   obtain ⟨nP,hnP⟩:∃nP,W.pc.length=nP:=⟨_,rfl⟩;have hnP1:nP≤1048576:=by omega
   rw [hnP] at m11 HAP HFIN;clear hnP;have lp2:p<w2.heap.size:=H3.out.1.lt p H3.out.1.fp;have m11a:∀o,(w2.alloc o).cell? ⟨p,11,none⟩=some (.slice aP nP cP):=fun o=>(World.cell?_alloc_lt _ _ _ lp2).trans m11
   go_wp2;go_region_law ((refine step_append_lies _ (by rfl) (.tmp 67) (.tmp 69) 29 (by rfl) 0 72 i0 zero4 4 32 Tryz.underlying29 hi0 hz0 hz1 hz2 rfl (by omega) (.slice aP nP cP) nP (W.pc.flatMap vals4) (by rfl) (World.ownsRow.alloc HAP.out _) ⟨w2.heap.size,0,none⟩ 1 1 [.int .i64 A,.int .i64 Bn,.int .i64 Cn,.int .i64 v] (by rfl) (by rfl) (World.news_of_block (heap_alloc_new w2 _)) (by simp [Value.oneCell']) (by omega) (by unfold maxLen;omega) (by omega) (by simp) (w2.heap.size+1) (by simp) ?_;intro g5 cap5 w5 hown5 hgrow5 hat5 hlt5;obtain ⟨⟨r5,rz5⟩,hfin⟩:=HFIN.out w5 g5 cap5 _ hown5 ⟨hgrow5.os,hgrow5.tape,hgrow5.output,hgrow5.size,hgrow5.block⟩ hat5 hlt5;have HE5:Hid _:=hfin;clear hown5 hgrow5 hat5 hlt5 hfin))
   all_goals
    obtain ⟨w6,hw6⟩:∃w6,w5.setCell ⟨p,11,none⟩ (.slice (some ⟨g5,0,none⟩) (nP+1) cap5)=w6:=⟨_,rfl⟩;rw [hw6] at HE5 ⊢;have hnF:Hid (¬F ab∧¬F tb):=⟨fun e=>by have:=HFL.out ab e;have:=HAB.out;omega,fun e=>by have:=HFL.out tb e;have:=HAB.out;have:=HTB.out;have:=HW1.out;omega⟩;have ltb:Hid (tb<w2.heap.size):=block_lt_of_cell (HRT.out.cells 0 (by omega));have k1:=(HE5.out.2.1.cell (p:=⟨ab,1,none⟩) lsb.out hnF.out.1).trans g1;have k2:=(HE5.out.2.1.cell (p:=⟨ab,2,none⟩) lsb.out hnF.out.1).trans g2;have HR6:Hid (Row w6 (some ⟨tb,tf,none⟩) c T):=HRT.out.keepO (fun g hg=>by obtain ⟨x,hx,rfl⟩:=hg;cases hx;exact HE5.out.2.1.block tb ltb.out hnF.out.2);obtain ⟨-,-,-,n12,n16⟩:=HE5.out.1.at;have y16:=HE5.out.1.frz 16;simp only at n12 n16;have HZB:Hid (Bys z):=fun y hy=>HRT.out.1 y (by rw [←HZ.out] at hy;exact List.mem_of_mem_drop (List.mem_of_mem_take hy))
    have HAT:Hid (w6.ownsRow 0 5 1 (.slice aT W.tx.length cT) W.tx.length (W.tx.map (Value.int .u8))):=HE5.out.1.tx
    have HNW:Hid (∀(j:Nat) (u:Value),(z.map (Value.int .u8))[j]?=some u→w6.cell? ((⟨tb,tf+Bn,none⟩:Addr).add j)=some u):=by
     intro j u hj
     have hlt:j<z.length:=by
      rcases Nat.lt_or_ge j z.length with e|e
      ·exact e
      ·rw [List.getElem?_eq_none (by simpa using e)] at hj;cases hj
     have hzl:=HZL.out;have e1:=HR6.out.cells (Bn+j) (by omega);rw [show (⟨tb,tf+Bn,none⟩:Addr).add j=⟨tb,tf+(Bn+j),none⟩ by simp [Addr.add,Nat.add_assoc],e1,←hj,List.getElem?_map,←HZ.out,List.getElem?_take,if_pos (by omega),List.getElem?_drop,List.getD_eq_getElem?_getD,List.getElem?_eq_getElem (by omega)];rfl
    have HFT:Hid (∀(w7:World) (g7 cap7:Nat),w7.ownsRow 0 5 1 (.slice (some ⟨g7,0,none⟩) (W.tx.length+Cn) cap7) (W.tx.length+Cn) (W.tx.map (Value.int .u8)++z.map (Value.int .u8))→w6.grownBy w7 (Value.slice aT W.tx.length cT).ownBlock→((Value.slice aT W.tx.length cT).ownBlock=some g7∨g7=w6.heap.size)→g7<w7.heap.size→
      (w7.cell? ⟨p,12,none⟩=some (.slice aT W.tx.length cT)∧w7.frozen? ⟨p,12,none⟩=false)∧RW (w7.setCell ⟨p,12,none⟩ (.slice (some ⟨g7,0,none⟩) (W.tx.length+Cn) cap7)) p (fun k=>(F k∨k=g5)∨k=g7) ia ic L gk ck (some ⟨g5,0,none⟩) (some ⟨g7,0,none⟩) cap5 cap7 q ⟨W.kd.set A.toNat 120,W.pc++[⟨A,Bn,Cn,v⟩],W.tx++z,W.bad⟩∧Step (fun k=>F k∨k=g5) (fun k=>(F k∨k=g5)∨k=g7) w6 (w7.setCell ⟨p,12,none⟩ (.slice (some ⟨g7,0,none⟩) (W.tx.length+Cn) cap7))):=fun w7 g7 cap7 h1 h2 h3 h4=>HE5.out.1.afterTx HN3.out HZB.out HZL.out h1 h2 h3 h4
    have HST:Hid (Step F (fun k=>F k∨k=g5) w w6):=(Step.of H3.out.2).trans HE5.out.2;have HA6:Hid (ab<w6.heap.size∧¬obl aT ab):=⟨Nat.lt_of_lt_of_le lsb.out HE5.out.2.1.size,fun e=>hnF.out.1 (H3.out.1.fT ab e)⟩;have hpab:p<ab:=by have:=HFL.out p H3.out.1.fp;have:=HAB.out;omega
    have HMX:Hid (W.tx.length+Cn≤1048576):=by have:=HHM.out;have h2:=HZL.out;rw [List.length_append,h2] at this;exact this
    obtain ⟨nT,hnT⟩:∃nT,W.tx.length=nT:=⟨_,rfl⟩;have HNT:Hid (W.tx.length=nT):=hnT;rw [hnT] at n12 HAT HFT HMX;have hnT1:nT≤1048576:=by omega
    have hmx:=HMX.out;have hjc:j≤c:=by omega
    have hwr:IntKind.i64.wrap (j:Int)=(j:Int):=wrap_in (by omega) (by omega);have hcB:¬c=Bn:=by omega
    have hjB:j-Bn=Cn:=by omega
    have hjBi:(j:Int)-(Bn:Int)=(Cn:Int):=by omega
    have hCz:(z.map (Value.int .u8)).length=Cn*1:=by rw [List.length_map,HZL.out,Nat.mul_one]
    have HCZ:Hid ((z.map (Value.int .u8)).length=Cn*1):=hCz;have hc1:0<Cn:=by omega
    clear hnT hw6 HE5 r5 rz5 hCz m12 d16 g0 g1 g2 g3 m11 m11a z16;go_wp2;refine wp_region_held_drew (S:=(fun w'=>w'.cell? ⟨ab,1,none⟩=some (.int .i64 Bn)∧w'.cell? ⟨ab,2,none⟩=some (.int .i64 Cn))) (by kernel_rfl) ?_ (fun hHeld=>?_)
    ·(first|go_keep|exact ⟨by assumption,by assumption⟩)
    refine tkH ?_ 0 ?_ ?_;rotate_left
    ·(intro w hSw;(try dsimp only at hSw);go_simp;first|done|with_reducible rfl)
    simp only [gx];refine tkH ?_ 1 ?_ ?_;rotate_left
    ·(intro w hSw;(try dsimp only at hSw);go_simp;first|done|with_reducible rfl)
    simp only [gx];refine tkH ?_ 2 ?_ ?_;rotate_left
    ·(intro w hSw;(try dsimp only at hSw);go_simp;first|done|with_reducible rfl)
    simp only [gx];refine tkH ?_ 3 ?_ ?_;rotate_left
    ·(intro w hSw;(try dsimp only at hSw);go_simp;first|done|with_reducible rfl)
    simp only [gx];refine tkH ?_ 4 ?_ ?_;rotate_left
    ·(intro w hSw;(try dsimp only at hSw);go_simp;first|done|with_reducible rfl)
    simp only [gx];refine tkH ?_ 6 ?_ ?_;rotate_left
    ·(intro w hSw;(try dsimp only at hSw);go_simp;first|done|with_reducible rfl)
    simp only [gx];refine tkH ?_ 7 ?_ ?_;rotate_left
    ·(intro w hSw;(try dsimp only at hSw);go_simp;first|done|with_reducible rfl)
    simp only [gx];refine tkH ?_ 8 ?_ ?_;rotate_left
    ·(intro w hSw;(try dsimp only at hSw);go_simp;first|done|with_reducible rfl)
    simp only [gx];refine tkH ?_ 9 ?_ ?_;rotate_left
    ·(intro w hSw;(try dsimp only at hSw);go_simp;first|done|with_reducible rfl)
    simp only [gx];refine tkH ?_ 10 ?_ ?_;rotate_left
    ·(intro w hSw;(try dsimp only at hSw);go_simp;first|done|with_reducible rfl)
    simp only [gx];refine tkH ?_ 11 ?_ ?_;rotate_left
    ·(intro w hSw;(try dsimp only at hSw);go_simp;first|done|with_reducible rfl)
    simp only [gx];refine tkH ?_ 12 ?_ ?_;rotate_left
    ·(intro w hSw;(try dsimp only at hSw);go_simp;first|done|with_reducible rfl)
    simp only [gx];refine tkH ?_ 13 ?_ ?_;rotate_left
    ·(intro w hSw;(try dsimp only at hSw);go_simp;first|done|with_reducible rfl)
    simp only [gx];refine tkH ?_ 14 ?_ ?_;rotate_left
    ·(intro w hSw;(try dsimp only at hSw);go_simp;first|done|with_reducible rfl)
    simp only [gx];refine wpAnyH_ready (rs:=[5]) (by kernel_rfl) (by simp) ?_;refine AllReadyH.cons rfl (fun K hK=>?_) AllReadyH.nil;go_simp
    skip
    go_wp2_with fail
    refine hK.out _ _ ?_ (fun hHeld2=>?_)
    ·(first|go_keep|exact ⟨by assumption,by assumption⟩)
    clear hK K hHeld;have hHeld:=hHeld2;clear hHeld2;refine wpAnyH_ready (rs:=[15]) (by kernel_rfl) (by simp) ?_;refine AllReadyH.cons rfl (fun K hK=>?_) AllReadyH.nil
    (refine step_append_lies _ (by rfl) (.tmp 79) (.tmp 88) 30 (by rfl) 0 5 j0 (.int .u8 0) 1 1 Tryz.underlying30 hj0 hy0 hy1 hy2 rfl (by omega) (.slice aT nT cT) nT (W.tx.map (Value.int .u8)) (by rfl) HAT.out ⟨tb,tf+Bn,none⟩ Cn (c-Bn) (z.map (Value.int .u8)) (by rfl) HCZ.out HNW.out (one_cells z) hc1 (by unfold maxLen;omega) (by omega) (by simp) w6.heap.size (by rfl) ?_;intro g7 cap7 w7 hown7 hgrow7 hat7 hlt7;have e7:w7.heap[ab]?=w6.heap[ab]?:=hgrow7.block ab HA6.out.1 (fun e=>HA6.out.2 (obl_own e.symm));have q1:w7.cell? ⟨ab,1,none⟩=some (.int .i64 Bn):=(World.cell?_of_block (w:=w6) (a:=⟨ab,1,none⟩) e7).trans k1;have q2:w7.cell? ⟨ab,2,none⟩=some (.int .i64 Cn):=(World.cell?_of_block (w:=w6) (a:=⟨ab,2,none⟩) e7).trans k2;have s1:(w7.setCell ⟨p,12,none⟩ (.slice (some ⟨g7,0,none⟩) (nT+Cn) cap7)).cell? ⟨ab,1,none⟩=some (.int .i64 Bn):=(World.cell?_setCell_other _ _ _ _ (by intro e;injection e with e1;omega)).trans q1;have s2:(w7.setCell ⟨p,12,none⟩ (.slice (some ⟨g7,0,none⟩) (nT+Cn) cap7)).cell? ⟨ab,2,none⟩=some (.int .i64 Cn):=(World.cell?_setCell_other _ _ _ _ (by intro e;injection e with e1;omega)).trans q2;obtain ⟨⟨r7,rz7⟩,hfin⟩:=HFT.out w7 g7 cap7 hown7 ⟨hgrow7.os,hgrow7.tape,hgrow7.output,hgrow7.size,hgrow7.block⟩ hat7 hlt7;have HE7:Hid _:=hfin;clear hown7 hgrow7 hat7 hlt7 hfin)
    simp only [gx];refine hK.out _ _ ?_ (fun hHeld2=>?_)
    ·(first|go_keep|exact ⟨by assumption,by assumption⟩)
    clear hK K hHeld;have hHeld:=hHeld2;clear hHeld2;refine tkH ?_ 16 ?_ ?_;rotate_left
    ·(intro w hSw;(try dsimp only at hSw);go_simp;first|done|with_reducible rfl)
    simp only [gx];refine tkH ?_ 17 ?_ ?_;rotate_left
    ·(intro w hSw;(try dsimp only at hSw);go_simp;first|done|with_reducible rfl)
    simp only [gx];refine tkH ?_ 18 ?_ ?_;rotate_left
    ·(intro w hSw;(try dsimp only at hSw);go_simp;first|done|with_reducible rfl)
    simp only [gx];refine wpAnyH_ready (rs:=[19]) (by kernel_rfl) (by simp) ?_;refine AllReadyH.cons rfl (fun K hK=>?_) AllReadyH.nil;go_simp
    skip
    go_wp2_with fail
    refine hK.out _ _ ?_ (fun hHeld2=>?_)
    ·(first|go_keep|exact ⟨by assumption,by assumption⟩)
    clear hK K hHeld;have hHeld:=hHeld2;clear hHeld2;refine wpAnyH_done (by kernel_rfl) ?_ _;obtain ⟨w8,hw8⟩:∃w8,w7.setCell ⟨p,12,none⟩ (.slice (some ⟨g7,0,none⟩) (nT+Cn) cap7)=w8:=⟨_,rfl⟩;rw [hw8] at HE7 ⊢;obtain ⟨-,-,-,o12,o16⟩:=HE7.out.1.at;have x16:=HE7.out.1.frz 16;simp only [List.length_append,HZL.out,HNT.out] at o12 o16;have HS8:Hid (Step F (fun k=>(F k∨k=g5)∨k=g7) w w8):=HST.out.trans HE7.out.2;clear hw8 r7 rz7 n12 n16 y16 k1 k2 hHeld q1 q2 s1 s2 e7;go_wp2;go_end0
    exact ⟨rfl,_,_,_,_,_,by have:=HE7.out.1;rw [HBAD.out] at this;exact this,HS8.out⟩
set_option maxRecDepth 20000 in
theorem piece_01 (h:RW w p F ia ic L gk ck aP aT cP cT q W) (hbad:W.bad=false) (hok:WkOk W) (hk0:0<W.kd.length) (x:C4) (hx:okC false x=true) (hk:kdB W x.a 120=true) (ht:teE (pageOf L x.a.toNat)=0∧x.b+x.c≤((teL (pageOf L x.a.toNat)).length:Int)) (hl:lin (seg (teL (pageOf L x.a.toNat)) x)=x.d) (hm:1048576<(W.tx++seg (teL (pageOf L x.a.toNat)) x).length):
  Calls Tryz.prog 99 #[.pointer (some ⟨p,0,none⟩),c4V x] w fun e w'=>e=.returned (.tuple #[])∧∃F' aP' aT' cP' cT',RW w' p F' ia ic L gk ck aP' aT' cP' cT' q ⟨W.kd.set x.a.toNat 120,W.pc++[x],W.tx++seg (teL (pageOf L x.a.toNat)) x,true⟩∧Step F F' w w':=by
 obtain ⟨i0,hi0,hz0,hz1,hz2⟩:=info_parts infoP;obtain ⟨j0,hj0,hy0,hy1,hy2⟩:=info_parts info5;have hb:=okC_bd hx;have hb5:=hb.2.2.2.2 rfl;obtain ⟨A,B,C,D⟩:=x;simp only at hb hb5 hk ht hl hm ⊢;obtain ⟨Bn,rfl⟩:=Int.eq_ofNat_of_zero_le hb.2.1.1;obtain ⟨Cn,rfl⟩:=Int.eq_ofNat_of_zero_le (show 0≤C by omega);have hp:=page_yes (h.below hk0 (w':=w.alloc (.cells #[.int .i64 A,.int .i64 Bn,.int .i64 Cn,.int .i64 D] 72)) ((Below.refl _ w).alloc (Nat.le_refl _) _)) A 120 (by omega) hk;have HF:Hid (∀w2,Ch (w.alloc (.cells #[.int .i64 A,.int .i64 Bn,.int .i64 Cn,.int .i64 D] 72)).heap.size F (w.alloc (.cells #[.int .i64 A,.int .i64 Bn,.int .i64 Cn,.int .i64 D] 72)) w2→∀j,w2.cell? ⟨w.heap.size,j,none⟩=(w.alloc (.cells #[.int .i64 A,.int .i64 Bn,.int .i64 Cn,.int .i64 D] 72)).cell? ⟨w.heap.size,j,none⟩):=fun w2 hc j=>h.fresh hc j
 have HB0:Hid (∀o,Below w.heap.size w (w.alloc o)):=fun o=>(Below.refl _ w).alloc (Nat.le_refl _) o
 have HK:Hid (0<W.kd.length):=hk0;have HBAD:Hid (W.bad=false):=hbad;have HFL:Hid (∀k,F k→k<w.heap.size):=h.lt;have hbP:W.pc.length≤1048576∧W.tx.length≤1048576:=by have:=hok.1;have:=hok.2 hbad;omega
 unfold c4V;obtain ⟨T,hT⟩:∃T,teL (pageOf L A.toNat)=T:=⟨_,rfl⟩;rw [hT] at ht hl hm ⊢;have HT:Hid (teL (pageOf L A.toNat)=T∧teE (pageOf L A.toNat)=0):=⟨hT,ht.1⟩;have htl:Bn+Cn≤T.length:=by omega
 have hsg:seg T ⟨A,Bn,Cn,D⟩=(T.drop Bn).take Cn:=rfl;rw [hsg] at hl hm ⊢;obtain ⟨z,hz⟩:∃z,(T.drop Bn).take Cn=z:=⟨_,rfl⟩;have HZ:Hid ((T.drop Bn).take Cn=z):=hz;have hzl:z.length=Cn:=by rw [←hz];simp;omega
 have HZL:Hid (z.length=Cn):=hzl;rw [hz] at hl hm ⊢;obtain ⟨ab,hab⟩:∃ab,w.heap.size=ab:=⟨_,rfl⟩;have HAB:Hid (w.heap.size=ab):=hab;have HHL:Hid (lin z=D):=hl;have HHM:Hid _:=hm;clear h hx hk ht hbad hab hk0 hok hT hsg hz hl hm hzl;go_enter Tryz.func99,Tryz.ntmps99
 go_wp2_with fail
 refine hp.mono ?_;clear hp;rintro e w1 ⟨⟨a',c',rfl,hr1,hl1,hobl⟩,h1,hc1⟩;obtain ⟨-,-,-,-,c16⟩:=h1.at;simp only [HBAD.out] at c16;rw [HAB.out];have ls:ab<w1.heap.size:=by have:=hc1.size;simp at this;have:=HAB.out;omega
 have f0:w1.cell? ⟨ab,0,none⟩=some (.int .i64 A):=by rw [←HAB.out];exact (HF.out w1 hc1 0).trans (by simp [go_sem])
 have f1:w1.cell? ⟨ab,1,none⟩=some (.int .i64 Bn):=by rw [←HAB.out];exact (HF.out w1 hc1 1).trans (by simp [go_sem])
 have f2:w1.cell? ⟨ab,2,none⟩=some (.int .i64 Cn):=by rw [←HAB.out];exact (HF.out w1 hc1 2).trans (by simp [go_sem])
 have f3:w1.cell? ⟨ab,3,none⟩=some (.int .i64 D):=by rw [←HAB.out];exact (HF.out w1 hc1 3).trans (by simp [go_sem])
 have H1:Hid (RW w1 p F ia ic L gk ck aP aT cP cT q {W with kd:=W.kd.set A.toNat 120}∧Ch w.heap.size F w w1):=⟨h1,(Ch.of F (HB0.out _)).trans (hc1.mono (by simp) (fun _ _ e=>e))⟩;have htx:=rtext_f (some a') c' 256 (pageOf L A.toNat) w1 hr1 hl1 0 HT.out.2 T HT.out.1 _ rfl;have hTb:T.length≤248:=by rw [←HT.out.1];exact teL_le hr1.1
 have lp:p<w1.heap.size:=h1.lt p h1.fp;clear h1 hc1 hr1 hl1 hobl HF HT;go_wp2_with fail
 refine htx.mono ?_;clear htx;rintro e w2 ⟨g,c,rfl,-,hgl,hrT,hb2⟩;have d16:=(hb2.cell (p:=⟨p,16,none⟩) lp).trans c16;have g0:=(hb2.cell (p:=⟨ab,0,none⟩) ls).trans f0;have g1:=(hb2.cell (p:=⟨ab,1,none⟩) ls).trans f1;have g2:=(hb2.cell (p:=⟨ab,2,none⟩) ls).trans f2;have g3:=(hb2.cell (p:=⟨ab,3,none⟩) ls).trans f3;have H2:Hid (RW w2 p F ia ic L gk ck aP aT cP cT q {W with kd:=W.kd.set A.toNat 120}∧Ch w.heap.size F w w2):=⟨H1.out.1.below (by show 0<(W.kd.set _ _).length;rw [List.length_set];exact HK.out) hb2,H1.out.2.trans (Ch.of F (hb2.mono H1.out.2.size))⟩;obtain ⟨tb,tf,rfl⟩:=hrT.some' (by omega);have HRT:Hid (Row w2 (some ⟨tb,tf,none⟩) c T):=hrT;have hcap:=hrT.2.1;have hcm:=hrT.2.2.1;unfold maxLen at hcm;have HTB:Hid (w1.heap.size≤tb):=hgl _ rfl;have lsb:Hid (ab<w2.heap.size):=Nat.lt_of_lt_of_le ls hb2.size;have HW1:Hid (ab<w1.heap.size):=ls;clear hb2 H1 c16 f0 f1 f2 f3 hrT hgl;obtain ⟨E,hE⟩:∃E,Bn+Cn=E:=⟨_,rfl⟩;have hEi:(Bn:Int)+(Cn:Int)=(E:Int):=by omega
 have hEl:E≤T.length:=by omega
 have hBE:Bn≤E:=by omega
 have HE:Hid (Bn+Cn=E):=hE;clear hE;go_wp2;go_loopw [7,8] (fun v i wr=>∃j:Nat,Bn≤j∧j≤E∧i=.int .i64 j∧v=.int .i64 (lnJ T Bn j)∧w2=wr) (fun _ i _=>E-(intOf i).toNat)
 case atStart=>exact ⟨Bn,Nat.le_refl _,hBE,rfl,by rw [lnJ_zero],rfl⟩
 case round=>
  obtain ⟨j,hj1,hj2,rfl,rfl,rfl⟩:=hrel;by_cases hlt:j<E
  ·have e1:=HRT.out.cells j (by omega);have hsu:=lnJ_succ hj1 (show j<T.length by omega);have hbd:=lnJ_bd T Bn j;obtain ⟨v,hv⟩:∃v,lnJ T Bn j=v:=⟨_,rfl⟩;obtain ⟨y,hy⟩:∃y,T.getD j 0=y:=⟨_,rfl⟩;rw [hv] at hsu hbd ⊢;rw [hy] at hsu e1;have hj8:j≤248:=by omega
   have hjT:j<T.length:=by omega
   by_cases e:y=10
   ·subst e;have HS:Hid (lnJ T Bn (j+1)=v+1):=by show _=_;rw [hsu,if_pos rfl]
    clear hsu hv hy;go_wp2;go_roundw
    case rel=>exact ⟨j+1,by omega,by omega,by go_num,by rw [HS.out],trivial⟩
    case measure=>simp [intOf];omega
   ·have e':(y==10)=false:=by simpa using e
    have HS:Hid (lnJ T Bn (j+1)=v):=by show _=_;rw [hsu,if_neg e];omega
    clear hsu hv hy e;go_wp2;go_roundw
    case rel=>exact ⟨j+1,by omega,by omega,by go_num,by rw [HS.out],trivial⟩
    case measure=>simp [intOf];omega
  ·have hj:j=E:=by omega
   subst hj;have HLn:Hid (lnJ T Bn j=lin z):=by show _=_;rw [←HE.out,lnJ_all,HZ.out]
   rw [HLn.out];obtain ⟨v,hv⟩:∃v,lin z=v:=⟨_,rfl⟩;have hvD:=HHL.out;rw [hv] at hvD ⊢;have z16:=H2.out.1.frz 16;obtain ⟨-,-,m11,m12,-⟩:=H2.out.1.at;simp only at m11 m12;clear hv HLn;subst hvD;have H3:Hid (RW w2 p F ia ic L gk ck aP aT cP cT q {W with kd:=W.kd.set A.toNat 120}∧Ch w.heap.size F w w2):=H2.out;clear H2;have HN3:Hid (0<(W.kd.set A.toNat 120).length):=by show 0<_;rw [List.length_set];exact HK.out
   have HAP:Hid (w2.ownsRow 0 72 4 (.slice aP W.pc.length cP) W.pc.length (W.pc.flatMap vals4)):=H3.out.1.pc
   have HFIN:Hid (∀(w5:World) (g5 cap5:Nat) (o:Obj),w5.ownsRow 0 72 4 (.slice (some ⟨g5,0,none⟩) (W.pc.length+1) cap5) (W.pc.length+1) (W.pc.flatMap vals4++[.int .i64 A,.int .i64 Bn,.int .i64 Cn,.int .i64 v])→(w2.alloc o).grownBy w5 (Value.slice aP W.pc.length cP).ownBlock→((Value.slice aP W.pc.length cP).ownBlock=some g5∨g5=w2.heap.size+1)→g5<w5.heap.size→
     (w5.cell? ⟨p,11,none⟩=some (.slice aP W.pc.length cP)∧w5.frozen? ⟨p,11,none⟩=false)∧RW (w5.setCell ⟨p,11,none⟩ (.slice (some ⟨g5,0,none⟩) (W.pc.length+1) cap5)) p (fun k=>F k∨k=g5) ia ic L gk ck (some ⟨g5,0,none⟩) aT cap5 cT q ⟨W.kd.set A.toNat 120,W.pc++[⟨A,Bn,Cn,v⟩],W.tx,W.bad⟩∧Step F (fun k=>F k∨k=g5) w2 (w5.setCell ⟨p,11,none⟩ (.slice (some ⟨g5,0,none⟩) (W.pc.length+1) cap5))):=fun w5 g5 cap5 o h1 h2 h3 h4=>H3.out.1.afterPc HN3.out ⟨A,Bn,Cn,v⟩ h1 h2 h3 h4
   obtain ⟨nP,hnP⟩:∃nP,W.pc.length=nP:=⟨_,rfl⟩;have hnP1:nP≤1048576:=by omega
   rw [hnP] at m11 HAP HFIN;clear hnP;have lp2:p<w2.heap.size:=H3.out.1.lt p H3.out.1.fp;have m11a:∀o,(w2.alloc o).cell? ⟨p,11,none⟩=some (.slice aP nP cP):=fun o=>(World.cell?_alloc_lt _ _ _ lp2).trans m11
   go_wp2;go_region_law ((refine step_append_lies _ (by rfl) (.tmp 67) (.tmp 69) 29 (by rfl) 0 72 i0 zero4 4 32 Tryz.underlying29 hi0 hz0 hz1 hz2 rfl (by omega) (.slice aP nP cP) nP (W.pc.flatMap vals4) (by rfl) (World.ownsRow.alloc HAP.out _) ⟨w2.heap.size,0,none⟩ 1 1 [.int .i64 A,.int .i64 Bn,.int .i64 Cn,.int .i64 v] (by rfl) (by rfl) (World.news_of_block (heap_alloc_new w2 _)) (by simp [Value.oneCell']) (by omega) (by unfold maxLen;omega) (by omega) (by simp) (w2.heap.size+1) (by simp) ?_;intro g5 cap5 w5 hown5 hgrow5 hat5 hlt5;obtain ⟨⟨r5,rz5⟩,hfin⟩:=HFIN.out w5 g5 cap5 _ hown5 ⟨hgrow5.os,hgrow5.tape,hgrow5.output,hgrow5.size,hgrow5.block⟩ hat5 hlt5;have HE5:Hid _:=hfin;clear hown5 hgrow5 hat5 hlt5 hfin))
   all_goals
    obtain ⟨w6,hw6⟩:∃w6,w5.setCell ⟨p,11,none⟩ (.slice (some ⟨g5,0,none⟩) (nP+1) cap5)=w6:=⟨_,rfl⟩;rw [hw6] at HE5 ⊢;have hnF:Hid (¬F ab∧¬F tb):=⟨fun e=>by have:=HFL.out ab e;have:=HAB.out;omega,fun e=>by have:=HFL.out tb e;have:=HAB.out;have:=HTB.out;have:=HW1.out;omega⟩;have ltb:Hid (tb<w2.heap.size):=block_lt_of_cell (HRT.out.cells 0 (by omega));have k1:=(HE5.out.2.1.cell (p:=⟨ab,1,none⟩) lsb.out hnF.out.1).trans g1;have k2:=(HE5.out.2.1.cell (p:=⟨ab,2,none⟩) lsb.out hnF.out.1).trans g2;have HR6:Hid (Row w6 (some ⟨tb,tf,none⟩) c T):=HRT.out.keepO (fun g hg=>by obtain ⟨x,hx,rfl⟩:=hg;cases hx;exact HE5.out.2.1.block tb ltb.out hnF.out.2);obtain ⟨-,-,-,n12,n16⟩:=HE5.out.1.at;have y16:=HE5.out.1.frz 16;simp only at n12 n16;have HZB:Hid (Bys z):=fun y hy=>HRT.out.1 y (by rw [←HZ.out] at hy;exact List.mem_of_mem_drop (List.mem_of_mem_take hy))
    have HAT:Hid (w6.ownsRow 0 5 1 (.slice aT W.tx.length cT) W.tx.length (W.tx.map (Value.int .u8))):=HE5.out.1.tx
    have HNW:Hid (∀(j:Nat) (u:Value),(z.map (Value.int .u8))[j]?=some u→w6.cell? ((⟨tb,tf+Bn,none⟩:Addr).add j)=some u):=by
     intro j u hj
     have hlt:j<z.length:=by
      rcases Nat.lt_or_ge j z.length with e|e
      ·exact e
      ·rw [List.getElem?_eq_none (by simpa using e)] at hj;cases hj
     have hzl:=HZL.out;have e1:=HR6.out.cells (Bn+j) (by omega);rw [show (⟨tb,tf+Bn,none⟩:Addr).add j=⟨tb,tf+(Bn+j),none⟩ by simp [Addr.add,Nat.add_assoc],e1,←hj,List.getElem?_map,←HZ.out,List.getElem?_take,if_pos (by omega),List.getElem?_drop,List.getD_eq_getElem?_getD,List.getElem?_eq_getElem (by omega)];rfl
    have HFT:Hid (∀(w7:World) (g7 cap7:Nat),w7.ownsRow 0 5 1 (.slice (some ⟨g7,0,none⟩) (W.tx.length+Cn) cap7) (W.tx.length+Cn) (W.tx.map (Value.int .u8)++z.map (Value.int .u8))→w6.grownBy w7 (Value.slice aT W.tx.length cT).ownBlock→((Value.slice aT W.tx.length cT).ownBlock=some g7∨g7=w6.heap.size)→g7<w7.heap.size→
      (w7.cell? ⟨p,12,none⟩=some (.slice aT W.tx.length cT)∧w7.frozen? ⟨p,12,none⟩=false)∧RW (w7.setCell ⟨p,12,none⟩ (.slice (some ⟨g7,0,none⟩) (W.tx.length+Cn) cap7)) p (fun k=>(F k∨k=g5)∨k=g7) ia ic L gk ck (some ⟨g5,0,none⟩) (some ⟨g7,0,none⟩) cap5 cap7 q ⟨W.kd.set A.toNat 120,W.pc++[⟨A,Bn,Cn,v⟩],W.tx++z,W.bad⟩∧Step (fun k=>F k∨k=g5) (fun k=>(F k∨k=g5)∨k=g7) w6 (w7.setCell ⟨p,12,none⟩ (.slice (some ⟨g7,0,none⟩) (W.tx.length+Cn) cap7))):=fun w7 g7 cap7 h1 h2 h3 h4=>HE5.out.1.afterTx HN3.out HZB.out HZL.out h1 h2 h3 h4
    have HST:Hid (Step F (fun k=>F k∨k=g5) w w6):=(Step.of H3.out.2).trans HE5.out.2;have HA6:Hid (ab<w6.heap.size∧¬obl aT ab):=⟨Nat.lt_of_lt_of_le lsb.out HE5.out.2.1.size,fun e=>hnF.out.1 (H3.out.1.fT ab e)⟩;have hpab:p<ab:=by have:=HFL.out p H3.out.1.fp;have:=HAB.out;omega
    have HMX:Hid (W.tx.length+Cn>1048576):=by have:=HHM.out;have h2:=HZL.out;rw [List.length_append,h2] at this;exact this
    obtain ⟨nT,hnT⟩:∃nT,W.tx.length=nT:=⟨_,rfl⟩;have HNT:Hid (W.tx.length=nT):=hnT;rw [hnT] at n12 HAT HFT HMX;have hnT1:nT≤1048576:=by omega
    have hmx:=HMX.out;have hjc:j≤c:=by omega
    have hwr:IntKind.i64.wrap (j:Int)=(j:Int):=wrap_in (by omega) (by omega);have hcB:¬c=Bn:=by omega
    have hjB:j-Bn=Cn:=by omega
    have hjBi:(j:Int)-(Bn:Int)=(Cn:Int):=by omega
    have hCz:(z.map (Value.int .u8)).length=Cn*1:=by rw [List.length_map,HZL.out,Nat.mul_one]
    have HCZ:Hid ((z.map (Value.int .u8)).length=Cn*1):=hCz;have hc1:0<Cn:=by omega
    clear hnT hw6 HE5 r5 rz5 hCz m12 d16 g0 g1 g2 g3 m11 m11a z16;go_wp2;refine wp_region_held_drew (S:=(fun w'=>w'.cell? ⟨ab,1,none⟩=some (.int .i64 Bn)∧w'.cell? ⟨ab,2,none⟩=some (.int .i64 Cn))) (by kernel_rfl) ?_ (fun hHeld=>?_)
    ·(first|go_keep|exact ⟨by assumption,by assumption⟩)
    refine tkH ?_ 0 ?_ ?_;rotate_left
    ·(intro w hSw;(try dsimp only at hSw);go_simp;first|done|with_reducible rfl)
    simp only [gx];refine tkH ?_ 1 ?_ ?_;rotate_left
    ·(intro w hSw;(try dsimp only at hSw);go_simp;first|done|with_reducible rfl)
    simp only [gx];refine tkH ?_ 2 ?_ ?_;rotate_left
    ·(intro w hSw;(try dsimp only at hSw);go_simp;first|done|with_reducible rfl)
    simp only [gx];refine tkH ?_ 3 ?_ ?_;rotate_left
    ·(intro w hSw;(try dsimp only at hSw);go_simp;first|done|with_reducible rfl)
    simp only [gx];refine tkH ?_ 4 ?_ ?_;rotate_left
    ·(intro w hSw;(try dsimp only at hSw);go_simp;first|done|with_reducible rfl)
    simp only [gx];refine tkH ?_ 6 ?_ ?_;rotate_left
    ·(intro w hSw;(try dsimp only at hSw);go_simp;first|done|with_reducible rfl)
    simp only [gx];refine tkH ?_ 7 ?_ ?_;rotate_left
    ·(intro w hSw;(try dsimp only at hSw);go_simp;first|done|with_reducible rfl)
    simp only [gx];refine tkH ?_ 8 ?_ ?_;rotate_left
    ·(intro w hSw;(try dsimp only at hSw);go_simp;first|done|with_reducible rfl)
    simp only [gx];refine tkH ?_ 9 ?_ ?_;rotate_left
    ·(intro w hSw;(try dsimp only at hSw);go_simp;first|done|with_reducible rfl)
    simp only [gx];refine tkH ?_ 10 ?_ ?_;rotate_left
    ·(intro w hSw;(try dsimp only at hSw);go_simp;first|done|with_reducible rfl)
    simp only [gx];refine tkH ?_ 11 ?_ ?_;rotate_left
    ·(intro w hSw;(try dsimp only at hSw);go_simp;first|done|with_reducible rfl)
    simp only [gx];refine tkH ?_ 12 ?_ ?_;rotate_left
    ·(intro w hSw;(try dsimp only at hSw);go_simp;first|done|with_reducible rfl)
    simp only [gx];refine tkH ?_ 13 ?_ ?_;rotate_left
    ·(intro w hSw;(try dsimp only at hSw);go_simp;first|done|with_reducible rfl)
    simp only [gx];refine tkH ?_ 14 ?_ ?_;rotate_left
    ·(intro w hSw;(try dsimp only at hSw);go_simp;first|done|with_reducible rfl)
    simp only [gx];refine wpAnyH_ready (rs:=[5]) (by kernel_rfl) (by simp) ?_;refine AllReadyH.cons rfl (fun K hK=>?_) AllReadyH.nil;go_simp
    skip
    go_wp2_with fail
    refine hK.out _ _ ?_ (fun hHeld2=>?_)
    ·(first|go_keep|exact ⟨by assumption,by assumption⟩)
    clear hK K hHeld;have hHeld:=hHeld2;clear hHeld2;refine wpAnyH_ready (rs:=[15]) (by kernel_rfl) (by simp) ?_;refine AllReadyH.cons rfl (fun K hK=>?_) AllReadyH.nil
    (refine step_append_lies _ (by rfl) (.tmp 79) (.tmp 88) 30 (by rfl) 0 5 j0 (.int .u8 0) 1 1 Tryz.underlying30 hj0 hy0 hy1 hy2 rfl (by omega) (.slice aT nT cT) nT (W.tx.map (Value.int .u8)) (by rfl) HAT.out ⟨tb,tf+Bn,none⟩ Cn (c-Bn) (z.map (Value.int .u8)) (by rfl) HCZ.out HNW.out (one_cells z) hc1 (by unfold maxLen;omega) (by omega) (by simp) w6.heap.size (by rfl) ?_;intro g7 cap7 w7 hown7 hgrow7 hat7 hlt7;have e7:w7.heap[ab]?=w6.heap[ab]?:=hgrow7.block ab HA6.out.1 (fun e=>HA6.out.2 (obl_own e.symm));have q1:w7.cell? ⟨ab,1,none⟩=some (.int .i64 Bn):=(World.cell?_of_block (w:=w6) (a:=⟨ab,1,none⟩) e7).trans k1;have q2:w7.cell? ⟨ab,2,none⟩=some (.int .i64 Cn):=(World.cell?_of_block (w:=w6) (a:=⟨ab,2,none⟩) e7).trans k2;have s1:(w7.setCell ⟨p,12,none⟩ (.slice (some ⟨g7,0,none⟩) (nT+Cn) cap7)).cell? ⟨ab,1,none⟩=some (.int .i64 Bn):=(World.cell?_setCell_other _ _ _ _ (by intro e;injection e with e1;omega)).trans q1;have s2:(w7.setCell ⟨p,12,none⟩ (.slice (some ⟨g7,0,none⟩) (nT+Cn) cap7)).cell? ⟨ab,2,none⟩=some (.int .i64 Cn):=(World.cell?_setCell_other _ _ _ _ (by intro e;injection e with e1;omega)).trans q2;obtain ⟨⟨r7,rz7⟩,hfin⟩:=HFT.out w7 g7 cap7 hown7 ⟨hgrow7.os,hgrow7.tape,hgrow7.output,hgrow7.size,hgrow7.block⟩ hat7 hlt7;have HE7:Hid _:=hfin;clear hown7 hgrow7 hat7 hlt7 hfin)
    simp only [gx];refine hK.out _ _ ?_ (fun hHeld2=>?_)
    ·(first|go_keep|exact ⟨by assumption,by assumption⟩)
    clear hK K hHeld;have hHeld:=hHeld2;clear hHeld2;refine tkH ?_ 16 ?_ ?_;rotate_left
    ·(intro w hSw;(try dsimp only at hSw);go_simp;first|done|with_reducible rfl)
    simp only [gx];refine tkH ?_ 17 ?_ ?_;rotate_left
    ·(intro w hSw;(try dsimp only at hSw);go_simp;first|done|with_reducible rfl)
    simp only [gx];refine tkH ?_ 18 ?_ ?_;rotate_left
    ·(intro w hSw;(try dsimp only at hSw);go_simp;first|done|with_reducible rfl)
    simp only [gx];refine wpAnyH_ready (rs:=[19]) (by kernel_rfl) (by simp) ?_;refine AllReadyH.cons rfl (fun K hK=>?_) AllReadyH.nil;go_simp
    skip
    go_wp2_with fail
    refine hK.out _ _ ?_ (fun hHeld2=>?_)
    ·(first|go_keep|exact ⟨by assumption,by assumption⟩)
    clear hK K hHeld;have hHeld:=hHeld2;clear hHeld2;refine wpAnyH_done (by kernel_rfl) ?_ _;obtain ⟨w8,hw8⟩:∃w8,w7.setCell ⟨p,12,none⟩ (.slice (some ⟨g7,0,none⟩) (nT+Cn) cap7)=w8:=⟨_,rfl⟩;rw [hw8] at HE7 ⊢;obtain ⟨-,-,-,o12,o16⟩:=HE7.out.1.at;have x16:=HE7.out.1.frz 16;simp only [List.length_append,HZL.out,HNT.out] at o12 o16;have HS8:Hid (Step F (fun k=>(F k∨k=g5)∨k=g7) w w8):=HST.out.trans HE7.out.2;clear hw8 r7 rz7 n12 n16 y16 k1 k2 hHeld q1 q2 s1 s2 e7;go_wp2;go_end0
    exact ⟨rfl,_,_,_,_,_,HE7.out.1.setBad true,HS8.out.trans (Step.of (Ch.set HE7.out.1.fp _ _))⟩
end
section
variable {w w':World} {p gk ck cP cT ic:Nat} {F:Nat→Prop} {ia aP aT:Option Addr} {L:List Int} {q:Nat→Value} {W:Wk}
set_option maxRecDepth 20000 in
theorem piece_10 (h:RW w p F ia ic L gk ck aP aT cP cT q W) (hbad:W.bad=false) (hok:WkOk W) (hk0:0<W.kd.length) (x:C4) (hx:okC false x=true) (hk:kdB W x.a 120=true) (ht:teE (pageOf L x.a.toNat)=0∧x.b+x.c≤((teL (pageOf L x.a.toNat)).length:Int)) (hl:¬lin (seg (teL (pageOf L x.a.toNat)) x)=x.d) (hm:(W.tx++seg (teL (pageOf L x.a.toNat)) x).length≤1048576):
  Calls Tryz.prog 99 #[.pointer (some ⟨p,0,none⟩),c4V x] w fun e w'=>e=.returned (.tuple #[])∧∃F' aP' aT' cP' cT',RW w' p F' ia ic L gk ck aP' aT' cP' cT' q ⟨W.kd.set x.a.toNat 120,W.pc++[x],W.tx++seg (teL (pageOf L x.a.toNat)) x,true⟩∧Step F F' w w':=by
 obtain ⟨i0,hi0,hz0,hz1,hz2⟩:=info_parts infoP;obtain ⟨j0,hj0,hy0,hy1,hy2⟩:=info_parts info5;have hb:=okC_bd hx;have hb5:=hb.2.2.2.2 rfl;obtain ⟨A,B,C,D⟩:=x;simp only at hb hb5 hk ht hl hm ⊢;obtain ⟨Bn,rfl⟩:=Int.eq_ofNat_of_zero_le hb.2.1.1;obtain ⟨Cn,rfl⟩:=Int.eq_ofNat_of_zero_le (show 0≤C by omega);have hp:=page_yes (h.below hk0 (w':=w.alloc (.cells #[.int .i64 A,.int .i64 Bn,.int .i64 Cn,.int .i64 D] 72)) ((Below.refl _ w).alloc (Nat.le_refl _) _)) A 120 (by omega) hk;have HF:Hid (∀w2,Ch (w.alloc (.cells #[.int .i64 A,.int .i64 Bn,.int .i64 Cn,.int .i64 D] 72)).heap.size F (w.alloc (.cells #[.int .i64 A,.int .i64 Bn,.int .i64 Cn,.int .i64 D] 72)) w2→∀j,w2.cell? ⟨w.heap.size,j,none⟩=(w.alloc (.cells #[.int .i64 A,.int .i64 Bn,.int .i64 Cn,.int .i64 D] 72)).cell? ⟨w.heap.size,j,none⟩):=fun w2 hc j=>h.fresh hc j
 have HB0:Hid (∀o,Below w.heap.size w (w.alloc o)):=fun o=>(Below.refl _ w).alloc (Nat.le_refl _) o
 have HK:Hid (0<W.kd.length):=hk0;have HBAD:Hid (W.bad=false):=hbad;have HFL:Hid (∀k,F k→k<w.heap.size):=h.lt;have hbP:W.pc.length≤1048576∧W.tx.length≤1048576:=by have:=hok.1;have:=hok.2 hbad;omega
 unfold c4V;obtain ⟨T,hT⟩:∃T,teL (pageOf L A.toNat)=T:=⟨_,rfl⟩;rw [hT] at ht hl hm ⊢;have HT:Hid (teL (pageOf L A.toNat)=T∧teE (pageOf L A.toNat)=0):=⟨hT,ht.1⟩;have htl:Bn+Cn≤T.length:=by omega
 have hsg:seg T ⟨A,Bn,Cn,D⟩=(T.drop Bn).take Cn:=rfl;rw [hsg] at hl hm ⊢;obtain ⟨z,hz⟩:∃z,(T.drop Bn).take Cn=z:=⟨_,rfl⟩;have HZ:Hid ((T.drop Bn).take Cn=z):=hz;have hzl:z.length=Cn:=by rw [←hz];simp;omega
 have HZL:Hid (z.length=Cn):=hzl;rw [hz] at hl hm ⊢;obtain ⟨ab,hab⟩:∃ab,w.heap.size=ab:=⟨_,rfl⟩;have HAB:Hid (w.heap.size=ab):=hab;have HHL:Hid (¬lin z=D):=hl;have HHM:Hid _:=hm;clear h hx hk ht hbad hab hk0 hok hT hsg hz hl hm hzl;go_enter Tryz.func99,Tryz.ntmps99
 go_wp2_with fail
 refine hp.mono ?_;clear hp;rintro e w1 ⟨⟨a',c',rfl,hr1,hl1,hobl⟩,h1,hc1⟩;obtain ⟨-,-,-,-,c16⟩:=h1.at;simp only [HBAD.out] at c16;rw [HAB.out];have ls:ab<w1.heap.size:=by have:=hc1.size;simp at this;have:=HAB.out;omega
 have f0:w1.cell? ⟨ab,0,none⟩=some (.int .i64 A):=by rw [←HAB.out];exact (HF.out w1 hc1 0).trans (by simp [go_sem])
 have f1:w1.cell? ⟨ab,1,none⟩=some (.int .i64 Bn):=by rw [←HAB.out];exact (HF.out w1 hc1 1).trans (by simp [go_sem])
 have f2:w1.cell? ⟨ab,2,none⟩=some (.int .i64 Cn):=by rw [←HAB.out];exact (HF.out w1 hc1 2).trans (by simp [go_sem])
 have f3:w1.cell? ⟨ab,3,none⟩=some (.int .i64 D):=by rw [←HAB.out];exact (HF.out w1 hc1 3).trans (by simp [go_sem])
 have H1:Hid (RW w1 p F ia ic L gk ck aP aT cP cT q {W with kd:=W.kd.set A.toNat 120}∧Ch w.heap.size F w w1):=⟨h1,(Ch.of F (HB0.out _)).trans (hc1.mono (by simp) (fun _ _ e=>e))⟩;have htx:=rtext_f (some a') c' 256 (pageOf L A.toNat) w1 hr1 hl1 0 HT.out.2 T HT.out.1 _ rfl;have hTb:T.length≤248:=by rw [←HT.out.1];exact teL_le hr1.1
 have lp:p<w1.heap.size:=h1.lt p h1.fp;clear h1 hc1 hr1 hl1 hobl HF HT;go_wp2_with fail
 refine htx.mono ?_;clear htx;rintro e w2 ⟨g,c,rfl,-,hgl,hrT,hb2⟩;have d16:=(hb2.cell (p:=⟨p,16,none⟩) lp).trans c16;have g0:=(hb2.cell (p:=⟨ab,0,none⟩) ls).trans f0;have g1:=(hb2.cell (p:=⟨ab,1,none⟩) ls).trans f1;have g2:=(hb2.cell (p:=⟨ab,2,none⟩) ls).trans f2;have g3:=(hb2.cell (p:=⟨ab,3,none⟩) ls).trans f3;have H2:Hid (RW w2 p F ia ic L gk ck aP aT cP cT q {W with kd:=W.kd.set A.toNat 120}∧Ch w.heap.size F w w2):=⟨H1.out.1.below (by show 0<(W.kd.set _ _).length;rw [List.length_set];exact HK.out) hb2,H1.out.2.trans (Ch.of F (hb2.mono H1.out.2.size))⟩;obtain ⟨tb,tf,rfl⟩:=hrT.some' (by omega);have HRT:Hid (Row w2 (some ⟨tb,tf,none⟩) c T):=hrT;have hcap:=hrT.2.1;have hcm:=hrT.2.2.1;unfold maxLen at hcm;have HTB:Hid (w1.heap.size≤tb):=hgl _ rfl;have lsb:Hid (ab<w2.heap.size):=Nat.lt_of_lt_of_le ls hb2.size;have HW1:Hid (ab<w1.heap.size):=ls;clear hb2 H1 c16 f0 f1 f2 f3 hrT hgl;obtain ⟨E,hE⟩:∃E,Bn+Cn=E:=⟨_,rfl⟩;have hEi:(Bn:Int)+(Cn:Int)=(E:Int):=by omega
 have hEl:E≤T.length:=by omega
 have hBE:Bn≤E:=by omega
 have HE:Hid (Bn+Cn=E):=hE;clear hE;go_wp2;go_loopw [7,8] (fun v i wr=>∃j:Nat,Bn≤j∧j≤E∧i=.int .i64 j∧v=.int .i64 (lnJ T Bn j)∧w2=wr) (fun _ i _=>E-(intOf i).toNat)
 case atStart=>exact ⟨Bn,Nat.le_refl _,hBE,rfl,by rw [lnJ_zero],rfl⟩
 case round=>
  obtain ⟨j,hj1,hj2,rfl,rfl,rfl⟩:=hrel;by_cases hlt:j<E
  ·have e1:=HRT.out.cells j (by omega);have hsu:=lnJ_succ hj1 (show j<T.length by omega);have hbd:=lnJ_bd T Bn j;obtain ⟨v,hv⟩:∃v,lnJ T Bn j=v:=⟨_,rfl⟩;obtain ⟨y,hy⟩:∃y,T.getD j 0=y:=⟨_,rfl⟩;rw [hv] at hsu hbd ⊢;rw [hy] at hsu e1;have hj8:j≤248:=by omega
   have hjT:j<T.length:=by omega
   by_cases e:y=10
   ·subst e;have HS:Hid (lnJ T Bn (j+1)=v+1):=by show _=_;rw [hsu,if_pos rfl]
    clear hsu hv hy;go_wp2;go_roundw
    case rel=>exact ⟨j+1,by omega,by omega,by go_num,by rw [HS.out],trivial⟩
    case measure=>simp [intOf];omega
   ·have e':(y==10)=false:=by simpa using e
    have HS:Hid (lnJ T Bn (j+1)=v):=by show _=_;rw [hsu,if_neg e];omega
    clear hsu hv hy e;go_wp2;go_roundw
    case rel=>exact ⟨j+1,by omega,by omega,by go_num,by rw [HS.out],trivial⟩
    case measure=>simp [intOf];omega
  ·have hj:j=E:=by omega
   subst hj;have HLn:Hid (lnJ T Bn j=lin z):=by show _=_;rw [←HE.out,lnJ_all,HZ.out]
   rw [HLn.out];obtain ⟨v,hv⟩:∃v,lin z=v:=⟨_,rfl⟩;have hvD:=HHL.out;rw [hv] at hvD ⊢;have z16:=H2.out.1.frz 16;obtain ⟨-,-,m11,m12,-⟩:=H2.out.1.at;simp only at m11 m12;clear hv HLn;have hvD':(v==D)=false:=by simpa using hvD
   have hvD'':(v !=D)=true:=by simpa using hvD
   have R3:Hid (RW (w2.setCell ⟨p,16,none⟩ (.bool true)) p F ia ic L gk ck aP aT cP cT q {W with kd:=W.kd.set A.toNat 120,bad:=true}∧Ch w.heap.size F w (w2.setCell ⟨p,16,none⟩ (.bool true))):=⟨H2.out.1.setBad true,H2.out.2.setCell (p:=⟨p,16,none⟩) (.inr H2.out.1.fp) _⟩;have hpab':p<ab:=by have:=HFL.out p H2.out.1.fp;have:=HAB.out;omega
   have hptb':p<tb:=by have:=HTB.out;have:=HW1.out;omega
   have C3:Hid (∀i,(w2.setCell ⟨p,16,none⟩ (.bool true)).cell? ⟨ab,i,none⟩=w2.cell? ⟨ab,i,none⟩):=fun i=>World.cell?_setCell_other _ _ _ _ (by intro e;injection e with e1;omega)
   have HRT3:Hid (Row (w2.setCell ⟨p,16,none⟩ (.bool true)) (some ⟨tb,tf,none⟩) c T):=HRT.out.keepO (fun g hg=>by obtain ⟨x,hx,rfl⟩:=hg;cases hx;exact Below.heap_setCell w2 ⟨p,16,none⟩ _ tb (by show ¬tb=p;omega));have lsb3:Hid (ab<(w2.setCell ⟨p,16,none⟩ (.bool true)).heap.size):=by show _<_;rw [size_setCell];exact lsb.out
   clear hvD;go_wp2;obtain ⟨w3,hw3⟩:∃w3,w2.setCell ⟨p,16,none⟩ (.bool true)=w3:=⟨_,rfl⟩;rw [hw3] at R3 C3 HRT3 lsb3 ⊢;have H3:Hid _:=R3.out;have HRT:Hid (Row w3 (some ⟨tb,tf,none⟩) c T):=HRT3.out;have lsb:Hid (ab<w3.heap.size):=lsb3.out;have g0:=(C3.out 0).trans g0;have g1:=(C3.out 1).trans g1;have g2:=(C3.out 2).trans g2;have g3:=(C3.out 3).trans g3;obtain ⟨-,-,m11,m12,-⟩:=R3.out.1.at;simp only at m11 m12;clear R3 C3 HRT3 lsb3 hw3 H2;have HN3:Hid (0<(W.kd.set A.toNat 120).length):=by show 0<_;rw [List.length_set];exact HK.out
   have HAP:Hid (w3.ownsRow 0 72 4 (.slice aP W.pc.length cP) W.pc.length (W.pc.flatMap vals4)):=H3.out.1.pc
   have HFIN:Hid (∀(w5:World) (g5 cap5:Nat) (o:Obj),w5.ownsRow 0 72 4 (.slice (some ⟨g5,0,none⟩) (W.pc.length+1) cap5) (W.pc.length+1) (W.pc.flatMap vals4++[.int .i64 A,.int .i64 Bn,.int .i64 Cn,.int .i64 D])→(w3.alloc o).grownBy w5 (Value.slice aP W.pc.length cP).ownBlock→((Value.slice aP W.pc.length cP).ownBlock=some g5∨g5=w3.heap.size+1)→g5<w5.heap.size→
     (w5.cell? ⟨p,11,none⟩=some (.slice aP W.pc.length cP)∧w5.frozen? ⟨p,11,none⟩=false)∧RW (w5.setCell ⟨p,11,none⟩ (.slice (some ⟨g5,0,none⟩) (W.pc.length+1) cap5)) p (fun k=>F k∨k=g5) ia ic L gk ck (some ⟨g5,0,none⟩) aT cap5 cT q ⟨W.kd.set A.toNat 120,W.pc++[⟨A,Bn,Cn,D⟩],W.tx,true⟩∧Step F (fun k=>F k∨k=g5) w3 (w5.setCell ⟨p,11,none⟩ (.slice (some ⟨g5,0,none⟩) (W.pc.length+1) cap5))):=fun w5 g5 cap5 o h1 h2 h3 h4=>H3.out.1.afterPc HN3.out ⟨A,Bn,Cn,D⟩ h1 h2 h3 h4
   obtain ⟨nP,hnP⟩:∃nP,W.pc.length=nP:=⟨_,rfl⟩;have hnP1:nP≤1048576:=by omega
   rw [hnP] at m11 HAP HFIN;clear hnP;have lp2:p<w3.heap.size:=H3.out.1.lt p H3.out.1.fp;have m11a:∀o,(w3.alloc o).cell? ⟨p,11,none⟩=some (.slice aP nP cP):=fun o=>(World.cell?_alloc_lt _ _ _ lp2).trans m11
   go_wp2;go_region_law ((refine step_append_lies _ (by rfl) (.tmp 67) (.tmp 69) 29 (by rfl) 0 72 i0 zero4 4 32 Tryz.underlying29 hi0 hz0 hz1 hz2 rfl (by omega) (.slice aP nP cP) nP (W.pc.flatMap vals4) (by rfl) (World.ownsRow.alloc HAP.out _) ⟨w3.heap.size,0,none⟩ 1 1 [.int .i64 A,.int .i64 Bn,.int .i64 Cn,.int .i64 D] (by rfl) (by rfl) (World.news_of_block (heap_alloc_new w3 _)) (by simp [Value.oneCell']) (by omega) (by unfold maxLen;omega) (by omega) (by simp) (w3.heap.size+1) (by simp) ?_;intro g5 cap5 w5 hown5 hgrow5 hat5 hlt5;obtain ⟨⟨r5,rz5⟩,hfin⟩:=HFIN.out w5 g5 cap5 _ hown5 ⟨hgrow5.os,hgrow5.tape,hgrow5.output,hgrow5.size,hgrow5.block⟩ hat5 hlt5;have HE5:Hid _:=hfin;clear hown5 hgrow5 hat5 hlt5 hfin))
   all_goals
    obtain ⟨w6,hw6⟩:∃w6,w5.setCell ⟨p,11,none⟩ (.slice (some ⟨g5,0,none⟩) (nP+1) cap5)=w6:=⟨_,rfl⟩;rw [hw6] at HE5 ⊢;have hnF:Hid (¬F ab∧¬F tb):=⟨fun e=>by have:=HFL.out ab e;have:=HAB.out;omega,fun e=>by have:=HFL.out tb e;have:=HAB.out;have:=HTB.out;have:=HW1.out;omega⟩;have ltb:Hid (tb<w3.heap.size):=block_lt_of_cell (HRT.out.cells 0 (by omega));have k1:=(HE5.out.2.1.cell (p:=⟨ab,1,none⟩) lsb.out hnF.out.1).trans g1;have k2:=(HE5.out.2.1.cell (p:=⟨ab,2,none⟩) lsb.out hnF.out.1).trans g2;have HR6:Hid (Row w6 (some ⟨tb,tf,none⟩) c T):=HRT.out.keepO (fun g hg=>by obtain ⟨x,hx,rfl⟩:=hg;cases hx;exact HE5.out.2.1.block tb ltb.out hnF.out.2);obtain ⟨-,-,-,n12,n16⟩:=HE5.out.1.at;have y16:=HE5.out.1.frz 16;simp only at n12 n16;have HZB:Hid (Bys z):=fun y hy=>HRT.out.1 y (by rw [←HZ.out] at hy;exact List.mem_of_mem_drop (List.mem_of_mem_take hy))
    have HAT:Hid (w6.ownsRow 0 5 1 (.slice aT W.tx.length cT) W.tx.length (W.tx.map (Value.int .u8))):=HE5.out.1.tx
    have HNW:Hid (∀(j:Nat) (u:Value),(z.map (Value.int .u8))[j]?=some u→w6.cell? ((⟨tb,tf+Bn,none⟩:Addr).add j)=some u):=by
     intro j u hj
     have hlt:j<z.length:=by
      rcases Nat.lt_or_ge j z.length with e|e
      ·exact e
      ·rw [List.getElem?_eq_none (by simpa using e)] at hj;cases hj
     have hzl:=HZL.out;have e1:=HR6.out.cells (Bn+j) (by omega);rw [show (⟨tb,tf+Bn,none⟩:Addr).add j=⟨tb,tf+(Bn+j),none⟩ by simp [Addr.add,Nat.add_assoc],e1,←hj,List.getElem?_map,←HZ.out,List.getElem?_take,if_pos (by omega),List.getElem?_drop,List.getD_eq_getElem?_getD,List.getElem?_eq_getElem (by omega)];rfl
    have HFT:Hid (∀(w7:World) (g7 cap7:Nat),w7.ownsRow 0 5 1 (.slice (some ⟨g7,0,none⟩) (W.tx.length+Cn) cap7) (W.tx.length+Cn) (W.tx.map (Value.int .u8)++z.map (Value.int .u8))→w6.grownBy w7 (Value.slice aT W.tx.length cT).ownBlock→((Value.slice aT W.tx.length cT).ownBlock=some g7∨g7=w6.heap.size)→g7<w7.heap.size→
      (w7.cell? ⟨p,12,none⟩=some (.slice aT W.tx.length cT)∧w7.frozen? ⟨p,12,none⟩=false)∧RW (w7.setCell ⟨p,12,none⟩ (.slice (some ⟨g7,0,none⟩) (W.tx.length+Cn) cap7)) p (fun k=>(F k∨k=g5)∨k=g7) ia ic L gk ck (some ⟨g5,0,none⟩) (some ⟨g7,0,none⟩) cap5 cap7 q ⟨W.kd.set A.toNat 120,W.pc++[⟨A,Bn,Cn,D⟩],W.tx++z,true⟩∧Step (fun k=>F k∨k=g5) (fun k=>(F k∨k=g5)∨k=g7) w6 (w7.setCell ⟨p,12,none⟩ (.slice (some ⟨g7,0,none⟩) (W.tx.length+Cn) cap7))):=fun w7 g7 cap7 h1 h2 h3 h4=>HE5.out.1.afterTx HN3.out HZB.out HZL.out h1 h2 h3 h4
    have HST:Hid (Step F (fun k=>F k∨k=g5) w w6):=(Step.of H3.out.2).trans HE5.out.2;have HA6:Hid (ab<w6.heap.size∧¬obl aT ab):=⟨Nat.lt_of_lt_of_le lsb.out HE5.out.2.1.size,fun e=>hnF.out.1 (H3.out.1.fT ab e)⟩;have hpab:p<ab:=by have:=HFL.out p H3.out.1.fp;have:=HAB.out;omega
    have HMX:Hid (W.tx.length+Cn≤1048576):=by have:=HHM.out;have h2:=HZL.out;rw [List.length_append,h2] at this;exact this
    obtain ⟨nT,hnT⟩:∃nT,W.tx.length=nT:=⟨_,rfl⟩;have HNT:Hid (W.tx.length=nT):=hnT;rw [hnT] at n12 HAT HFT HMX;have hnT1:nT≤1048576:=by omega
    have hmx:=HMX.out;have hjc:j≤c:=by omega
    have hwr:IntKind.i64.wrap (j:Int)=(j:Int):=wrap_in (by omega) (by omega);have hcB:¬c=Bn:=by omega
    have hjB:j-Bn=Cn:=by omega
    have hjBi:(j:Int)-(Bn:Int)=(Cn:Int):=by omega
    have hCz:(z.map (Value.int .u8)).length=Cn*1:=by rw [List.length_map,HZL.out,Nat.mul_one]
    have HCZ:Hid ((z.map (Value.int .u8)).length=Cn*1):=hCz;have hc1:0<Cn:=by omega
    clear hnT hw6 HE5 r5 rz5 hCz m12 d16 g0 g1 g2 g3 m11 m11a z16;go_wp2;refine wp_region_held_drew (S:=(fun w'=>w'.cell? ⟨ab,1,none⟩=some (.int .i64 Bn)∧w'.cell? ⟨ab,2,none⟩=some (.int .i64 Cn))) (by kernel_rfl) ?_ (fun hHeld=>?_)
    ·(first|go_keep|exact ⟨by assumption,by assumption⟩)
    refine tkH ?_ 0 ?_ ?_;rotate_left
    ·(intro w hSw;(try dsimp only at hSw);go_simp;first|done|with_reducible rfl)
    simp only [gx];refine tkH ?_ 1 ?_ ?_;rotate_left
    ·(intro w hSw;(try dsimp only at hSw);go_simp;first|done|with_reducible rfl)
    simp only [gx];refine tkH ?_ 2 ?_ ?_;rotate_left
    ·(intro w hSw;(try dsimp only at hSw);go_simp;first|done|with_reducible rfl)
    simp only [gx];refine tkH ?_ 3 ?_ ?_;rotate_left
    ·(intro w hSw;(try dsimp only at hSw);go_simp;first|done|with_reducible rfl)
    simp only [gx];refine tkH ?_ 4 ?_ ?_;rotate_left
    ·(intro w hSw;(try dsimp only at hSw);go_simp;first|done|with_reducible rfl)
    simp only [gx];refine tkH ?_ 6 ?_ ?_;rotate_left
    ·(intro w hSw;(try dsimp only at hSw);go_simp;first|done|with_reducible rfl)
    simp only [gx];refine tkH ?_ 7 ?_ ?_;rotate_left
    ·(intro w hSw;(try dsimp only at hSw);go_simp;first|done|with_reducible rfl)
    simp only [gx];refine tkH ?_ 8 ?_ ?_;rotate_left
    ·(intro w hSw;(try dsimp only at hSw);go_simp;first|done|with_reducible rfl)
    simp only [gx];refine tkH ?_ 9 ?_ ?_;rotate_left
    ·(intro w hSw;(try dsimp only at hSw);go_simp;first|done|with_reducible rfl)
    simp only [gx];refine tkH ?_ 10 ?_ ?_;rotate_left
    ·(intro w hSw;(try dsimp only at hSw);go_simp;first|done|with_reducible rfl)
    simp only [gx];refine tkH ?_ 11 ?_ ?_;rotate_left
    ·(intro w hSw;(try dsimp only at hSw);go_simp;first|done|with_reducible rfl)
    simp only [gx];refine tkH ?_ 12 ?_ ?_;rotate_left
    ·(intro w hSw;(try dsimp only at hSw);go_simp;first|done|with_reducible rfl)
    simp only [gx];refine tkH ?_ 13 ?_ ?_;rotate_left
    ·(intro w hSw;(try dsimp only at hSw);go_simp;first|done|with_reducible rfl)
    simp only [gx];refine tkH ?_ 14 ?_ ?_;rotate_left
    ·(intro w hSw;(try dsimp only at hSw);go_simp;first|done|with_reducible rfl)
    simp only [gx];refine wpAnyH_ready (rs:=[5]) (by kernel_rfl) (by simp) ?_;refine AllReadyH.cons rfl (fun K hK=>?_) AllReadyH.nil;go_simp
    skip
    go_wp2_with fail
    refine hK.out _ _ ?_ (fun hHeld2=>?_)
    ·(first|go_keep|exact ⟨by assumption,by assumption⟩)
    clear hK K hHeld;have hHeld:=hHeld2;clear hHeld2;refine wpAnyH_ready (rs:=[15]) (by kernel_rfl) (by simp) ?_;refine AllReadyH.cons rfl (fun K hK=>?_) AllReadyH.nil
    (refine step_append_lies _ (by rfl) (.tmp 79) (.tmp 88) 30 (by rfl) 0 5 j0 (.int .u8 0) 1 1 Tryz.underlying30 hj0 hy0 hy1 hy2 rfl (by omega) (.slice aT nT cT) nT (W.tx.map (Value.int .u8)) (by rfl) HAT.out ⟨tb,tf+Bn,none⟩ Cn (c-Bn) (z.map (Value.int .u8)) (by rfl) HCZ.out HNW.out (one_cells z) hc1 (by unfold maxLen;omega) (by omega) (by simp) w6.heap.size (by rfl) ?_;intro g7 cap7 w7 hown7 hgrow7 hat7 hlt7;have e7:w7.heap[ab]?=w6.heap[ab]?:=hgrow7.block ab HA6.out.1 (fun e=>HA6.out.2 (obl_own e.symm));have q1:w7.cell? ⟨ab,1,none⟩=some (.int .i64 Bn):=(World.cell?_of_block (w:=w6) (a:=⟨ab,1,none⟩) e7).trans k1;have q2:w7.cell? ⟨ab,2,none⟩=some (.int .i64 Cn):=(World.cell?_of_block (w:=w6) (a:=⟨ab,2,none⟩) e7).trans k2;have s1:(w7.setCell ⟨p,12,none⟩ (.slice (some ⟨g7,0,none⟩) (nT+Cn) cap7)).cell? ⟨ab,1,none⟩=some (.int .i64 Bn):=(World.cell?_setCell_other _ _ _ _ (by intro e;injection e with e1;omega)).trans q1;have s2:(w7.setCell ⟨p,12,none⟩ (.slice (some ⟨g7,0,none⟩) (nT+Cn) cap7)).cell? ⟨ab,2,none⟩=some (.int .i64 Cn):=(World.cell?_setCell_other _ _ _ _ (by intro e;injection e with e1;omega)).trans q2;obtain ⟨⟨r7,rz7⟩,hfin⟩:=HFT.out w7 g7 cap7 hown7 ⟨hgrow7.os,hgrow7.tape,hgrow7.output,hgrow7.size,hgrow7.block⟩ hat7 hlt7;have HE7:Hid _:=hfin;clear hown7 hgrow7 hat7 hlt7 hfin)
    simp only [gx];refine hK.out _ _ ?_ (fun hHeld2=>?_)
    ·(first|go_keep|exact ⟨by assumption,by assumption⟩)
    clear hK K hHeld;have hHeld:=hHeld2;clear hHeld2;refine tkH ?_ 16 ?_ ?_;rotate_left
    ·(intro w hSw;(try dsimp only at hSw);go_simp;first|done|with_reducible rfl)
    simp only [gx];refine tkH ?_ 17 ?_ ?_;rotate_left
    ·(intro w hSw;(try dsimp only at hSw);go_simp;first|done|with_reducible rfl)
    simp only [gx];refine tkH ?_ 18 ?_ ?_;rotate_left
    ·(intro w hSw;(try dsimp only at hSw);go_simp;first|done|with_reducible rfl)
    simp only [gx];refine wpAnyH_ready (rs:=[19]) (by kernel_rfl) (by simp) ?_;refine AllReadyH.cons rfl (fun K hK=>?_) AllReadyH.nil;go_simp
    skip
    go_wp2_with fail
    refine hK.out _ _ ?_ (fun hHeld2=>?_)
    ·(first|go_keep|exact ⟨by assumption,by assumption⟩)
    clear hK K hHeld;have hHeld:=hHeld2;clear hHeld2;refine wpAnyH_done (by kernel_rfl) ?_ _;obtain ⟨w8,hw8⟩:∃w8,w7.setCell ⟨p,12,none⟩ (.slice (some ⟨g7,0,none⟩) (nT+Cn) cap7)=w8:=⟨_,rfl⟩;rw [hw8] at HE7 ⊢;obtain ⟨-,-,-,o12,o16⟩:=HE7.out.1.at;have x16:=HE7.out.1.frz 16;simp only [List.length_append,HZL.out,HNT.out] at o12 o16;have HS8:Hid (Step F (fun k=>(F k∨k=g5)∨k=g7) w w8):=HST.out.trans HE7.out.2;clear hw8 r7 rz7 n12 n16 y16 k1 k2 hHeld q1 q2 s1 s2 e7;go_wp2;go_end0
    exact ⟨rfl,_,_,_,_,_,HE7.out.1,HS8.out⟩
set_option maxRecDepth 20000 in
theorem piece_11 (h:RW w p F ia ic L gk ck aP aT cP cT q W) (hbad:W.bad=false) (hok:WkOk W) (hk0:0<W.kd.length) (x:C4) (hx:okC false x=true) (hk:kdB W x.a 120=true) (ht:teE (pageOf L x.a.toNat)=0∧x.b+x.c≤((teL (pageOf L x.a.toNat)).length:Int)) (hl:¬lin (seg (teL (pageOf L x.a.toNat)) x)=x.d) (hm:1048576<(W.tx++seg (teL (pageOf L x.a.toNat)) x).length):
  Calls Tryz.prog 99 #[.pointer (some ⟨p,0,none⟩),c4V x] w fun e w'=>e=.returned (.tuple #[])∧∃F' aP' aT' cP' cT',RW w' p F' ia ic L gk ck aP' aT' cP' cT' q ⟨W.kd.set x.a.toNat 120,W.pc++[x],W.tx++seg (teL (pageOf L x.a.toNat)) x,true⟩∧Step F F' w w':=by
 obtain ⟨i0,hi0,hz0,hz1,hz2⟩:=info_parts infoP;obtain ⟨j0,hj0,hy0,hy1,hy2⟩:=info_parts info5;have hb:=okC_bd hx;have hb5:=hb.2.2.2.2 rfl;obtain ⟨A,B,C,D⟩:=x;simp only at hb hb5 hk ht hl hm ⊢;obtain ⟨Bn,rfl⟩:=Int.eq_ofNat_of_zero_le hb.2.1.1;obtain ⟨Cn,rfl⟩:=Int.eq_ofNat_of_zero_le (show 0≤C by omega);have hp:=page_yes (h.below hk0 (w':=w.alloc (.cells #[.int .i64 A,.int .i64 Bn,.int .i64 Cn,.int .i64 D] 72)) ((Below.refl _ w).alloc (Nat.le_refl _) _)) A 120 (by omega) hk;have HF:Hid (∀w2,Ch (w.alloc (.cells #[.int .i64 A,.int .i64 Bn,.int .i64 Cn,.int .i64 D] 72)).heap.size F (w.alloc (.cells #[.int .i64 A,.int .i64 Bn,.int .i64 Cn,.int .i64 D] 72)) w2→∀j,w2.cell? ⟨w.heap.size,j,none⟩=(w.alloc (.cells #[.int .i64 A,.int .i64 Bn,.int .i64 Cn,.int .i64 D] 72)).cell? ⟨w.heap.size,j,none⟩):=fun w2 hc j=>h.fresh hc j
 have HB0:Hid (∀o,Below w.heap.size w (w.alloc o)):=fun o=>(Below.refl _ w).alloc (Nat.le_refl _) o
 have HK:Hid (0<W.kd.length):=hk0;have HBAD:Hid (W.bad=false):=hbad;have HFL:Hid (∀k,F k→k<w.heap.size):=h.lt;have hbP:W.pc.length≤1048576∧W.tx.length≤1048576:=by have:=hok.1;have:=hok.2 hbad;omega
 unfold c4V;obtain ⟨T,hT⟩:∃T,teL (pageOf L A.toNat)=T:=⟨_,rfl⟩;rw [hT] at ht hl hm ⊢;have HT:Hid (teL (pageOf L A.toNat)=T∧teE (pageOf L A.toNat)=0):=⟨hT,ht.1⟩;have htl:Bn+Cn≤T.length:=by omega
 have hsg:seg T ⟨A,Bn,Cn,D⟩=(T.drop Bn).take Cn:=rfl;rw [hsg] at hl hm ⊢;obtain ⟨z,hz⟩:∃z,(T.drop Bn).take Cn=z:=⟨_,rfl⟩;have HZ:Hid ((T.drop Bn).take Cn=z):=hz;have hzl:z.length=Cn:=by rw [←hz];simp;omega
 have HZL:Hid (z.length=Cn):=hzl;rw [hz] at hl hm ⊢;obtain ⟨ab,hab⟩:∃ab,w.heap.size=ab:=⟨_,rfl⟩;have HAB:Hid (w.heap.size=ab):=hab;have HHL:Hid (¬lin z=D):=hl;have HHM:Hid _:=hm;clear h hx hk ht hbad hab hk0 hok hT hsg hz hl hm hzl;go_enter Tryz.func99,Tryz.ntmps99
 go_wp2_with fail
 refine hp.mono ?_;clear hp;rintro e w1 ⟨⟨a',c',rfl,hr1,hl1,hobl⟩,h1,hc1⟩;obtain ⟨-,-,-,-,c16⟩:=h1.at;simp only [HBAD.out] at c16;rw [HAB.out];have ls:ab<w1.heap.size:=by have:=hc1.size;simp at this;have:=HAB.out;omega
 have f0:w1.cell? ⟨ab,0,none⟩=some (.int .i64 A):=by rw [←HAB.out];exact (HF.out w1 hc1 0).trans (by simp [go_sem])
 have f1:w1.cell? ⟨ab,1,none⟩=some (.int .i64 Bn):=by rw [←HAB.out];exact (HF.out w1 hc1 1).trans (by simp [go_sem])
 have f2:w1.cell? ⟨ab,2,none⟩=some (.int .i64 Cn):=by rw [←HAB.out];exact (HF.out w1 hc1 2).trans (by simp [go_sem])
 have f3:w1.cell? ⟨ab,3,none⟩=some (.int .i64 D):=by rw [←HAB.out];exact (HF.out w1 hc1 3).trans (by simp [go_sem])
 have H1:Hid (RW w1 p F ia ic L gk ck aP aT cP cT q {W with kd:=W.kd.set A.toNat 120}∧Ch w.heap.size F w w1):=⟨h1,(Ch.of F (HB0.out _)).trans (hc1.mono (by simp) (fun _ _ e=>e))⟩;have htx:=rtext_f (some a') c' 256 (pageOf L A.toNat) w1 hr1 hl1 0 HT.out.2 T HT.out.1 _ rfl;have hTb:T.length≤248:=by rw [←HT.out.1];exact teL_le hr1.1
 have lp:p<w1.heap.size:=h1.lt p h1.fp;clear h1 hc1 hr1 hl1 hobl HF HT;go_wp2_with fail
 refine htx.mono ?_;clear htx;rintro e w2 ⟨g,c,rfl,-,hgl,hrT,hb2⟩;have d16:=(hb2.cell (p:=⟨p,16,none⟩) lp).trans c16;have g0:=(hb2.cell (p:=⟨ab,0,none⟩) ls).trans f0;have g1:=(hb2.cell (p:=⟨ab,1,none⟩) ls).trans f1;have g2:=(hb2.cell (p:=⟨ab,2,none⟩) ls).trans f2;have g3:=(hb2.cell (p:=⟨ab,3,none⟩) ls).trans f3;have H2:Hid (RW w2 p F ia ic L gk ck aP aT cP cT q {W with kd:=W.kd.set A.toNat 120}∧Ch w.heap.size F w w2):=⟨H1.out.1.below (by show 0<(W.kd.set _ _).length;rw [List.length_set];exact HK.out) hb2,H1.out.2.trans (Ch.of F (hb2.mono H1.out.2.size))⟩;obtain ⟨tb,tf,rfl⟩:=hrT.some' (by omega);have HRT:Hid (Row w2 (some ⟨tb,tf,none⟩) c T):=hrT;have hcap:=hrT.2.1;have hcm:=hrT.2.2.1;unfold maxLen at hcm;have HTB:Hid (w1.heap.size≤tb):=hgl _ rfl;have lsb:Hid (ab<w2.heap.size):=Nat.lt_of_lt_of_le ls hb2.size;have HW1:Hid (ab<w1.heap.size):=ls;clear hb2 H1 c16 f0 f1 f2 f3 hrT hgl;obtain ⟨E,hE⟩:∃E,Bn+Cn=E:=⟨_,rfl⟩;have hEi:(Bn:Int)+(Cn:Int)=(E:Int):=by omega
 have hEl:E≤T.length:=by omega
 have hBE:Bn≤E:=by omega
 have HE:Hid (Bn+Cn=E):=hE;clear hE;go_wp2;go_loopw [7,8] (fun v i wr=>∃j:Nat,Bn≤j∧j≤E∧i=.int .i64 j∧v=.int .i64 (lnJ T Bn j)∧w2=wr) (fun _ i _=>E-(intOf i).toNat)
 case atStart=>exact ⟨Bn,Nat.le_refl _,hBE,rfl,by rw [lnJ_zero],rfl⟩
 case round=>
  obtain ⟨j,hj1,hj2,rfl,rfl,rfl⟩:=hrel;by_cases hlt:j<E
  ·have e1:=HRT.out.cells j (by omega);have hsu:=lnJ_succ hj1 (show j<T.length by omega);have hbd:=lnJ_bd T Bn j;obtain ⟨v,hv⟩:∃v,lnJ T Bn j=v:=⟨_,rfl⟩;obtain ⟨y,hy⟩:∃y,T.getD j 0=y:=⟨_,rfl⟩;rw [hv] at hsu hbd ⊢;rw [hy] at hsu e1;have hj8:j≤248:=by omega
   have hjT:j<T.length:=by omega
   by_cases e:y=10
   ·subst e;have HS:Hid (lnJ T Bn (j+1)=v+1):=by show _=_;rw [hsu,if_pos rfl]
    clear hsu hv hy;go_wp2;go_roundw
    case rel=>exact ⟨j+1,by omega,by omega,by go_num,by rw [HS.out],trivial⟩
    case measure=>simp [intOf];omega
   ·have e':(y==10)=false:=by simpa using e
    have HS:Hid (lnJ T Bn (j+1)=v):=by show _=_;rw [hsu,if_neg e];omega
    clear hsu hv hy e;go_wp2;go_roundw
    case rel=>exact ⟨j+1,by omega,by omega,by go_num,by rw [HS.out],trivial⟩
    case measure=>simp [intOf];omega
  ·have hj:j=E:=by omega
   subst hj;have HLn:Hid (lnJ T Bn j=lin z):=by show _=_;rw [←HE.out,lnJ_all,HZ.out]
   rw [HLn.out];obtain ⟨v,hv⟩:∃v,lin z=v:=⟨_,rfl⟩;have hvD:=HHL.out;rw [hv] at hvD ⊢;have z16:=H2.out.1.frz 16;obtain ⟨-,-,m11,m12,-⟩:=H2.out.1.at;simp only at m11 m12;clear hv HLn;have hvD':(v==D)=false:=by simpa using hvD
   have hvD'':(v !=D)=true:=by simpa using hvD
   have R3:Hid (RW (w2.setCell ⟨p,16,none⟩ (.bool true)) p F ia ic L gk ck aP aT cP cT q {W with kd:=W.kd.set A.toNat 120,bad:=true}∧Ch w.heap.size F w (w2.setCell ⟨p,16,none⟩ (.bool true))):=⟨H2.out.1.setBad true,H2.out.2.setCell (p:=⟨p,16,none⟩) (.inr H2.out.1.fp) _⟩;have hpab':p<ab:=by have:=HFL.out p H2.out.1.fp;have:=HAB.out;omega
   have hptb':p<tb:=by have:=HTB.out;have:=HW1.out;omega
   have C3:Hid (∀i,(w2.setCell ⟨p,16,none⟩ (.bool true)).cell? ⟨ab,i,none⟩=w2.cell? ⟨ab,i,none⟩):=fun i=>World.cell?_setCell_other _ _ _ _ (by intro e;injection e with e1;omega)
   have HRT3:Hid (Row (w2.setCell ⟨p,16,none⟩ (.bool true)) (some ⟨tb,tf,none⟩) c T):=HRT.out.keepO (fun g hg=>by obtain ⟨x,hx,rfl⟩:=hg;cases hx;exact Below.heap_setCell w2 ⟨p,16,none⟩ _ tb (by show ¬tb=p;omega));have lsb3:Hid (ab<(w2.setCell ⟨p,16,none⟩ (.bool true)).heap.size):=by show _<_;rw [size_setCell];exact lsb.out
   clear hvD;go_wp2;obtain ⟨w3,hw3⟩:∃w3,w2.setCell ⟨p,16,none⟩ (.bool true)=w3:=⟨_,rfl⟩;rw [hw3] at R3 C3 HRT3 lsb3 ⊢;have H3:Hid _:=R3.out;have HRT:Hid (Row w3 (some ⟨tb,tf,none⟩) c T):=HRT3.out;have lsb:Hid (ab<w3.heap.size):=lsb3.out;have g0:=(C3.out 0).trans g0;have g1:=(C3.out 1).trans g1;have g2:=(C3.out 2).trans g2;have g3:=(C3.out 3).trans g3;obtain ⟨-,-,m11,m12,-⟩:=R3.out.1.at;simp only at m11 m12;clear R3 C3 HRT3 lsb3 hw3 H2;have HN3:Hid (0<(W.kd.set A.toNat 120).length):=by show 0<_;rw [List.length_set];exact HK.out
   have HAP:Hid (w3.ownsRow 0 72 4 (.slice aP W.pc.length cP) W.pc.length (W.pc.flatMap vals4)):=H3.out.1.pc
   have HFIN:Hid (∀(w5:World) (g5 cap5:Nat) (o:Obj),w5.ownsRow 0 72 4 (.slice (some ⟨g5,0,none⟩) (W.pc.length+1) cap5) (W.pc.length+1) (W.pc.flatMap vals4++[.int .i64 A,.int .i64 Bn,.int .i64 Cn,.int .i64 D])→(w3.alloc o).grownBy w5 (Value.slice aP W.pc.length cP).ownBlock→((Value.slice aP W.pc.length cP).ownBlock=some g5∨g5=w3.heap.size+1)→g5<w5.heap.size→
     (w5.cell? ⟨p,11,none⟩=some (.slice aP W.pc.length cP)∧w5.frozen? ⟨p,11,none⟩=false)∧RW (w5.setCell ⟨p,11,none⟩ (.slice (some ⟨g5,0,none⟩) (W.pc.length+1) cap5)) p (fun k=>F k∨k=g5) ia ic L gk ck (some ⟨g5,0,none⟩) aT cap5 cT q ⟨W.kd.set A.toNat 120,W.pc++[⟨A,Bn,Cn,D⟩],W.tx,true⟩∧Step F (fun k=>F k∨k=g5) w3 (w5.setCell ⟨p,11,none⟩ (.slice (some ⟨g5,0,none⟩) (W.pc.length+1) cap5))):=fun w5 g5 cap5 o h1 h2 h3 h4=>H3.out.1.afterPc HN3.out ⟨A,Bn,Cn,D⟩ h1 h2 h3 h4
   obtain ⟨nP,hnP⟩:∃nP,W.pc.length=nP:=⟨_,rfl⟩;have hnP1:nP≤1048576:=by omega
   rw [hnP] at m11 HAP HFIN;clear hnP;have lp2:p<w3.heap.size:=H3.out.1.lt p H3.out.1.fp;have m11a:∀o,(w3.alloc o).cell? ⟨p,11,none⟩=some (.slice aP nP cP):=fun o=>(World.cell?_alloc_lt _ _ _ lp2).trans m11
   go_wp2;go_region_law ((refine step_append_lies _ (by rfl) (.tmp 67) (.tmp 69) 29 (by rfl) 0 72 i0 zero4 4 32 Tryz.underlying29 hi0 hz0 hz1 hz2 rfl (by omega) (.slice aP nP cP) nP (W.pc.flatMap vals4) (by rfl) (World.ownsRow.alloc HAP.out _) ⟨w3.heap.size,0,none⟩ 1 1 [.int .i64 A,.int .i64 Bn,.int .i64 Cn,.int .i64 D] (by rfl) (by rfl) (World.news_of_block (heap_alloc_new w3 _)) (by simp [Value.oneCell']) (by omega) (by unfold maxLen;omega) (by omega) (by simp) (w3.heap.size+1) (by simp) ?_;intro g5 cap5 w5 hown5 hgrow5 hat5 hlt5;obtain ⟨⟨r5,rz5⟩,hfin⟩:=HFIN.out w5 g5 cap5 _ hown5 ⟨hgrow5.os,hgrow5.tape,hgrow5.output,hgrow5.size,hgrow5.block⟩ hat5 hlt5;have HE5:Hid _:=hfin;clear hown5 hgrow5 hat5 hlt5 hfin))
   all_goals
    obtain ⟨w6,hw6⟩:∃w6,w5.setCell ⟨p,11,none⟩ (.slice (some ⟨g5,0,none⟩) (nP+1) cap5)=w6:=⟨_,rfl⟩;rw [hw6] at HE5 ⊢;have hnF:Hid (¬F ab∧¬F tb):=⟨fun e=>by have:=HFL.out ab e;have:=HAB.out;omega,fun e=>by have:=HFL.out tb e;have:=HAB.out;have:=HTB.out;have:=HW1.out;omega⟩;have ltb:Hid (tb<w3.heap.size):=block_lt_of_cell (HRT.out.cells 0 (by omega));have k1:=(HE5.out.2.1.cell (p:=⟨ab,1,none⟩) lsb.out hnF.out.1).trans g1;have k2:=(HE5.out.2.1.cell (p:=⟨ab,2,none⟩) lsb.out hnF.out.1).trans g2;have HR6:Hid (Row w6 (some ⟨tb,tf,none⟩) c T):=HRT.out.keepO (fun g hg=>by obtain ⟨x,hx,rfl⟩:=hg;cases hx;exact HE5.out.2.1.block tb ltb.out hnF.out.2);obtain ⟨-,-,-,n12,n16⟩:=HE5.out.1.at;have y16:=HE5.out.1.frz 16;simp only at n12 n16;have HZB:Hid (Bys z):=fun y hy=>HRT.out.1 y (by rw [←HZ.out] at hy;exact List.mem_of_mem_drop (List.mem_of_mem_take hy))
    have HAT:Hid (w6.ownsRow 0 5 1 (.slice aT W.tx.length cT) W.tx.length (W.tx.map (Value.int .u8))):=HE5.out.1.tx
    have HNW:Hid (∀(j:Nat) (u:Value),(z.map (Value.int .u8))[j]?=some u→w6.cell? ((⟨tb,tf+Bn,none⟩:Addr).add j)=some u):=by
     intro j u hj
     have hlt:j<z.length:=by
      rcases Nat.lt_or_ge j z.length with e|e
      ·exact e
      ·rw [List.getElem?_eq_none (by simpa using e)] at hj;cases hj
     have hzl:=HZL.out;have e1:=HR6.out.cells (Bn+j) (by omega);rw [show (⟨tb,tf+Bn,none⟩:Addr).add j=⟨tb,tf+(Bn+j),none⟩ by simp [Addr.add,Nat.add_assoc],e1,←hj,List.getElem?_map,←HZ.out,List.getElem?_take,if_pos (by omega),List.getElem?_drop,List.getD_eq_getElem?_getD,List.getElem?_eq_getElem (by omega)];rfl
    have HFT:Hid (∀(w7:World) (g7 cap7:Nat),w7.ownsRow 0 5 1 (.slice (some ⟨g7,0,none⟩) (W.tx.length+Cn) cap7) (W.tx.length+Cn) (W.tx.map (Value.int .u8)++z.map (Value.int .u8))→w6.grownBy w7 (Value.slice aT W.tx.length cT).ownBlock→((Value.slice aT W.tx.length cT).ownBlock=some g7∨g7=w6.heap.size)→g7<w7.heap.size→
      (w7.cell? ⟨p,12,none⟩=some (.slice aT W.tx.length cT)∧w7.frozen? ⟨p,12,none⟩=false)∧RW (w7.setCell ⟨p,12,none⟩ (.slice (some ⟨g7,0,none⟩) (W.tx.length+Cn) cap7)) p (fun k=>(F k∨k=g5)∨k=g7) ia ic L gk ck (some ⟨g5,0,none⟩) (some ⟨g7,0,none⟩) cap5 cap7 q ⟨W.kd.set A.toNat 120,W.pc++[⟨A,Bn,Cn,D⟩],W.tx++z,true⟩∧Step (fun k=>F k∨k=g5) (fun k=>(F k∨k=g5)∨k=g7) w6 (w7.setCell ⟨p,12,none⟩ (.slice (some ⟨g7,0,none⟩) (W.tx.length+Cn) cap7))):=fun w7 g7 cap7 h1 h2 h3 h4=>HE5.out.1.afterTx HN3.out HZB.out HZL.out h1 h2 h3 h4
    have HST:Hid (Step F (fun k=>F k∨k=g5) w w6):=(Step.of H3.out.2).trans HE5.out.2;have HA6:Hid (ab<w6.heap.size∧¬obl aT ab):=⟨Nat.lt_of_lt_of_le lsb.out HE5.out.2.1.size,fun e=>hnF.out.1 (H3.out.1.fT ab e)⟩;have hpab:p<ab:=by have:=HFL.out p H3.out.1.fp;have:=HAB.out;omega
    have HMX:Hid (W.tx.length+Cn>1048576):=by have:=HHM.out;have h2:=HZL.out;rw [List.length_append,h2] at this;exact this
    obtain ⟨nT,hnT⟩:∃nT,W.tx.length=nT:=⟨_,rfl⟩;have HNT:Hid (W.tx.length=nT):=hnT;rw [hnT] at n12 HAT HFT HMX;have hnT1:nT≤1048576:=by omega
    have hmx:=HMX.out;have hjc:j≤c:=by omega
    have hwr:IntKind.i64.wrap (j:Int)=(j:Int):=wrap_in (by omega) (by omega);have hcB:¬c=Bn:=by omega
    have hjB:j-Bn=Cn:=by omega
    have hjBi:(j:Int)-(Bn:Int)=(Cn:Int):=by omega
    have hCz:(z.map (Value.int .u8)).length=Cn*1:=by rw [List.length_map,HZL.out,Nat.mul_one]
    have HCZ:Hid ((z.map (Value.int .u8)).length=Cn*1):=hCz;have hc1:0<Cn:=by omega
    clear hnT hw6 HE5 r5 rz5 hCz m12 d16 g0 g1 g2 g3 m11 m11a z16;go_wp2;refine wp_region_held_drew (S:=(fun w'=>w'.cell? ⟨ab,1,none⟩=some (.int .i64 Bn)∧w'.cell? ⟨ab,2,none⟩=some (.int .i64 Cn))) (by kernel_rfl) ?_ (fun hHeld=>?_)
    ·(first|go_keep|exact ⟨by assumption,by assumption⟩)
    refine tkH ?_ 0 ?_ ?_;rotate_left
    ·(intro w hSw;(try dsimp only at hSw);go_simp;first|done|with_reducible rfl)
    simp only [gx];refine tkH ?_ 1 ?_ ?_;rotate_left
    ·(intro w hSw;(try dsimp only at hSw);go_simp;first|done|with_reducible rfl)
    simp only [gx];refine tkH ?_ 2 ?_ ?_;rotate_left
    ·(intro w hSw;(try dsimp only at hSw);go_simp;first|done|with_reducible rfl)
    simp only [gx];refine tkH ?_ 3 ?_ ?_;rotate_left
    ·(intro w hSw;(try dsimp only at hSw);go_simp;first|done|with_reducible rfl)
    simp only [gx];refine tkH ?_ 4 ?_ ?_;rotate_left
    ·(intro w hSw;(try dsimp only at hSw);go_simp;first|done|with_reducible rfl)
    simp only [gx];refine tkH ?_ 6 ?_ ?_;rotate_left
    ·(intro w hSw;(try dsimp only at hSw);go_simp;first|done|with_reducible rfl)
    simp only [gx];refine tkH ?_ 7 ?_ ?_;rotate_left
    ·(intro w hSw;(try dsimp only at hSw);go_simp;first|done|with_reducible rfl)
    simp only [gx];refine tkH ?_ 8 ?_ ?_;rotate_left
    ·(intro w hSw;(try dsimp only at hSw);go_simp;first|done|with_reducible rfl)
    simp only [gx];refine tkH ?_ 9 ?_ ?_;rotate_left
    ·(intro w hSw;(try dsimp only at hSw);go_simp;first|done|with_reducible rfl)
    simp only [gx];refine tkH ?_ 10 ?_ ?_;rotate_left
    ·(intro w hSw;(try dsimp only at hSw);go_simp;first|done|with_reducible rfl)
    simp only [gx];refine tkH ?_ 11 ?_ ?_;rotate_left
    ·(intro w hSw;(try dsimp only at hSw);go_simp;first|done|with_reducible rfl)
    simp only [gx];refine tkH ?_ 12 ?_ ?_;rotate_left
    ·(intro w hSw;(try dsimp only at hSw);go_simp;first|done|with_reducible rfl)
    simp only [gx];refine tkH ?_ 13 ?_ ?_;rotate_left
    ·(intro w hSw;(try dsimp only at hSw);go_simp;first|done|with_reducible rfl)
    simp only [gx];refine tkH ?_ 14 ?_ ?_;rotate_left
    ·(intro w hSw;(try dsimp only at hSw);go_simp;first|done|with_reducible rfl)
    simp only [gx];refine wpAnyH_ready (rs:=[5]) (by kernel_rfl) (by simp) ?_;refine AllReadyH.cons rfl (fun K hK=>?_) AllReadyH.nil;go_simp
    skip
    go_wp2_with fail
    refine hK.out _ _ ?_ (fun hHeld2=>?_)
    ·(first|go_keep|exact ⟨by assumption,by assumption⟩)
    clear hK K hHeld;have hHeld:=hHeld2;clear hHeld2;refine wpAnyH_ready (rs:=[15]) (by kernel_rfl) (by simp) ?_;refine AllReadyH.cons rfl (fun K hK=>?_) AllReadyH.nil
    (refine step_append_lies _ (by rfl) (.tmp 79) (.tmp 88) 30 (by rfl) 0 5 j0 (.int .u8 0) 1 1 Tryz.underlying30 hj0 hy0 hy1 hy2 rfl (by omega) (.slice aT nT cT) nT (W.tx.map (Value.int .u8)) (by rfl) HAT.out ⟨tb,tf+Bn,none⟩ Cn (c-Bn) (z.map (Value.int .u8)) (by rfl) HCZ.out HNW.out (one_cells z) hc1 (by unfold maxLen;omega) (by omega) (by simp) w6.heap.size (by rfl) ?_;intro g7 cap7 w7 hown7 hgrow7 hat7 hlt7;have e7:w7.heap[ab]?=w6.heap[ab]?:=hgrow7.block ab HA6.out.1 (fun e=>HA6.out.2 (obl_own e.symm));have q1:w7.cell? ⟨ab,1,none⟩=some (.int .i64 Bn):=(World.cell?_of_block (w:=w6) (a:=⟨ab,1,none⟩) e7).trans k1;have q2:w7.cell? ⟨ab,2,none⟩=some (.int .i64 Cn):=(World.cell?_of_block (w:=w6) (a:=⟨ab,2,none⟩) e7).trans k2;have s1:(w7.setCell ⟨p,12,none⟩ (.slice (some ⟨g7,0,none⟩) (nT+Cn) cap7)).cell? ⟨ab,1,none⟩=some (.int .i64 Bn):=(World.cell?_setCell_other _ _ _ _ (by intro e;injection e with e1;omega)).trans q1;have s2:(w7.setCell ⟨p,12,none⟩ (.slice (some ⟨g7,0,none⟩) (nT+Cn) cap7)).cell? ⟨ab,2,none⟩=some (.int .i64 Cn):=(World.cell?_setCell_other _ _ _ _ (by intro e;injection e with e1;omega)).trans q2;obtain ⟨⟨r7,rz7⟩,hfin⟩:=HFT.out w7 g7 cap7 hown7 ⟨hgrow7.os,hgrow7.tape,hgrow7.output,hgrow7.size,hgrow7.block⟩ hat7 hlt7;have HE7:Hid _:=hfin;clear hown7 hgrow7 hat7 hlt7 hfin)
    simp only [gx];refine hK.out _ _ ?_ (fun hHeld2=>?_)
    ·(first|go_keep|exact ⟨by assumption,by assumption⟩)
    clear hK K hHeld;have hHeld:=hHeld2;clear hHeld2;refine tkH ?_ 16 ?_ ?_;rotate_left
    ·(intro w hSw;(try dsimp only at hSw);go_simp;first|done|with_reducible rfl)
    simp only [gx];refine tkH ?_ 17 ?_ ?_;rotate_left
    ·(intro w hSw;(try dsimp only at hSw);go_simp;first|done|with_reducible rfl)
    simp only [gx];refine tkH ?_ 18 ?_ ?_;rotate_left
    ·(intro w hSw;(try dsimp only at hSw);go_simp;first|done|with_reducible rfl)
    simp only [gx];refine wpAnyH_ready (rs:=[19]) (by kernel_rfl) (by simp) ?_;refine AllReadyH.cons rfl (fun K hK=>?_) AllReadyH.nil;go_simp
    skip
    go_wp2_with fail
    refine hK.out _ _ ?_ (fun hHeld2=>?_)
    ·(first|go_keep|exact ⟨by assumption,by assumption⟩)
    clear hK K hHeld;have hHeld:=hHeld2;clear hHeld2;refine wpAnyH_done (by kernel_rfl) ?_ _;obtain ⟨w8,hw8⟩:∃w8,w7.setCell ⟨p,12,none⟩ (.slice (some ⟨g7,0,none⟩) (nT+Cn) cap7)=w8:=⟨_,rfl⟩;rw [hw8] at HE7 ⊢;obtain ⟨-,-,-,o12,o16⟩:=HE7.out.1.at;have x16:=HE7.out.1.frz 16;simp only [List.length_append,HZL.out,HNT.out] at o12 o16;have HS8:Hid (Step F (fun k=>(F k∨k=g5)∨k=g7) w w8):=HST.out.trans HE7.out.2;clear hw8 r7 rz7 n12 n16 y16 k1 k2 hHeld q1 q2 s1 s2 e7;go_wp2;go_end0
    exact ⟨rfl,_,_,_,_,_,HE7.out.1.setBad true,HS8.out.trans (Step.of (Ch.set HE7.out.1.fp _ _))⟩
end
section
variable {w w':World} {p gk ck cP cT ic:Nat} {F:Nat→Prop} {ia aP aT:Option Addr} {L:List Int} {q:Nat→Value} {W:Wk}
def RWA (w:World) (p:Nat) (F:Nat→Prop) (ia:Option Addr) (ic:Nat) (L:List Int) (q:Nat→Value) (W:Wk):Prop:=∃gk ck aP aT cP cT,RW w p F ia ic L gk ck aP aT cP cT q W
theorem piece_any (h:RWA w p F ia ic L q W) (hbad:W.bad=false) (hok:WkOk W) (hk0:0<W.kd.length) (x:C4) (hx:okC false x=true):
  Calls Tryz.prog 99 #[.pointer (some ⟨p,0,none⟩),c4V x] w fun e w'=>e=.returned (.tuple #[])∧∃F',RWA w' p F' ia ic L q (wpc L W x)∧Step F F' w w':=by
 obtain ⟨gk,ck,aP,aT,cP,cT,h⟩:=h;by_cases hk:kdB W x.a 120=true
 ·by_cases ht:teE (pageOf L x.a.toNat)=0∧x.b+x.c≤((teL (pageOf L x.a.toNat)).length:Int)
  ·have e:wpc L W x=⟨W.kd.set x.a.toNat 120,W.pc++[x],W.tx++seg (teL (pageOf L x.a.toNat)) x,!(lin (seg (teL (pageOf L x.a.toNat)) x)==x.d)||decide (1048576<(W.tx++seg (teL (pageOf L x.a.toNat)) x).length)⟩:=by unfold wpc;rw [if_pos hk,if_pos ht]
   rw [e];by_cases hl:lin (seg (teL (pageOf L x.a.toNat)) x)=x.d
   ·have e1:(lin (seg (teL (pageOf L x.a.toNat)) x)==x.d)=true:=by simpa using hl
    by_cases hm:(W.tx++seg (teL (pageOf L x.a.toNat)) x).length≤1048576
    ·refine (piece_00 h hbad hok hk0 x hx hk ht hl hm).mono ?_;rintro e w' ⟨rfl,F',aP',aT',cP',cT',h1,h2⟩;rw [e1,decide_eq_false (by omega)];exact ⟨rfl,F',⟨_,_,_,_,_,_,h1⟩,h2⟩
    ·refine (piece_01 h hbad hok hk0 x hx hk ht hl (by omega)).mono ?_;rintro e w' ⟨rfl,F',aP',aT',cP',cT',h1,h2⟩;rw [e1,decide_eq_true (by omega)];exact ⟨rfl,F',⟨_,_,_,_,_,_,h1⟩,h2⟩
   ·have e1:(lin (seg (teL (pageOf L x.a.toNat)) x)==x.d)=false:=by simpa using hl
    by_cases hm:(W.tx++seg (teL (pageOf L x.a.toNat)) x).length≤1048576
    ·refine (piece_10 h hbad hok hk0 x hx hk ht hl hm).mono ?_;rintro e w' ⟨rfl,F',aP',aT',cP',cT',h1,h2⟩;rw [e1];exact ⟨rfl,F',⟨_,_,_,_,_,_,h1⟩,h2⟩
    ·refine (piece_11 h hbad hok hk0 x hx hk ht hl (by omega)).mono ?_;rintro e w' ⟨rfl,F',aP',aT',cP',cT',h1,h2⟩;rw [e1];exact ⟨rfl,F',⟨_,_,_,_,_,_,h1⟩,h2⟩
  ·have e:wpc L W x={W with kd:=W.kd.set x.a.toNat 120,bad:=true}:=by unfold wpc;rw [if_pos hk,if_neg ht]
   rw [e];refine (piece_tx h hbad hk0 x hx hk ht).mono ?_;rintro e w' ⟨rfl,h1,h2⟩;exact ⟨rfl,F,⟨_,_,_,_,_,_,h1⟩,Step.of h2⟩
 ·have hk':kdB W x.a 120=false:=by simpa using hk
  have e:wpc L W x={W with bad:=true}:=by unfold wpc;rw [if_neg hk]
  rw [e];refine (piece_no h hk0 x hx hk').mono ?_;rintro e w' ⟨rfl,h1,h2⟩;exact ⟨rfl,F,⟨_,_,_,_,_,_,h1⟩,Step.of h2⟩
end
def s3V (s:S3):Value:=.agg #[.int .i64 s.p,.int .i64 s.b,.int .i64 s.l]
def At3 (w:World) (b:Nat) (s:S3):Prop:=w.heap[b]?=some (.cells #[.int .i64 s.p,.int .i64 s.b,.int .i64 s.l] 98 (0,0))
theorem At3.at {w:World} {b:Nat} {s:S3} (h:At3 w b s):w.cell? ⟨b,0,none⟩=some (.int .i64 s.p)∧w.cell? ⟨b,1,none⟩=some (.int .i64 s.b)∧w.cell? ⟨b,2,none⟩=some (.int .i64 s.l):=by
 refine ⟨?_,?_,?_⟩<;>rw [cell_of_row w b _ _ _ (0,0) h]<;>rfl
theorem At3.frz {w:World} {b:Nat} {s:S3} (h:At3 w b s) (i:Nat):w.frozen? ⟨b,i,none⟩=false:=by
 unfold World.frozen?;rw [h];simp
theorem At3.lt {w:World} {b:Nat} {s:S3} (h:At3 w b s):b<w.heap.size:=heap_lt h
theorem At3.keep {w w':World} {b:Nat} {s:S3} (h:At3 w b s) (k:w'.heap[b]?=w.heap[b]?):At3 w' b s:=k.trans h
theorem At3.set0 {w:World} {b:Nat} {s:S3} (h:At3 w b s) (x:Int):At3 (w.setCell ⟨b,0,none⟩ (.int .i64 x)) b {s with p:=x}:=by
 unfold At3;rw [setCell_heap _ _ _ _ _ _ _ h];rfl
theorem At3.set1 {w:World} {b:Nat} {s:S3} (h:At3 w b s) (x:Int):At3 (w.setCell ⟨b,1,none⟩ (.int .i64 x)) b {s with b:=x}:=by
 unfold At3;rw [setCell_heap _ _ _ _ _ _ _ h];rfl
theorem At3.set2 {w:World} {b:Nat} {s:S3} (h:At3 w b s) (x:Int):At3 (w.setCell ⟨b,2,none⟩ (.int .i64 x)) b {s with l:=x}:=by
 unfold At3;rw [setCell_heap _ _ _ _ _ _ _ h];rfl
theorem reL_bd {t:Bool} {z:List Int} (hb:Bys z):(reL t z).length≤20∧∀x∈reL t z,okC t x=true:=by
 by_cases e:reE t z=0
 ·obtain ⟨h1,-⟩:=lay_re hb e;obtain ⟨-,h2,h3⟩:=layB_out h1;refine ⟨?_,h3⟩;have:(shtT t).most≤20:=by cases t<;>decide
  omega
 ·unfold reL;rw [if_neg e];exact ⟨by simp,fun x hx=>by cases hx⟩
theorem lfGo_bad {L:List Int} {l:List C4} {x:Wk × S3} (h:x.1.bad=true):lfGo L l x=x:=by
 cases l with
 |nil=>rfl
 |cons p l=>unfold lfGo;rw [if_pos h]
theorem lfGo_step {L:List Int} {l:List C4} {k:Nat} {W:Wk} {s:S3} (hk:k<l.length) (h:W.bad=false):lfGo L (l.drop k) (W,s)=lfGo L (l.drop (k+1)) (wpc L W (l.getD k c40),⟨s.p+1,s.b+(l.getD k c40).c,s.l+(l.getD k c40).d⟩):=by
 rw [List.drop_eq_getElem_cons hk,lfGo,if_neg (by rw [h];simp),List.getD_eq_getElem?_getD,List.getElem?_eq_getElem hk];rfl
end Go.Proofs.YtjllhcifmfhkmaaGreat.Oct
