/- Part of a proof. -/
import Derived.Test.YtjllhcifmfhkmaaGreatBq
import Derived.Deep.AppendLies
import Derived.StillTailTactics
import Derived.Test.YtjllhcifmfhkmaaGreatYa
import Derived.Deep.Slices
import Derived.ChangeSame
import Derived.ProofKit
namespace Go.Proofs.YtjllhcifmfhkmaaGreat.Oct
open Go.RowKit
theorem Own.nil {base:Nat} {w:World} {ga:Option Addr} {n ca:Nat} {zs:List Int} (h:Own base w (.slice ga n ca) zs) (e:ga=none):ca=0:=by
 rcases h.2 with ⟨e2,_⟩|⟨g,cap,cur,e2,_⟩
 ·cases e2;rfl
 ·cases e2;cases e
theorem Own.some {base:Nat} {w:World} {ga:Option Addr} {n ca:Nat} {zs:List Int} (h:Own base w (.slice ga n ca) zs) (e:0<zs.length):∃q,ga=some ⟨q,0,none⟩:=by
 rcases h.2 with ⟨_,e2⟩|⟨g,cap,cur,e2,_⟩
 ·omega
 ·cases e2;exact ⟨g,rfl⟩
theorem PgL.grown {base:Nat} {w w1:World} {v:Value} {L:List (List Int)} {vs:List Value} {Z:List Int} {q c n g cap:Nat} {o:Obj}
  (h2:∀i,i<L.length→∃g c,vs[i]?=some (.slice (some ⟨g,0,none⟩) (L.getD i []).length c)∧Own base w (.slice (some ⟨g,0,none⟩) (L.getD i []).length c) (L.getD i [])∧v.ownBlock≠some g)
  (hvs:vs.length=L.length) (hZ:Z.length=n) (ho:Own base w (.slice (some ⟨q,0,none⟩) n c) Z) (hv:v.ownBlock≠some q)
  (hown':w1.ownsRow base 30 1 (.slice (some ⟨g,0,none⟩) (L.length+1) cap) (L.length+1) (vs++[.slice (some ⟨q,0,none⟩) n c])) (hgrow:(w.alloc o).grownBy w1 v.ownBlock) (hat:v.ownBlock=some g∨g=w.heap.size+1):PgL base w1 (.slice (some ⟨g,0,none⟩) (L.length+1) cap) (L++[Z]):=by
 subst hZ;have hsz:(w.alloc o).heap.size=w.heap.size+1:=by simp
 refine PgL.snoc h2 hvs ho hv hown' hgrow fun k hk=>?_
 have e:g=k:=by simpa [Value.ownBlock] using hk
 rcases hat with h|h
 ·exact .inl (by rw [←e];exact h)
 ·exact .inr (by omega)
def CtR (w:World) (zs pg:List Int) (e:Ending) (w':World):Prop:=∃v,e=.returned (.tuple #[v,.int .i64 (ctE zs pg)])∧PgL w.heap.size w' v (ctZ zs pg)∧Below w.heap.size w w'
theorem CtR.no {w w':World} {zs pg:List Int} {z:Int} (h:ctE zs pg=z) (hz:z≠0) (hb:Below w.heap.size w w'):CtR w zs pg (.returned (.tuple #[.slice none 0 0,.int .i64 z])) w':=by
 refine ⟨_,by rw [h],?_,hb⟩;unfold ctZ;rw [h,if_neg hz];exact pgL_nil _ _
def ctK (zs pg:List Int) (k:Nat):List (List Int):=(List.range k).map fun i=>sealL (cpg zs pg i)
theorem ctK_len (zs pg:List Int) (k:Nat):(ctK zs pg k).length=k:=by simp [ctK]
theorem ctK_succ (zs pg:List Int) (k:Nat):ctK zs pg (k+1)=ctK zs pg k++[sealL (cpg zs pg k)]:=by simp [ctK,List.range_succ]
theorem ctE_ok {zs pg:List Int} (hl:pg.length=ned zs.length) (h:CtOk pg) (hz:zs.length≤1048576):ctE zs pg=0:=by
 unfold ctE;rw [if_pos hl,if_pos (ctB_iff.2 h),if_pos hz]
theorem ctE_bad {zs pg:List Int} (h:¬CtOk pg):ctE zs pg=1:=by
 unfold ctE;rw [if_neg (fun e=>h (ctB_iff.1 e))];split<;>rfl
def ctUp (pg:List Int) (k:Nat):Prop:=∀i,i<k→(2≤pg.getD i 0∧pg.getD i 0<4096)∧∀j,j<i→pg.getD j 0≠pg.getD i 0
set_option maxHeartbeats 4000000 in
set_option maxRecDepth 20000 in
theorem rCut_any (a:Option Addr) (cap:Nat) (zs:List Int) (pa:Option Addr) (pcap:Nat) (pg:List Int) (w:World) (hr:Row w a cap zs) (hnil:a=none→cap=0) (hp:RowI w pa pcap pg) (hl:zs.length≤1000000):
  Calls Tryz.prog 65 #[.slice a zs.length cap,.slice pa pg.length pcap] w (CtR w zs pg):=by
 have hnd:=rNeed_any zs.length w (by omega) (by omega);rw [nedI_nat] at hnd;have hpl:pg.length≤maxLen:=Nat.le_trans hp.1 hp.2.1;have hpc:=hp.2.1;have hpb:=hp.1;unfold maxLen at hpl hpc;have HP:Hid (RowI w pa pcap pg):=hp;have HR:Hid (Row w a cap zs):=hr;have HNil:Hid (a=none→cap=0):=hnil;clear hp hr hnil;by_cases hlen:pg.length=ned zs.length;rotate_left
 ·have HE:Hid (ctE zs pg=1):=if_neg hlen;have hne:((pg.length:Int) !=(ned zs.length:Int))=true:=by simp;omega
  clear hlen;go_enter Tryz.func65,Tryz.ntmps65
  go_wp2_with (go_at_call 36;refine hnd.mono ?_;rintro e w1 ⟨rfl,rfl⟩)
  go_ret2
  exact CtR.no HE.out (by omega) (Below.refl _ _)
 have HL:Hid (pg.length=ned zs.length):=hlen;rw [←hlen] at hnd;clear hlen;go_enter Tryz.func65,Tryz.ntmps65
 go_wp2_with (go_at_call 36;refine hnd.mono ?_;rintro e w1 ⟨rfl,rfl⟩)
 clear hnd;go_loopw [6] (fun i wr=>∃k:Nat,k≤pg.length∧i=.int .i64 k∧Hid (ctUp pg k∧Below w.heap.size w wr)) (fun i _=>pg.length-(intOf i).toNat)
 case atStart=>exact ⟨0,Nat.zero_le _,rfl,(by show _∧_;exact ⟨fun i hi=>by omega,Below.refl _ _⟩)⟩
 case round=>
  obtain ⟨k,hk,rfl,HI⟩:=hrel;by_cases hlt:k<pg.length
  ·obtain ⟨pb,po,rfl,c1⟩:=(HP.out.below HI.out.2).at' k hlt;obtain ⟨z,hz⟩:∃z,pg.getD k 0=z:=⟨_,rfl⟩;have HZ:Hid (pg.getD k 0=z):=hz;rw [hz] at c1;clear hz;by_cases h2:z<2
   ·have HE:Hid (ctE zs pg=1):=ctE_bad fun hh=>by have:=(hh k hlt).1.1;rw [HZ.out] at this;omega
    go_wp2;go_ret2
    exact CtR.no HE.out (by omega) HI.out.2
   by_cases h4:4096≤z
   ·have HE:Hid (ctE zs pg=1):=ctE_bad fun hh=>by have:=(hh k hlt).1.2;rw [HZ.out] at this;omega
    go_wp2;go_ret2
    exact CtR.no HE.out (by omega) HI.out.2
   go_wp2_with fail
   go_loopw [7] (fun i wr2=>∃j:Nat,j≤k∧i=.int .i64 j∧Hid ((∀x,x<j→pg.getD x 0≠z)∧Below w.heap.size w wr2)) (fun i _=>k-(intOf i).toNat)
   case atStart=>exact ⟨0,Nat.zero_le _,rfl,(by show _∧_;exact ⟨fun i hi=>by omega,HI.out.2⟩)⟩
   case round=>
    clear c1;obtain ⟨j,hj,rfl,HJ⟩:=hrel;by_cases hjk:j<k
    ·have hjl:j<pg.length:=by omega
     have d1:wr.cell? ⟨pb,po+k,none⟩=some (.int .i64 z):=by
      obtain ⟨pb',po',e,d1⟩:=(HP.out.below HJ.out.2).at' k hlt;cases e;rw [HZ.out] at d1;exact d1
     have d2:wr.cell? ⟨pb,po+j,none⟩=some (.int .i64 (pg.getD j 0)):=by
      obtain ⟨pb',po',e,d1⟩:=(HP.out.below HJ.out.2).at' j (by omega);cases e;exact d1
     obtain ⟨y,hy⟩:∃y,pg.getD j 0=y:=⟨_,rfl⟩;have HY:Hid (pg.getD j 0=y):=hy;rw [hy] at d2;clear hy;by_cases e:y=z
     ·subst e;have HE:Hid (ctE zs pg=1):=ctE_bad fun hh=>(hh k hlt).2 j hjk (HY.out.trans HZ.out.symm)
      go_wp2_with fail
      go_still_tail 8,(by kernel_rfl)
      go_wp2;go_ret2
      exact CtR.no HE.out (by omega) ⟨HJ.out.2.os,HJ.out.2.tape,HJ.out.2.output,HJ.out.2.size,HJ.out.2.block⟩
     ·have e':(y==z)=false:=by simpa using e
      have HEE:Hid (y≠z):=e;clear e;go_wp2_with fail
      go_still_tail 8,(by kernel_rfl)
      go_wp2;go_roundw
      case rel=>exact ⟨j+1,by omega,by go_num,(by show _∧_;exact ⟨fun x hx=>(by rcases Nat.lt_succ_iff_lt_or_eq.1 hx with h|rfl;exact HJ.out.1 x h;rw [HY.out];exact HEE.out),HJ.out.2.os,HJ.out.2.tape,HJ.out.2.output,HJ.out.2.size,HJ.out.2.block⟩)⟩
      case measure=>simp [intOf];omega
    ·have hjk':j=k:=by omega
     subst hjk';go_wp2;go_roundw
     case rel=>exact ⟨j+1,by omega,by go_num,(by show _∧_;exact ⟨fun x hx=>(by rcases Nat.lt_succ_iff_lt_or_eq.1 hx with h|rfl;exact HI.out.1 x h;rw [HZ.out];exact ⟨⟨by omega,by omega⟩,HJ.out.1⟩),HJ.out.2⟩)⟩
     case measure=>simp [intOf];omega
  ·have hk':k=pg.length:=by omega
   subst hk';have HOK:Hid (CtOk pg):=HI.out.1;have HE:Hid (ctE zs pg=0):=ctE_ok HL.out HOK.out (by omega);have HB0:Hid (Below w.heap.size w wr):=HI.out.2;obtain ⟨i0,hi0,hz0,hz1,hz2⟩:=info_parts infoPl;clear HI hk hlt;go_wp2_with fail
   go_loopw [8,9] (fun v i wr=>∃k:Nat,k≤pg.length∧i=.int .i64 k∧Hid (PgL w.heap.size wr v (ctK zs pg k)∧Below w.heap.size w wr)) (fun _ i _=>pg.length-(intOf i).toNat)
   case atStart=>exact ⟨0,Nat.zero_le _,rfl,(by show _∧_;exact ⟨pgL_nil _ _,HB0.out⟩)⟩
   case round=>
    clear HB0;obtain ⟨k,hk,rfl,HI⟩:=hrel;by_cases hlt:k<pg.length
    ·have hkz:k*244<zs.length:=by have:=HL.out;unfold ned at this;omega
     obtain ⟨b,off,rfl⟩:=HR.out.some' (by omega);have hcap:=HR.out.2.1;have hmx:=HR.out.2.2.1;unfold maxLen at hmx;obtain ⟨m,hm⟩:∃m,(prt zs k).length=m:=⟨_,rfl⟩;have hm':=prt_len zs k;rw [hm] at hm';obtain ⟨A,hA⟩:∃A,k*244=A:=⟨_,rfl⟩;have hA':(k:Int)*244=(A:Int):=by omega
     obtain ⟨C,hC⟩:∃C,(k+1)*244=C:=⟨_,rfl⟩;have hC':((k:Int)+1)*244=(C:Int):=by omega
     have hAm:A+m≤zs.length:=by omega
     have hm1:1≤m:=by omega
     have hm2:m≤244:=by omega
     have HM:Hid ((prt zs k).length=m):=hm
     have hrow:Row wr (some ⟨b,off+A,none⟩) (cap-A) (prt zs k):=by
      have h1:=((HR.out.below HI.out.2).drop' A (by omega)).take' m (cap-A) (by rw [List.length_drop];omega) (by omega) (Nat.le_refl _)
      have e:prt zs k=(zs.drop A).take m:=by
       unfold prt;rw [hA];by_cases e:m=244
       ·rw [e]
       ·rw [List.take_of_length_le (by rw [List.length_drop];omega),List.take_of_length_le (by rw [List.length_drop];omega)]
      rw [e];exact h1
     have HROW:Hid (Row wr (some ⟨b,off+A,none⟩) (cap-A) (prt zs k)):=hrow;have hX:=nxt_in HOK.out k;have hput:=rput4 (nxt pg k) wr (by rw [fit4];exact decide_eq_true (by omega));have hfl:A<zs.length:=by omega
     have hk5:k≤5000:=by have:=HL.out;unfold ned at this;omega
     by_cases hn1:k+1<pg.length
     ·by_cases hmn:zs.length≤C
      ·have hsl0:zs.length-A=m:=by omega
       have hle:(zs.length:Int)≤(C:Int):=by omega
       clear hrow hA hC hm hm' hkz hmn;obtain ⟨pb,po,rfl,c1⟩:=(HP.out.below HI.out.2).at' (k+1) hn1;obtain ⟨X,hXe⟩:∃X,pg.getD (k+1) 0=X:=⟨_,rfl⟩;have HXE:Hid (nxt pg k=X):=(if_pos hn1).trans hXe;rw [HXE.out] at hput;rw [hXe] at c1;clear hXe;go_wp2_with fail
       refine hput.mono ?_;clear hput;rintro e w1 ⟨g1,c1',rfl,ho1,hb1⟩;have HB1:Hid (Below wr.heap.size wr w1):=hb1;have HO1:Hid (Own wr.heap.size w1 (.slice (some ⟨g1,0,none⟩) 4 c1') (nums 4 (nxt pg k).toNat)):=by rw [HXE.out];exact ho1
       clear ho1 hb1;go_wp2_with ((at_builtin;refine append_row rfl _ _ rfl wr.heap.size _ (nums 4 (nxt pg k).toNat) rfl HO1.out (some ⟨b,off+A,none⟩) (prt zs k) (cap-A) (by rw [HM.out];rfl) (HROW.out.below HB1.out) (by intro e;cases e) (by rw [nums_len,HM.out];omega) HB1.out.size ?_;intro v2 w2 ho2 hb2;have HB2:Hid (Below wr.heap.size wr w2):=HB1.out.trans hb2;have hby:=cpg_bys (pg:=pg) HR.out.1 k;obtain ⟨ga,ca,rfl,hr2⟩:=ho2.row hby;have hln:(nums 4 (nxt pg k).toNat++prt zs k).length=4+m:=(by rw [List.length_append,nums_len,HM.out]);have hnl2:ga=none→ca=0:=(fun e=>ho2.nil e);have hsl:=rseal_v (cpg zs pg k) ga ca w2 hr2 hnl2 0 (cpg_ok zs pg k) (sealL (cpg zs pg k)) (cpg_seal zs pg k) 256 (cpg_256 zs pg k);have hpv:pgV (cpg zs pg k) ga ca=.agg #[.int .i64 5,.int .i64 0,.int .i64 m,.slice ga (4+m) ca]:=(by unfold pgV;show Value.agg #[.int .i64 5,.int .i64 0,.int .i64 (prt zs k).length,.slice ga (nums 4 (nxt pg k).toNat++prt zs k).length ca]=_;rw [HM.out,hln]);rw [hpv] at hsl;rw [hln];clear ho2 hb2 hby hr2 hln hnl2 hpv))
       refine hsl.mono ?_;clear hsl;rintro e w3 ⟨g3,c3,rfl,ho3,hb3⟩;obtain ⟨q3,rfl⟩:=ho3.some (by rw [cpg_256];omega);have HB3:Hid (Below wr.heap.size wr w3):=HB2.out.trans (hb3.mono HB2.out.size);obtain ⟨vs,hr3,hv3⟩:=HI.out.1.below HB3.out;rw [ctK_len] at hr3;have HR3:Hid _:=hr3;have HV3:Hid _:=hv3
       have HO3:Hid (Own w.heap.size w3 (.slice (some ⟨q3,0,none⟩) 256 c3) (sealL (cpg zs pg k))∧u8.ownBlock≠some q3):=by
        have l3:=ho3.lt2;have z2:=HB2.out.size;have z0:=HI.out.2.size;refine ⟨owns_base ho3 (fun x hx=>by have:=(World.ownsRow.lt ho3 x hx).1;omega),fun e=>?_⟩;obtain ⟨vs',h1',-⟩:=HI.out.1;have:=(World.ownsRow.lt h1' q3 e).2;omega
       have HBz:Hid (Below w.heap.size w w3):=HI.out.2.trans (HB3.out.mono HI.out.2.size);have hsz3:=HBz.out.size;clear ho3 hb3 hr3 hv3;go_wp2_with ((at_builtin;refine wpList_append_lies _ rfl _ _ 105 rfl w.heap.size 30 i0 (.slice none 0 0) 1 24 Tryz.underlying105 hi0 hz0 hz1 hz2 rfl (by omega) u8 k vs rfl (World.ownsRow.alloc HR3.out _) ⟨w3.heap.size,0,none⟩ 1 1 [.slice (some ⟨q3,0,none⟩) 256 c3] rfl rfl (World.news_of_block (heap_alloc_new w3 _)) (by simp [Value.oneCell']) (by omega) (by unfold maxLen;omega) (by omega) (by simp;omega) (w3.heap.size+1) (by simp) ?_;intro g4 cap4 w4 hown4 hgrow4 hat4 hlt4;have HZ:Hid (PgL w.heap.size w4 (.slice (some ⟨g4,0,none⟩) (k+1) cap4) (ctK zs pg (k+1))∧Below w.heap.size w w4):=(by show _∧_;have hl:=ctK_len zs pg k;have hq:=PgL.grown (L:=ctK zs pg k) (n:=256) HV3.out (by have:=HR3.out.1;rw [hl];omega) (cpg_256 zs pg k) HO3.out.1 HO3.out.2 (by rw [hl];exact hown4) hgrow4 hat4;rw [hl] at hq;rw [ctK_succ];exact ⟨hq,(HBz.out.alloc hsz3 _).grown hgrow4 (by simp;omega) (fun x hx=>(World.ownsRow.lt HR3.out x hx).1)⟩);clear hown4 hgrow4 hat4 hlt4))
       go_roundw
       case rel=>exact ⟨k+1,by omega,by go_num,HZ⟩
       case measure=>simp [intOf];omega
      ·have hsl0:C-A=m:=by omega
       have hlt2:(C:Int)<(zs.length:Int):=by omega
       have hmin:min (zs.length:Int) (C:Int)=(C:Int):=Int.min_eq_right (by omega);clear hrow hA hC hm hm' hkz hmn;obtain ⟨pb,po,rfl,c1⟩:=(HP.out.below HI.out.2).at' (k+1) hn1;obtain ⟨X,hXe⟩:∃X,pg.getD (k+1) 0=X:=⟨_,rfl⟩;have HXE:Hid (nxt pg k=X):=(if_pos hn1).trans hXe;rw [HXE.out] at hput;rw [hXe] at c1;clear hXe;go_wp2_with fail
       refine hput.mono ?_;clear hput;rintro e w1 ⟨g1,c1',rfl,ho1,hb1⟩;have HB1:Hid (Below wr.heap.size wr w1):=hb1;have HO1:Hid (Own wr.heap.size w1 (.slice (some ⟨g1,0,none⟩) 4 c1') (nums 4 (nxt pg k).toNat)):=by rw [HXE.out];exact ho1
       clear ho1 hb1;go_wp2_with ((at_builtin;refine append_row rfl _ _ rfl wr.heap.size _ (nums 4 (nxt pg k).toNat) rfl HO1.out (some ⟨b,off+A,none⟩) (prt zs k) (cap-A) (by rw [HM.out];rfl) (HROW.out.below HB1.out) (by intro e;cases e) (by rw [nums_len,HM.out];omega) HB1.out.size ?_;intro v2 w2 ho2 hb2;have HB2:Hid (Below wr.heap.size wr w2):=HB1.out.trans hb2;have hby:=cpg_bys (pg:=pg) HR.out.1 k;obtain ⟨ga,ca,rfl,hr2⟩:=ho2.row hby;have hln:(nums 4 (nxt pg k).toNat++prt zs k).length=4+m:=(by rw [List.length_append,nums_len,HM.out]);have hnl2:ga=none→ca=0:=(fun e=>ho2.nil e);have hsl:=rseal_v (cpg zs pg k) ga ca w2 hr2 hnl2 0 (cpg_ok zs pg k) (sealL (cpg zs pg k)) (cpg_seal zs pg k) 256 (cpg_256 zs pg k);have hpv:pgV (cpg zs pg k) ga ca=.agg #[.int .i64 5,.int .i64 0,.int .i64 m,.slice ga (4+m) ca]:=(by unfold pgV;show Value.agg #[.int .i64 5,.int .i64 0,.int .i64 (prt zs k).length,.slice ga (nums 4 (nxt pg k).toNat++prt zs k).length ca]=_;rw [HM.out,hln]);rw [hpv] at hsl;rw [hln];clear ho2 hb2 hby hr2 hln hnl2 hpv))
       refine hsl.mono ?_;clear hsl;rintro e w3 ⟨g3,c3,rfl,ho3,hb3⟩;obtain ⟨q3,rfl⟩:=ho3.some (by rw [cpg_256];omega);have HB3:Hid (Below wr.heap.size wr w3):=HB2.out.trans (hb3.mono HB2.out.size);obtain ⟨vs,hr3,hv3⟩:=HI.out.1.below HB3.out;rw [ctK_len] at hr3;have HR3:Hid _:=hr3;have HV3:Hid _:=hv3
       have HO3:Hid (Own w.heap.size w3 (.slice (some ⟨q3,0,none⟩) 256 c3) (sealL (cpg zs pg k))∧u8.ownBlock≠some q3):=by
        have l3:=ho3.lt2;have z2:=HB2.out.size;have z0:=HI.out.2.size;refine ⟨owns_base ho3 (fun x hx=>by have:=(World.ownsRow.lt ho3 x hx).1;omega),fun e=>?_⟩;obtain ⟨vs',h1',-⟩:=HI.out.1;have:=(World.ownsRow.lt h1' q3 e).2;omega
       have HBz:Hid (Below w.heap.size w w3):=HI.out.2.trans (HB3.out.mono HI.out.2.size);have hsz3:=HBz.out.size;clear ho3 hb3 hr3 hv3;go_wp2_with ((at_builtin;refine wpList_append_lies _ rfl _ _ 105 rfl w.heap.size 30 i0 (.slice none 0 0) 1 24 Tryz.underlying105 hi0 hz0 hz1 hz2 rfl (by omega) u8 k vs rfl (World.ownsRow.alloc HR3.out _) ⟨w3.heap.size,0,none⟩ 1 1 [.slice (some ⟨q3,0,none⟩) 256 c3] rfl rfl (World.news_of_block (heap_alloc_new w3 _)) (by simp [Value.oneCell']) (by omega) (by unfold maxLen;omega) (by omega) (by simp;omega) (w3.heap.size+1) (by simp) ?_;intro g4 cap4 w4 hown4 hgrow4 hat4 hlt4;have HZ:Hid (PgL w.heap.size w4 (.slice (some ⟨g4,0,none⟩) (k+1) cap4) (ctK zs pg (k+1))∧Below w.heap.size w w4):=(by show _∧_;have hl:=ctK_len zs pg k;have hq:=PgL.grown (L:=ctK zs pg k) (n:=256) HV3.out (by have:=HR3.out.1;rw [hl];omega) (cpg_256 zs pg k) HO3.out.1 HO3.out.2 (by rw [hl];exact hown4) hgrow4 hat4;rw [hl] at hq;rw [ctK_succ];exact ⟨hq,(HBz.out.alloc hsz3 _).grown hgrow4 (by simp;omega) (fun x hx=>(World.ownsRow.lt HR3.out x hx).1)⟩);clear hown4 hgrow4 hat4 hlt4))
       go_roundw
       case rel=>exact ⟨k+1,by omega,by go_num,HZ⟩
       case measure=>simp [intOf];omega
     ·by_cases hmn:zs.length≤C
      ·have hsl0:zs.length-A=m:=by omega
       have hle:(zs.length:Int)≤(C:Int):=by omega
       clear hrow hA hC hm hm' hkz hmn;have HXE:Hid (nxt pg k=0):=if_neg hn1;rw [HXE.out] at hput;go_wp2_with fail
       refine hput.mono ?_;clear hput;rintro e w1 ⟨g1,c1',rfl,ho1,hb1⟩;have HB1:Hid (Below wr.heap.size wr w1):=hb1;have HO1:Hid (Own wr.heap.size w1 (.slice (some ⟨g1,0,none⟩) 4 c1') (nums 4 (nxt pg k).toNat)):=by rw [HXE.out];exact ho1
       clear ho1 hb1;go_wp2_with ((at_builtin;refine append_row rfl _ _ rfl wr.heap.size _ (nums 4 (nxt pg k).toNat) rfl HO1.out (some ⟨b,off+A,none⟩) (prt zs k) (cap-A) (by rw [HM.out];rfl) (HROW.out.below HB1.out) (by intro e;cases e) (by rw [nums_len,HM.out];omega) HB1.out.size ?_;intro v2 w2 ho2 hb2;have HB2:Hid (Below wr.heap.size wr w2):=HB1.out.trans hb2;have hby:=cpg_bys (pg:=pg) HR.out.1 k;obtain ⟨ga,ca,rfl,hr2⟩:=ho2.row hby;have hln:(nums 4 (nxt pg k).toNat++prt zs k).length=4+m:=(by rw [List.length_append,nums_len,HM.out]);have hnl2:ga=none→ca=0:=(fun e=>ho2.nil e);have hsl:=rseal_v (cpg zs pg k) ga ca w2 hr2 hnl2 0 (cpg_ok zs pg k) (sealL (cpg zs pg k)) (cpg_seal zs pg k) 256 (cpg_256 zs pg k);have hpv:pgV (cpg zs pg k) ga ca=.agg #[.int .i64 5,.int .i64 0,.int .i64 m,.slice ga (4+m) ca]:=(by unfold pgV;show Value.agg #[.int .i64 5,.int .i64 0,.int .i64 (prt zs k).length,.slice ga (nums 4 (nxt pg k).toNat++prt zs k).length ca]=_;rw [HM.out,hln]);rw [hpv] at hsl;rw [hln];clear ho2 hb2 hby hr2 hln hnl2 hpv))
       refine hsl.mono ?_;clear hsl;rintro e w3 ⟨g3,c3,rfl,ho3,hb3⟩;obtain ⟨q3,rfl⟩:=ho3.some (by rw [cpg_256];omega);have HB3:Hid (Below wr.heap.size wr w3):=HB2.out.trans (hb3.mono HB2.out.size);obtain ⟨vs,hr3,hv3⟩:=HI.out.1.below HB3.out;rw [ctK_len] at hr3;have HR3:Hid _:=hr3;have HV3:Hid _:=hv3
       have HO3:Hid (Own w.heap.size w3 (.slice (some ⟨q3,0,none⟩) 256 c3) (sealL (cpg zs pg k))∧u8.ownBlock≠some q3):=by
        have l3:=ho3.lt2;have z2:=HB2.out.size;have z0:=HI.out.2.size;refine ⟨owns_base ho3 (fun x hx=>by have:=(World.ownsRow.lt ho3 x hx).1;omega),fun e=>?_⟩;obtain ⟨vs',h1',-⟩:=HI.out.1;have:=(World.ownsRow.lt h1' q3 e).2;omega
       have HBz:Hid (Below w.heap.size w w3):=HI.out.2.trans (HB3.out.mono HI.out.2.size);have hsz3:=HBz.out.size;clear ho3 hb3 hr3 hv3;go_wp2_with ((at_builtin;refine wpList_append_lies _ rfl _ _ 105 rfl w.heap.size 30 i0 (.slice none 0 0) 1 24 Tryz.underlying105 hi0 hz0 hz1 hz2 rfl (by omega) u8 k vs rfl (World.ownsRow.alloc HR3.out _) ⟨w3.heap.size,0,none⟩ 1 1 [.slice (some ⟨q3,0,none⟩) 256 c3] rfl rfl (World.news_of_block (heap_alloc_new w3 _)) (by simp [Value.oneCell']) (by omega) (by unfold maxLen;omega) (by omega) (by simp;omega) (w3.heap.size+1) (by simp) ?_;intro g4 cap4 w4 hown4 hgrow4 hat4 hlt4;have HZ:Hid (PgL w.heap.size w4 (.slice (some ⟨g4,0,none⟩) (k+1) cap4) (ctK zs pg (k+1))∧Below w.heap.size w w4):=(by show _∧_;have hl:=ctK_len zs pg k;have hq:=PgL.grown (L:=ctK zs pg k) (n:=256) HV3.out (by have:=HR3.out.1;rw [hl];omega) (cpg_256 zs pg k) HO3.out.1 HO3.out.2 (by rw [hl];exact hown4) hgrow4 hat4;rw [hl] at hq;rw [ctK_succ];exact ⟨hq,(HBz.out.alloc hsz3 _).grown hgrow4 (by simp;omega) (fun x hx=>(World.ownsRow.lt HR3.out x hx).1)⟩);clear hown4 hgrow4 hat4 hlt4))
       go_roundw
       case rel=>exact ⟨k+1,by omega,by go_num,HZ⟩
       case measure=>simp [intOf];omega
      ·have hsl0:C-A=m:=by omega
       have hlt2:(C:Int)<(zs.length:Int):=by omega
       have hmin:min (zs.length:Int) (C:Int)=(C:Int):=Int.min_eq_right (by omega);clear hrow hA hC hm hm' hkz hmn;have HXE:Hid (nxt pg k=0):=if_neg hn1;rw [HXE.out] at hput;go_wp2_with fail
       refine hput.mono ?_;clear hput;rintro e w1 ⟨g1,c1',rfl,ho1,hb1⟩;have HB1:Hid (Below wr.heap.size wr w1):=hb1;have HO1:Hid (Own wr.heap.size w1 (.slice (some ⟨g1,0,none⟩) 4 c1') (nums 4 (nxt pg k).toNat)):=by rw [HXE.out];exact ho1
       clear ho1 hb1;go_wp2_with ((at_builtin;refine append_row rfl _ _ rfl wr.heap.size _ (nums 4 (nxt pg k).toNat) rfl HO1.out (some ⟨b,off+A,none⟩) (prt zs k) (cap-A) (by rw [HM.out];rfl) (HROW.out.below HB1.out) (by intro e;cases e) (by rw [nums_len,HM.out];omega) HB1.out.size ?_;intro v2 w2 ho2 hb2;have HB2:Hid (Below wr.heap.size wr w2):=HB1.out.trans hb2;have hby:=cpg_bys (pg:=pg) HR.out.1 k;obtain ⟨ga,ca,rfl,hr2⟩:=ho2.row hby;have hln:(nums 4 (nxt pg k).toNat++prt zs k).length=4+m:=(by rw [List.length_append,nums_len,HM.out]);have hnl2:ga=none→ca=0:=(fun e=>ho2.nil e);have hsl:=rseal_v (cpg zs pg k) ga ca w2 hr2 hnl2 0 (cpg_ok zs pg k) (sealL (cpg zs pg k)) (cpg_seal zs pg k) 256 (cpg_256 zs pg k);have hpv:pgV (cpg zs pg k) ga ca=.agg #[.int .i64 5,.int .i64 0,.int .i64 m,.slice ga (4+m) ca]:=(by unfold pgV;show Value.agg #[.int .i64 5,.int .i64 0,.int .i64 (prt zs k).length,.slice ga (nums 4 (nxt pg k).toNat++prt zs k).length ca]=_;rw [HM.out,hln]);rw [hpv] at hsl;rw [hln];clear ho2 hb2 hby hr2 hln hnl2 hpv))
       refine hsl.mono ?_;clear hsl;rintro e w3 ⟨g3,c3,rfl,ho3,hb3⟩;obtain ⟨q3,rfl⟩:=ho3.some (by rw [cpg_256];omega);have HB3:Hid (Below wr.heap.size wr w3):=HB2.out.trans (hb3.mono HB2.out.size);obtain ⟨vs,hr3,hv3⟩:=HI.out.1.below HB3.out;rw [ctK_len] at hr3;have HR3:Hid _:=hr3;have HV3:Hid _:=hv3
       have HO3:Hid (Own w.heap.size w3 (.slice (some ⟨q3,0,none⟩) 256 c3) (sealL (cpg zs pg k))∧u8.ownBlock≠some q3):=by
        have l3:=ho3.lt2;have z2:=HB2.out.size;have z0:=HI.out.2.size;refine ⟨owns_base ho3 (fun x hx=>by have:=(World.ownsRow.lt ho3 x hx).1;omega),fun e=>?_⟩;obtain ⟨vs',h1',-⟩:=HI.out.1;have:=(World.ownsRow.lt h1' q3 e).2;omega
       have HBz:Hid (Below w.heap.size w w3):=HI.out.2.trans (HB3.out.mono HI.out.2.size);have hsz3:=HBz.out.size;clear ho3 hb3 hr3 hv3;go_wp2_with ((at_builtin;refine wpList_append_lies _ rfl _ _ 105 rfl w.heap.size 30 i0 (.slice none 0 0) 1 24 Tryz.underlying105 hi0 hz0 hz1 hz2 rfl (by omega) u8 k vs rfl (World.ownsRow.alloc HR3.out _) ⟨w3.heap.size,0,none⟩ 1 1 [.slice (some ⟨q3,0,none⟩) 256 c3] rfl rfl (World.news_of_block (heap_alloc_new w3 _)) (by simp [Value.oneCell']) (by omega) (by unfold maxLen;omega) (by omega) (by simp;omega) (w3.heap.size+1) (by simp) ?_;intro g4 cap4 w4 hown4 hgrow4 hat4 hlt4;have HZ:Hid (PgL w.heap.size w4 (.slice (some ⟨g4,0,none⟩) (k+1) cap4) (ctK zs pg (k+1))∧Below w.heap.size w w4):=(by show _∧_;have hl:=ctK_len zs pg k;have hq:=PgL.grown (L:=ctK zs pg k) (n:=256) HV3.out (by have:=HR3.out.1;rw [hl];omega) (cpg_256 zs pg k) HO3.out.1 HO3.out.2 (by rw [hl];exact hown4) hgrow4 hat4;rw [hl] at hq;rw [ctK_succ];exact ⟨hq,(HBz.out.alloc hsz3 _).grown hgrow4 (by simp;omega) (fun x hx=>(World.ownsRow.lt HR3.out x hx).1)⟩);clear hown4 hgrow4 hat4 hlt4))
       go_roundw
       case rel=>exact ⟨k+1,by omega,by go_num,HZ⟩
       case measure=>simp [intOf];omega
    ·have hk':k=pg.length:=by omega
     subst hk';go_wp2;go_ret2
     refine ⟨_,by rw [HE.out];rfl,?_,HI.out.2⟩;unfold ctZ;rw [if_pos HE.out];exact HI.out.1
theorem nou_zero (n:Nat):nouB (List.replicate n 0)=true:=nouB_iff.2 fun j hj=>by
 rw [List.length_replicate] at hj;rw [List.getD_eq_getElem?_getD,List.getElem?_replicate,if_pos hj];rfl
theorem nx_cpg {zs pg:List Int} {k:Nat} (hX:0≤nxt pg k∧nxt pg k<4096):nx (padP (cpg zs pg k))=nxt pg k:=by
 have h:=getI_mid [] (nums 4 (nxt pg k).toNat) (prt zs k++List.replicate (248-(cpg zs pg k).body.length) 0) 0 4 (nums_bys _ _) rfl (by rw [nums_len];rfl) (by rw [nums_len];omega) (by rw [nums_len];omega);unfold nx
 have e:(padP (cpg zs pg k)).body=[]++(nums 4 (nxt pg k).toNat++(prt zs k++List.replicate (248-(cpg zs pg k).body.length) 0)):=by
  show (nums 4 (nxt pg k).toNat++prt zs k)++_=_;rw [List.append_assoc];rfl
 rw [e,h,numsZ (by have:(256:Nat)^4=4294967296:=rfl;omega)];omega
theorem part_cpg {zs pg:List Int} {k:Nat} (hb:Bys zs) (hok:CtOk pg) (hl:pg.length=ned zs.length) (hk:k<pg.length):
  ptE (sealL (cpg zs pg k))=0∧ptL (sealL (cpg zs pg k))=prt zs k∧ptN (sealL (cpg zs pg k))=nxt pg k:=by
 obtain ⟨h1,h2⟩:=open_seal (cpg_bys hb k) (cpg_ok zs pg k);have hX:=nxt_in hok k;have hm:=prt_len zs k;have hx:=nx_cpg (zs:=zs) hX;have hkz:k*244<zs.length:=by unfold ned at hl;omega
 have hB:ptB (padP (cpg zs pg k))=true:=by
  have hc:(padP (cpg zs pg k)).count=(prt zs k).length:=rfl;rw [ptB_yes rfl rfl (by rw [hc];omega) (by rw [hc];omega) ?_ (by rw [hx];exact hX.2) ?_,hc,Int.toNat_natCast]
  ·have e:(padP (cpg zs pg k)).body.drop (4+(prt zs k).length)=List.replicate (248-(cpg zs pg k).body.length) 0:=by
    show ((nums 4 (nxt pg k).toNat++prt zs k)++_).drop _=_;rw [List.drop_append_of_le_length (by rw [List.length_append,nums_len];exact Nat.le_refl _),List.drop_of_length_le (by rw [List.length_append,nums_len];exact Nat.le_refl _)];rfl
   rw [e];exact nou_zero _
  ·rw [hx];unfold nxt;split
   ·next h=>have:=(hok (k+1) h).1;omega
   ·omega
  ·rw [hx,hc];unfold nxt;intro h0;split at h0
   ·next h=>unfold ned at hl;omega
   ·exact absurd rfl h0
 have hE:ptE (sealL (cpg zs pg k))=0:=by unfold ptE;rw [if_pos h1,h2,hB];rfl
 refine ⟨hE,?_,?_⟩
 ·unfold ptL;rw [hE,if_pos rfl,h2];show (((nums 4 (nxt pg k).toNat++prt zs k)++_).drop 4).take ((prt zs k).length:Int).toNat=_;rw [List.append_assoc,List.drop_left' (nums_len _ _),Int.toNat_natCast,List.take_left' rfl]
 ·unfold ptN;rw [hE,if_pos rfl,h2];exact hx
end Go.Proofs.YtjllhcifmfhkmaaGreat.Oct
namespace Go.Proofs.YtjllhcifmfhkmaaGreat.Oct
open Go.RowKit Go.ChangeShapes Go.WideShapes
set_option maxRecDepth 20000 in
theorem open_bytesJ {H:Type} {enc:TypeId × Value→H} {w:World} {base fuel:Nat} {held:Bool} {v:Value} {x:DataW H × List MemPlace} (h:DataW.trod enc Tryz.prog w base (fun _=>true) held fuel 30 [v]=some x):
  ∃a ys cap,v=.slice a ys.length cap∧Row w a cap ys∧(a=none→cap=0):=by
 rcases open_ints Tryz.underlying30 Tryz.underlying5 (by kernel_rfl) h with ⟨hcs,_⟩|⟨x,l,c,zs,hcs,_,hl,hm,hz,_,hcell,hwz⟩
 ·simp at hcs;exact ⟨none,[],0,hcs,⟨fun z hz=>by simp at hz,Nat.le_refl _,by simp [maxLen],.inl rfl⟩,fun _=>rfl⟩
 ·simp at hcs;have hr:IsRow .u8 w (some x) l c zs:=.inr ⟨_,rfl,hl,hm,by simpa using hz,hcell,hwz⟩;obtain ⟨ys,h1,h2⟩:=hr.row;exact ⟨some x,ys,c,by rw [hcs,h1],h2,fun e=>by cases e⟩
end Go.Proofs.YtjllhcifmfhkmaaGreat.Oct
