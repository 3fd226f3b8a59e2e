/- Part of a proof. -/
import Derived.Test.YtjllhcifmfhkmaaGreatAuv
import Derived.Test.YtjllhcifmfhkmaaGreatLwj
import Derived.Test.YtjllhcifmfhkmaaGreatQh
import Derived.Test.YtjllhcifmfhkmaaGreatQk
import Derived.Test.YtjllhcifmfhkmaaGreatCp
import Derived.Test.YtjllhcifmfhkmaaGreatZb
import Derived.Test.YtjllhcifmfhkmaaGreatGh
namespace Go.Proofs.YtjllhcifmfhkmaaGreat.Oct
open Go.RowKit
theorem tmod_in {x n:Int} (hn:0<n):0≤Int.tmod (Int.tmod x n+n) n∧Int.tmod (Int.tmod x n+n) n<n:=by
 have h1:=Int.lt_tmod_of_pos x hn;have h2:=Int.tmod_lt_of_pos x hn;refine ⟨Int.tmod_nonneg _ (by omega),Int.tmod_lt_of_pos _ hn⟩
def ImA (base:Nat) (w:World) (g n cap:Nat):Prop:=∃L,Own base w (.slice (some ⟨g,0,none⟩) n cap) L∧Bys L
set_option maxHeartbeats 4000000 in
set_option maxRecDepth 20000 in
theorem struck_v {w:World} {N n u c ca:Nat} {a b:Option Addr} {L:List Int} {l:List Ht} (hL:Row w a c L) (hl:L.length=n) (hn:n=N*256) (h8:8≤N) (h4:N≤4096) (hh:IsHits w b ca l) (hu:l.length=u):
  Calls Tryz.prog 18 #[.slice a n c,.slice b u ca] w fun e w'=>∃g cap,e=.returned (.slice (some ⟨g,0,none⟩) n cap)∧ImA w.heap.size w' g n cap∧Below w.heap.size w w':=by
 have CC:=copy_any a c L w hL (by omega);rw [hl] at CC;have HH:Hid (IsHits w b ca l∧l.length=u∧Bys L∧L.length=n):=⟨hh,hu,hL.1,hl⟩;have hux:=Nat.le_trans hh.1 hh.2.1;rw [hu] at hux;unfold maxLen at hux;have hnn:(n:Int)/256=(N:Int):=by omega
 have HNN:Hid (n=N*256):=hn;have hn1:n≤1048576:=by omega
 have hn8:2048≤n:=by omega
 clear hL hl hh hu hn;go_enter Tryz.func18,Tryz.ntmps18
 go_wp2_with fail
 refine CC.mono ?_;clear CC;rintro e w1 ⟨v,rfl,ho,hb1⟩
 obtain ⟨g,cap,rfl⟩:∃g cap,v=.slice (some ⟨g,0,none⟩) n cap:=by
  rcases ho.2 with ⟨_,h0⟩|⟨g,cap,cur,rfl,_⟩
  ·have:=HH.out.2.2.2;omega
  ·exact ⟨g,cap,by rw [HH.out.2.2.2]⟩
 have H1:Hid (ImA w.heap.size w1 g n cap∧Below w.heap.size w w1):=⟨⟨L,ho,HH.out.2.2.1⟩,hb1⟩;clear ho hb1;go_wp2_with fail
 go_loopg [7] u (fun gh i wr=>∃k:Nat,k≤u∧gh=u-k∧i=.int .i64 (k:Int)∧Hid (ImA w.heap.size wr g n cap∧Below w.heap.size w wr))
 case atStart=>exact ⟨0,Nat.zero_le _,rfl,rfl,H1.out⟩
 case round=>
  clear H1;obtain ⟨k,hk,hgk,rfl,HI⟩:=hrel;have HGK:Hid (gk=u-k):=hgk;clear hgk;have HE:Hid (∃g' cap',Ending.returned (.slice (some ⟨g,0,none⟩) n cap)=.returned (.slice (some ⟨g',0,none⟩) n cap')∧ImA w.heap.size wr g' n cap'∧Below w.heap.size w wr):=⟨g,cap,rfl,HI.out⟩;by_cases hlt:k<u
  ·by_cases h20:k<20
   ·obtain ⟨hb,ho,rfl,hhb,hAt⟩:∃hb ho,b=some ⟨hb,ho,none⟩∧hb<w.heap.size∧HitAt wr hb (ho+k*4) (l.getD k noHit):=by
     rcases HH.out.1.2.2 with h|⟨hb,ho,e,h⟩
     ·have:=HH.out.2.1;rw [h] at this;simp at this;omega
     ·have hk1:=h k (by have:=HH.out.2.1;omega);have hl1:hb<w.heap.size:=block_lt_of_cell hk1.c0;exact ⟨hb,ho,e,hl1,hk1.same (HI.out.2.block hb hl1)⟩
    have hca:=HH.out.1.1;have hca2:=HH.out.1.2.1;rw [HH.out.2.1] at hca;unfold maxLen at hca2;obtain ⟨x0,x1,x2,x3,wp,wa,wt⟩:=hAt;obtain ⟨d,hd⟩:∃d,l.getD k noHit=d:=⟨_,rfl⟩;rw [hd] at x0 x1 x2 x3 wp wa wt;obtain ⟨dp,da,dt,ds⟩:=d;simp only at x0 x1 x2 x3 wp wa wt;have t1:=tmod_in (x:=dp) (n:=(N:Int)) (by omega);have t2:=tmod_in (x:=da) (n:=256) (by omega);have t3:=Int.lt_tmod_of_pos dp (show (0:Int)<(N:Int) by omega);have t4:=Int.tmod_lt_of_pos dp (show (0:Int)<(N:Int) by omega);have t5:=Int.lt_tmod_of_pos da (show (0:Int)<256 by omega);have t6:=Int.tmod_lt_of_pos da (show (0:Int)<256 by omega);obtain ⟨q1,hq1⟩:∃q1,Int.tmod dp (N:Int)=q1:=⟨_,rfl⟩;obtain ⟨q2,hq2⟩:∃q2,Int.tmod da 256=q2:=⟨_,rfl⟩;rw [hq1] at t1 t3 t4;rw [hq2] at t2 t5 t6;obtain ⟨pp,hpp⟩:∃pp:Nat,Int.tmod (q1+(N:Int)) (N:Int)=(pp:Int):=⟨(Int.tmod (q1+(N:Int)) (N:Int)).toNat,by omega⟩;obtain ⟨kk,hkk⟩:∃kk:Nat,Int.tmod (q2+256) 256=(kk:Int):=⟨(Int.tmod (q2+256) 256).toNat,by omega⟩;rw [hpp] at t1;rw [hkk] at t2;have hppN:pp<N:=by omega
    have hkk2:kk<256:=by omega
    have hN0:¬(N:Int)=0:=by omega
    obtain ⟨Lr,hoL,hbL⟩:=HI.out.1;obtain ⟨hlr,hcap,hmx⟩:=hoL.cap';unfold maxLen at hmx;obtain ⟨p0,hp0⟩:∃p0,pp*256=p0:=⟨_,rfl⟩;have hp0i:(pp:Int)*256=(p0:Int):=by omega
    have hp1i:((pp:Int)+1)*256=((p0+256:Nat):Int):=by omega
    have hp0n:p0+256≤n:=by have:=HNN.out;omega
    obtain ⟨-,b1,b2,hst⟩:=own_at' hoL (p0+kk) (by omega);obtain ⟨y0,hy0⟩:∃y0,Lr.getD (p0+kk) 0=y0:=⟨_,rfl⟩;rw [hy0] at b1
    have HS:Hid (Own w.heap.size (wr.setCell ⟨g,p0+kk,none⟩ (.int .u8 dt)) (.slice (some ⟨g,0,none⟩) n cap) (Lr.set (p0+kk) dt)∧Bys (Lr.set (p0+kk) dt)∧Below w.heap.size w (wr.setCell ⟨g,p0+kk,none⟩ (.int .u8 dt))):=by
     refine ⟨hst dt,fun z hz=>?_,HI.out.2.setCell (p:=⟨g,p0+kk,none⟩) hoL.lt2.1 _⟩;rcases List.mem_or_eq_of_mem_set hz with h|h
     ·exact hbL z h
     ·rw [h];exact wt
    have HPP:Hid (pp*256=p0∧Lr.length=n∧w.heap.size≤g):=⟨hp0,hlr.symm,hoL.lt2.1⟩;have hbg:¬hb=g:=by have:=hoL.lt2.1;omega
    have hsub:p0+256-p0=256:=by omega
    clear hst hy0 hp0 t1 t2 hlr hoL hbL;clear hd HE;cases ds with
    |false=>
     go_wp2;go_roundg (u-(k+1))
     case rel=>exact ⟨k+1,by omega,rfl,by go_num,(show _∧_ from ⟨⟨_,HS.out.1,HS.out.2.1⟩,HS.out.2.2⟩)⟩
     case measure=>have:=HGK.out;omega
    |true=>
     obtain ⟨w2,hw2⟩:∃w2,wr.setCell ⟨g,p0+kk,none⟩ (.int .u8 dt)=w2:=⟨_,rfl⟩;rw [hw2] at HS
     have x3w:w2.cell? ⟨hb,ho+k*4+3,none⟩=some (.bool true):=by
      rw [←hw2];exact (World.cell?_of_block (w:=wr) (a:=⟨hb,ho+k*4+3,none⟩) (Below.heap_setCell wr ⟨g,p0+kk,none⟩ _ hb hbg)).trans x3
     obtain ⟨L2,hL2⟩:∃L2,Lr.set (p0+kk) dt=L2:=⟨_,rfl⟩;have hl2:L2.length=n:=by rw [←hL2,List.length_set];exact HPP.out.2.1
     rw [hL2] at HS;have hrow:=(HS.out.1.row' HS.out.2.1).2;have hX:=hrow.cut p0 256 (by omega);have hY:=hrow.cut (p0+4) 252 (by omega);rw [Nat.zero_add] at hX hY;have lX:((L2.drop p0).take 256).length=256:=by rw [List.length_take,List.length_drop];omega
     have lY:((L2.drop (p0+4)).take 252).length=252:=by rw [List.length_take,List.length_drop];omega
     have CR:=refcrc_any _ _ _ w2 hY;rw [lY] at CR;have hcb:=crc_bd hY.1;obtain ⟨cr,hcr⟩:∃cr,crc ((L2.drop (p0+4)).take 252)=cr:=⟨_,rfl⟩;rw [hcr] at CR hcb;have CP:=refput_any _ _ _ 0 4 cr w2 hX (by omega);rw [lX] at CP;have HX:Hid (Bys ((L2.drop p0).take 256)∧((L2.drop p0).take 256).length=256):=⟨hX.1,lX⟩;clear hL2 hcr hX hY hrow lX lY;rw [show cap-(p0+4)=cap-p0-4 from by omega] at CR;go_wp2_with fail
     refine CR.mono ?_;clear CR;rintro e w' ⟨rfl,rfl⟩;go_wp2_with fail
     try simp only [hsub]
     refine CP.mono ?_;clear CP;rintro e w3 ⟨v3,rfl,ho3,hb3⟩;obtain ⟨pb,hpb⟩:∃pb,putB ((L2.drop p0).take 256) 0 4 cr=pb:=⟨_,rfl⟩;rw [hpb];have hg2:=HS.out.1.lt2;have H3:Hid (Own w.heap.size w3 (.slice (some ⟨g,0,none⟩) n cap) L2∧Below w.heap.size w w3∧Bys L2):=⟨HS.out.1.kept (hb3.block g hg2.2),HS.out.2.2.trans (hb3.mono HS.out.2.2.size),HS.out.2.1⟩;cases pb with
     |false=>
      clear ho3 hb3;go_wp2;go_roundg (u-(k+1))
      case rel=>exact ⟨k+1,by omega,rfl,by go_num,(show _∧_ from ⟨⟨_,H3.out.1,H3.out.2.2⟩,H3.out.2.1⟩)⟩
      case measure=>have:=HGK.out;omega
     |true=>
      have hZl:(putR ((L2.drop p0).take 256) 0 4 cr).length=256:=by
       unfold putR;rw [if_pos hpb,putL_len];exact HX.out.2
      have hZb:=putR_bys HX.out.1 0 4 cr;obtain ⟨Z,hZ⟩:∃Z,putR ((L2.drop p0).take 256) 0 4 cr=Z:=⟨_,rfl⟩;rw [hZ] at ho3 hZl hZb;obtain ⟨g3,c3,hv3,hr3⟩:=ho3.row hZb;rw [hZl] at hv3;subst hv3
      have CY:=lay_v (k:=pp) H3.out.1 hr3 hZl (by have:=HPP.out.1;omega) (by omega) (fun x e=>by
       have:=World.ownsRow.lt ho3 x.block (by rw [e];rfl);omega)
      have HZ3:Hid (Bys Z):=hZb;clear ho3 hb3 hr3 hZ hZb;go_wp2_with fail
      refine CY.mono ?_;clear CY;rintro e w4 ⟨rfl,ho4,hc4⟩
      have H4:Hid (ImA w.heap.size w4 g n cap∧Below w.heap.size w w4):=by
       refine ⟨⟨_,ho4,?_⟩,H3.out.2.1.trans ((hc4.mono H3.out.2.1.size (fun _ _ h=>h)).below (fun k e=>by have:=hg2.1;omega))⟩;exact (show Bys (L2.take (pp*256)) from fun z hz=>H3.out.2.2 z (List.mem_of_mem_take hz)).app (HZ3.out.app (fun z hz=>H3.out.2.2 z (List.mem_of_mem_drop hz)))
      clear ho4 hc4;go_wp2;go_roundg (u-(k+1))
      case rel=>exact ⟨k+1,by omega,rfl,by go_num,H4.out⟩
      case measure=>have:=HGK.out;omega
   ·have d1:decide ((k:Int)<20)=false:=decide_eq_false (by omega);go_wp2;go_ret
    exact HE.out
  ·go_wp2;go_ret
   exact HE.out
end Go.Proofs.YtjllhcifmfhkmaaGreat.Oct
