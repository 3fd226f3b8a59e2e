/- Part of a proof. -/
import Derived.Test.YtaijfhadecennabGreatKo
import Derived.RangeFuncNested
import Derived.RangeFuncBound
import Derived.RangeFuncCalls
import Derived.RangeFuncLeaves
import Derived.Shelf.Abstract
import Derived.Shelf.RegionOpen
import Derived.WalkKit
import Derived.OwnWalkIn
import Derived.TacticsInMore
import Derived.LoopNIn
import Derived.LoopIn
open Go.Proofs.Tryz
set_option maxHeartbeats 2000000
namespace Go.Proofs.YtaijfhadecennabGreat.Oct.Chs
open Go.RowKit
set_option maxRecDepth 100000 in
theorem zero62 (w:World):(zeroValue 243).run prog w=.ok (.agg (Array.replicate 4096 (.bool false))) w:=by kernel_rfl
theorem zero62':∃cs:Array Value,(∀w,(zeroValue 243).run prog w=.ok (.agg cs) w)/\cs.size=4096/\∀i,i<4096->cs[i]?=some (.bool false):=
 ⟨_,zero62,Array.size_replicate,fun i hi=>by rw [Array.getElem?_replicate,if_pos hi]⟩
def Tk (T:Nat) (w:World) (S:Nat->Bool):Prop:=∃cur:Array Value,w.heap[T]?=some (.cells cur 243 (0,0))/\cur.size=4096/\∀i,i<4096->cur[i]?=some (.bool (S i))
theorem Tk.cell {T:Nat} {w:World} {S:Nat->Bool} (h:Tk T w S) (i:Nat) (hi:i<4096):w.cell? ⟨T,i,none⟩=some (.bool (S i)):=by
 obtain ⟨cur,h1,h2,h3⟩:=h;simp [World.cell?,h1,h3 i hi]
theorem Tk.frozen {T:Nat} {w:World} {S:Nat->Bool} (h:Tk T w S) (i:Nat):w.frozen? ⟨T,i,none⟩=false:=by
 obtain ⟨cur,h1,h2,h3⟩:=h;simp [World.frozen?,h1]
theorem Tk.set {T:Nat} {w:World} {S S':Nat->Bool} (h:Tk T w S) (n:Nat) (hs:∀i,S' i=if i=n then true else S i):Tk T (w.setCell ⟨T,n,none⟩ (.bool true)) S':=by
 obtain ⟨cur,h1,h2,h3⟩:=h;refine ⟨_,yK w T n _ cur _ _ h1,by simp [h2],fun i hi=>?_⟩;rw [hs,Array.getElem?_setIfInBounds];by_cases e:i=n
 ·subst e;rw [if_pos rfl,if_pos rfl,if_pos (by omega)]
 ·rw [if_neg (fun x=>e x.symm),if_neg e];exact h3 i hi
theorem Tk.new {w:World} {cs:Array Value} (h2:cs.size=4096) (h3:∀i,i<4096->cs[i]?=some (.bool false)):Tk w.heap.size (w.alloc (.cells cs 243)) (fun _=>false):=⟨cs,heap_alloc_new w _,h2,h3⟩
def metB (pg:List Int) (k i:Nat):Bool:=decide (∃j,j<k/\pg.getD j 0=i)
theorem metB_zero (pg:List Int) (i:Nat):metB pg 0 i=false:=jM fun ⟨j,h,_⟩=>by omega
theorem metB_succ (pg:List Int) (k n:Nat) (h:pg.getD k 0=n) (i:Nat):metB pg (k+1) i=if i=n then true else metB pg k i:=by
 unfold metB;by_cases e:i=n
 ·subst e;rw [if_pos rfl];exact jF ⟨k,by omega,h⟩
 ·rw [if_neg e]
  congr 1
  apply propext;constructor
  ·rintro ⟨j,hj,hh⟩;refine ⟨j,?_,hh⟩;by_cases ej:j=k
   ·subst ej;omega
   ·omega
  ·exact fun ⟨j,hj,hh⟩=>⟨j,by omega,hh⟩
theorem uK (pa:Option Addr) (pcap:Nat) (pg:List Int) (w:World) (hp:RowI w pa pcap pg) (V:Bool) (hV:ctB pg=V):
  Calls prog 167 #[.slice pa pg.length pcap] w fun e w'=>e=.returned (.bool V)/\Below w.heap.size w w':=by
 have hpl:pg.length<=maxLen:=jR hp.1 hp.2.1;unfold maxLen at hpl;have HP:Hid (RowI w pa pcap pg):=hp;obtain ⟨cs,z1,z2,z3⟩:=zero62';have z0:=z1 w;have HT:Hid (Tk w.heap.size (w.alloc (.cells cs 243)) (fun _=>false)):=Tk.new z2 z3;clear hp z1 z2 z3
 have HNo:Hid (∀k,k<pg.length->(¬(2<=pg.getD k 0/\pg.getD k 0<4096)\/∃j,j<k/\pg.getD j 0=pg.getD k 0)->V=false):=fun k hk hh=>by
  rw [<-hV];cases hB:ctB pg
  ·rfl
  ·have:=ctB_iff.1 hB k hk;rcases hh with hh|⟨j,hj,hh⟩
   ·exact absurd this.1 hh
   ·exact absurd hh (this.2 j hj)
 have HYes:Hid (ctUp pg pg.length->V=true):=fun hh=>by rw [<-hV];exact ctB_iff.2 hh
 clear hV;go_enter func167,ntmps167
 go_wp2_with fail
 go_loopw [8] (fun i wr=>∃k:Nat,k<=pg.length/\i=.int .i64 k/\Hid (ctUp pg k/\Below w.heap.size w wr/\Tk w.heap.size wr (metB pg k))) (fun i _=>pg.length-(intOf i).toNat)
 case atStart=>exact ⟨0,jW _,rfl,(by show _/\_;exact ⟨fun i hi=>by omega,(Below.refl _ _).alloc (jB _) _,by rw [show metB pg 0=fun _=>false from funext (metB_zero pg)];exact HT.out⟩)⟩
 case round=>
  clear HT z0;obtain ⟨k,hk,rfl,HI⟩:=hrel;by_cases hlt:k<pg.length
  ·obtain ⟨pb,po,rfl,c1⟩:=(HP.out.below HI.out.2.1).at' k hlt;obtain ⟨z,hz⟩:∃z,pg.getD k 0=z:=⟨_,rfl⟩;have HZ:Hid (pg.getD k 0=z):=hz;rw [hz] at c1;clear hz;by_cases h2:2<=z/\z<=4095
   ·obtain ⟨n,rfl⟩:=qB (show 0<=z by omega);have cw:=fun w=>within_v n 2 4095 true (jF h2) w
    have hn2:2<=n:=by omega
    have hn4:n<4096:=by omega
    have c2:=HI.out.2.2.cell n hn4;have c3:=HI.out.2.2.frozen n;cases hm:metB pg k n
    ·rw [hm] at c2;have HM:Hid (metB pg k n=false):=hm;clear h2 hm;go_wp2_with (go_at_call 165;refine (cw _).mono ?_;rintro e w1 ⟨rfl,rfl⟩)
     go_roundw
     case rel=>
      have hup:ctUp pg (k+1):=fun x hx=>by
       rcases Nat.lt_succ_iff_lt_or_eq.1 hx with h|rfl
       ·exact HI.out.1 x h
       ·rw [HZ.out];exact ⟨⟨by omega,by omega⟩,fun j hj e=>of_decide_eq_false HM.out ⟨j,hj,e⟩⟩
      exact ⟨k+1,by omega,by go_num,(by show _/\_/\_;exact ⟨hup,HI.out.2.1.setCell (p:=⟨w.heap.size,n,none⟩) (jB _) _,HI.out.2.2.set n (metB_succ pg k n HZ.out)⟩)⟩
     case measure=>simp [intOf];omega
    ·rw [hm] at c2;have e:V=false:=HNo.out k hlt (.inr (by obtain ⟨j,h1,h2⟩:=jZ hm;exact ⟨j,h1,by rw [HZ.out];exact h2⟩));subst e;clear h2 hm;go_wp2_with (go_at_call 165;refine (cw _).mono ?_;rintro e w1 ⟨rfl,rfl⟩)
     go_ret
     exact ⟨rfl,HI.out.2.1⟩
   ·have cw:=fun w=>within_v z 2 4095 false (jM h2) w
    have e:V=false:=HNo.out k hlt (.inl (by rw [HZ.out];omega));subst e;clear h2;go_wp2_with (go_at_call 165;refine (cw _).mono ?_;rintro e w1 ⟨rfl,rfl⟩)
    go_ret
    exact ⟨rfl,HI.out.2.1⟩
  ·have hk':k=pg.length:=by omega
   subst hk';have e:V=true:=HYes.out HI.out.1;subst e;go_wp2;go_ret
   exact ⟨rfl,HI.out.2.1⟩
end Go.Proofs.YtaijfhadecennabGreat.Oct.Chs
namespace Go.Proofs.YtaijfhadecennabGreat.Oct.Chs
open Go.RowKit
theorem seal_c (zs pg:List Int) (k:Nat) (a:Option Addr) (cap m:Nat) (X:Int) (w:World) (hr:Row w a cap (prt zs k)) (hnil:a=none->cap=0) (hm:(prt zs k).length=m) (hX:nxt pg k=X) (h0:0<=X) (h1:X<4096):
  Calls prog 169 #[.slice a m cap,.int .i64 X] w fun e w'=>∃g c,e=.returned (.tuple #[.slice (some ⟨g,0,none⟩) 256 c,.int .i64 0])/\Own w.heap.size w' (.slice (some ⟨g,0,none⟩) 256 c) (sealL (cpg zs pg k))/\Below w.heap.size w w':=by
 have hm':=ZK zs k;rw [hm] at hm';have hm2:m<=244:=by omega
 have HR:Hid (Row w a cap (prt zs k)):=hr;have HN:Hid (a=none->cap=0):=hnil;have HM:Hid ((prt zs k).length=m):=hm;have HX:Hid (nxt pg k=X):=hX;have hfit:fitB 4 X=true:=by rw [fit4];exact jF (by omega)
 have hput:=fun a cap w (h:Row w a cap (List.replicate 4 0))=>put_any a cap (List.replicate 4 0) 0 4 X w h (by simp) (by omega)
 rw [show putB (List.replicate 4 0) 0 4 X=true from (by unfold putB;rw [hfit];rfl),show putR (List.replicate 4 0) 0 4 X=nums 4 X.toNat from putR_nums (n:=4) (by omega) (by omega) hfit,jJ] at hput;have HPut:Hid _:=hput;obtain ⟨i0,hi0,hz0,hz1,hz2⟩:=info_parts info5;clear hr hnil hm hm' hX hput hfit;go_enter func169,ntmps169
 go_wp2_with (at_make;refine wpList_make_full _ rfl _ _ 22 rfl w.heap.size 5 i0 (.int .u8 0) 1 underlying22 hi0 hz0 hz1 .i64 .i64 _ _ 4 rfl rfl rfl rfl (by rw [hz2];omega) (by simp [maxLen]) (jB _) ?_;intro w1 hown1 hgrow1;have HB1:Hid (Below w.heap.size w w1):=(Below.refl _ w).grown hgrow1 (jB _) (by simp);have HO1:Hid (Own w.heap.size w1 (.slice (some ⟨w.heap.size,0,none⟩) 4 4) (List.replicate 4 0)):=JG hown1;clear hown1 hgrow1)
 refine (HPut.out _ _ _ (HO1.out.row' (QK _)).2).mono ?_;rintro e w2 ⟨v,rfl,ho2,hb2⟩;obtain ⟨g2,c2,rfl,_⟩:=ho2.row (zJ _ _);rw [yM];have HB2:Hid (Below w.heap.size w w2):=HB1.out.trans (hb2.mono HB1.out.size);have HO2:Hid (Own w.heap.size w2 (.slice g2 4 c2) (nums 4 X.toNat)):=by rw [yM] at ho2;exact ho2.weaken HB1.out.size
 clear ho2 hb2 HPut;go_wp2_with (at_builtin;refine append_row rfl _ _ rfl w.heap.size _ (nums 4 X.toNat) rfl HO2.out a (prt zs k) cap (by rw [HM.out];rfl) (HR.out.below HB2.out) HN.out (by rw [yM,HM.out];omega) HB2.out.size ?_;intro v3 w3 ho3 hb3;have HB3:Hid (Below w.heap.size w w3):=HB2.out.trans hb3;have hby:Bys (cpg zs pg k).body:=(zJ _ _).app HR.out.1;have hcb:(cpg zs pg k).body=nums 4 X.toNat++prt zs k:=(by unfold cpg;rw [HX.out]);obtain ⟨ga,ca,rfl,hr3⟩:=ho3.row (by rw [<-hcb];exact hby);have hln:(nums 4 X.toNat++prt zs k).length=4+m:=(by rw [jO,yM,HM.out]);have hsl:=seal_v (cpg zs pg k) ga ca w3 (by rw [hcb];exact hr3) (by show (5:Int)<=_;omega) (by show (0:Int)<=_;omega) (by show ((prt zs k).length:Int)<=_;rw [HM.out];omega) 0 (cpg_ok zs pg k) (sealL (cpg zs pg k)) (cpg_seal zs pg k) 256 (ZV zs pg k);have hpv:pgV (cpg zs pg k) ga ca=.agg #[.int .i64 5,.int .i64 0,.int .i64 m,.slice ga (4+m) ca]:=(by unfold pgV;rw [hcb,hln];show Value.agg #[.int .i64 5,.int .i64 0,.int .i64 (prt zs k).length,.slice ga (4+m) ca]=_;rw [HM.out]);rw [hpv] at hsl;rw [hln];clear ho3 hb3 hby hr3 hln hpv hcb)
 refine hsl.mono ?_;clear hsl;rintro e w4 ⟨g,c,rfl,ho,hb⟩;obtain ⟨q,rfl⟩:=ho.some (by rw [ZV];omega);have HB4:Hid (Below w.heap.size w w4):=HB3.out.trans (hb.mono HB3.out.size);have HO:Hid (Own w.heap.size w4 (.slice (some ⟨q,0,none⟩) 256 c) (sealL (cpg zs pg k))):=ho.weaken HB3.out.size;clear ho hb;go_wp2;go_ret2
 exact ⟨_,_,rfl,HO.out,HB4.out⟩
end Go.Proofs.YtaijfhadecennabGreat.Oct.Chs
namespace Go.Proofs.YtaijfhadecennabGreat.Oct.Chs
open Go.RowKit Go.Shelf
attribute [local go_sem] Oper.semAt_some
def enc (b off cap:Nat) (zs pg:List Int) (k:{k:Nat // k<pg.length}):Array Value:= #[.slice (some ⟨b,off+k.1*244,none⟩) (prt zs k.1).length (cap-k.1*244),.int .i64 (nxt pg k.1)]
def Kp (n₀ Bp:Nat) (W W':World):Prop:=Below n₀ W W'/\W'.heap[Bp]?=W.heap[Bp]?
theorem Kp.drew {n₀ Bp:Nat} {W wr W':World} (h:Kp n₀ Bp W wr) (k:Kp n₀ Bp wr.drew W'):Kp n₀ Bp W W':=⟨h.1.trans ⟨k.1.os,k.1.tape,k.1.output,k.1.size,k.1.block⟩,k.2.trans h.2⟩
theorem abides_drew {β:Type} {B:Nat} {J:β->World->Prop} (h:AbidesFrom B J) {s:β} {W:World} (hs:J s W):J s W.drew:=h s W W.drew none hs ⟨rfl,rfl,rfl,jB _,fun _ _ _=>rfl⟩ (fun r e=>by cases e)
set_option maxRecDepth 100000 in
theorem parts1_in (n:Nat) (hn:1<=n) (l Bs Bp b off cap pb po pcap n₀:Nat) (zs pg:List Int) (J Jx:List {k:Nat // k<pg.length}->World->Prop) (W:World) (hJa:AbidesFrom W.heap.size J)
  (hY:∀pre x W1,J pre W1->pre.length<pg.length->YieldAt Fence.wide (n-1) prog l (enc b off cap zs pg x) W1 fun e W'=>
   (e=.returned (.bool true)/\J (pre++[x]) W'/\Kp n₀ Bp W1 W')\/(e=.returned (.bool false)/\Jx (pre++[x]) W'))
  (hcs:W.cell? ⟨Bs,0,none⟩=some (.slice (some ⟨b,off,none⟩) zs.length cap)) (hcp:W.cell? ⟨Bp,0,none⟩=some (.slice (some ⟨pb,po,none⟩) pg.length pcap))
  (hr:Row W (some ⟨b,off,none⟩) cap zs) (hp:RowI W (some ⟨pb,po,none⟩) pcap pg) (hpb:pb<n₀) (hl:pg.length=ned zs.length) (hz:zs.length<=1000000) (h0:J [] W):
  CallsIn Fence.wide n prog 202 #[.func (.yield l) #[] #[],.pointer (some ⟨Bs,0,none⟩),.pointer (some ⟨Bp,0,none⟩)] W fun e W'=>(∃v,e=.returned v)/\
   ((∃ys,ys.map (·.1)=List.range pg.length/\J ys W')\/(∃pre,Jx pre W')):=by
 have hpl:pg.length<=1000000:=by unfold ned at hl;omega
 have hcap:=hr.2.1;have hmx:=hr.2.2.1;unfold maxLen at hmx;have HL:Hid (pg.length=ned zs.length):=hl;have HR:Hid (Row W (some ⟨b,off,none⟩) cap zs):=hr
 have HP:Hid (∀k,k<pg.length->W.cell? ⟨pb,po+k,none⟩=some (.int .i64 (pg.getD k 0))):=fun k hk=>by
  obtain ⟨pb',po',e,c⟩:=hp.at' k hk;cases e;exact c
 have HPm:Hid (pg.length<=pcap/\pcap<=maxLen):=⟨hp.1,hp.2.1⟩;clear hr hp hl;refine callsIn_of_wp func202 rfl trivial ?_ rfl;simp only [ntmps202,xP,qL,yB,Nat.reduceAdd,Nat.reduceSub,Array.replicate_succ,Array.replicate_zero,List.push_toArray,List.append_toArray,xL,List.cons_append]
 gi_wp2
 gi_loopw [4,10] (fun r i wr=>∃k:Nat,k<=pg.length/\i=.int .i64 k/\(k<pg.length->r=.slice (some ⟨b,off+k*244,none⟩) (zs.length-k*244) (cap-k*244))/\Hid (∃pre,pre.map (·.1)=List.range k/\J pre wr)/\Hid (Kp n₀ Bp W wr))
  (fun _ i _=>pg.length-(intOf i).toNat)
 case atStart=>exact ⟨0,jW _,rfl,fun _=>by simp,⟨[],rfl,h0⟩,(by show _/\_;exact ⟨Below.refl _ _,rfl⟩)⟩
 case round=>
  obtain ⟨k,hk,rfl,hr,HJ,HB⟩:=hrel;by_cases hlt:k<pg.length
  ·obtain ⟨pre,hpre,hJs⟩:=HJ.out;have hlen:pre.length<pg.length:=by have:=congrArg List.length hpre;rw [qQ,List.length_range] at this;omega
   obtain ⟨fn,tmps,assign,body,hy,hR0⟩:=hY pre ⟨k,hlt⟩ wr.drew (abides_drew hJa hJs) hlen;have hrI:RowI wr.drew (some ⟨pb,po,none⟩) pcap pg:=⟨HPm.out.1,HPm.out.2,.inr ⟨pb,po,rfl,fun i hi=>(HB.out.1.cell (p:=⟨pb,po+i,none⟩) hpb).trans (HP.out i hi)⟩⟩;obtain ⟨X,hX⟩:∃X,nxt pg k=X:=⟨_,rfl⟩;have cbe:=behind_v (some ⟨pb,po,none⟩) pcap pg k wr.drew hrI hlt X hX;have cp:wr.cell? ⟨Bp,0,none⟩=some (.slice (some ⟨pb,po,none⟩) pg.length pcap):=(World.cell?_of_block (a:=⟨Bp,0,none⟩) HB.out.2).trans hcp;obtain ⟨m,hm⟩:∃m,(prt zs k).length=m:=⟨_,rfl⟩;have hm':=ZK zs k;rw [hm] at hm'
   replace hr:=hr hlt
   unfold enc at hy;dsimp only at hy;rw [hm,hX] at hy;have hkz:k*244<zs.length:=by have:=HL.out;unfold ned at this;omega
   have hlast:k+1<pg.length->k*244+244<zs.length:=by have:=HL.out;unfold ned at this;omega
   have hk1:(k+1)*244=k*244+244:=by omega
   obtain ⟨A,hA⟩:∃A,k*244=A:=⟨_,rfl⟩;rw [hA] at hr hy hm' hkz hlast hk1;subst hr;have HPre:Hid (pre.map (·.1)=List.range k):=hpre
   have hR1:RoundIn Fence.wide (n-1) prog l fn tmps assign body wr.drew fun e W'=>∃B:Bool,e=.returned (.bool B)/\Hid ((B=true->J (pre++[⟨k,hlt⟩]) W'/\Kp n₀ Bp wr.drew W')/\(B=false->Jx (pre++[⟨k,hlt⟩]) W')):=by
    refine hR0.mono ?_;rintro e W3 (⟨rfl,hJ3,hk3⟩|⟨rfl,hJx3⟩)
    ·exact ⟨true,rfl,(by show _/\_;exact ⟨fun _=>⟨hJ3,hk3⟩,fun e=>by cases e⟩)⟩
    ·exact ⟨false,rfl,(by show _/\_;exact ⟨(fun e=>by cases e),fun _=>hJx3⟩)⟩
   have hmx2:prog.follows .mixedOrders=true:=by kernel_rfl
   clear hR0 hY hpre hrI hJs hm;have hAR:A+m<=zs.length:=by omega
   obtain ⟨R,hRe⟩:∃R,zs.length-A=R:=⟨_,rfl⟩;obtain ⟨C,hCe⟩:∃C,cap-A=C:=⟨_,rfl⟩;rw [hRe,hCe];rw [hCe] at hy;have hRC:R<=C:=by omega
   have hCm:C<=2^63-1:=by omega
   have HF:Hid (zs.length-A=R/\cap-A=C/\k*244=A/\A<zs.length/\(k+1<pg.length->A+244<zs.length)/\(k+1)*244=A+244):=⟨hRe,hCe,hA,hkz,hlast,hk1⟩;have HX:Hid (nxt pg k=X):=hX;by_cases h244:R<=244
   ·have hmR:m=R:=by omega
    subst hmR;have hmin:min (m:Int) 244=(m:Int):=by omega
    clear hm' hRe hCe hA hkz hlast hk1 hAR hX
    gi_wp2
    gi_region_with_o (first|(refine ⟨trivial,?_⟩;gi_at_call 203;refine (callsIn_wide.2 cbe).mono ?_;rintro e w1 ⟨rfl,rfl⟩)|(refine hR1.mono ?_;rintro e W3 ⟨B,rfl,HYB⟩))
    all_goals
     cases B
     ·have hJx:=HYB.out.2 rfl
      gi_wp2
      refine bodyPost_ret (results_none rfl _ _ _) rfl ?_;exact ⟨⟨_,rfl⟩,.inr ⟨_,hJx⟩⟩
     ·(obtain ⟨hJ3,hk3⟩:=HYB.out.1 rfl
       by_cases hmC:C=m
       ·subst hmC
        gi_wp2
        go_roundw
        case rel=>
         refine ⟨k+1,by omega,by go_num,fun h=>?_,⟨_,by rw [qM,HPre.out,List.range_succ];rfl,hJ3⟩,HB.out.drew hk3⟩;have:=HF.out;omega
        case measure=>simp [intOf];omega
       ·gi_wp2
        go_roundw
        case rel=>
         refine ⟨k+1,by omega,by go_num,fun h=>?_,⟨_,by rw [qM,HPre.out,List.range_succ];rfl,hJ3⟩,HB.out.drew hk3⟩;have:=HF.out;omega
        case measure=>simp [intOf];omega)
   ·have hmR:m=244:=by omega
    subst hmR;have hmin:min (R:Int) 244=244:=by omega
    clear hm' hRe hCe hA hkz hlast hk1 hAR hX
    gi_wp2
    gi_region_with_o (first|(refine ⟨trivial,?_⟩;gi_at_call 203;refine (callsIn_wide.2 cbe).mono ?_;rintro e w1 ⟨rfl,rfl⟩)|(refine hR1.mono ?_;rintro e W3 ⟨B,rfl,HYB⟩))
    all_goals
     cases B
     ·have hJx:=HYB.out.2 rfl
      gi_wp2
      refine bodyPost_ret (results_none rfl _ _ _) rfl ?_;exact ⟨⟨_,rfl⟩,.inr ⟨_,hJx⟩⟩
     ·(obtain ⟨hJ3,hk3⟩:=HYB.out.1 rfl
       gi_wp2
       go_roundw
       case rel=>
        refine ⟨k+1,by omega,by go_num,fun h=>?_,⟨_,by rw [qM,HPre.out,List.range_succ];rfl,hJ3⟩,HB.out.drew hk3⟩;obtain ⟨f1,f2,f3,f4,f5,f6⟩:=HF.out;rw [f6,<-yJ,show zs.length-(A+244)=R-244 by omega,show cap-(A+244)=C-244 by omega]
       case measure=>simp [intOf];omega)
  ·obtain rfl:k=pg.length:=by omega
   clear hr
   gi_wp2
   go_end0
   obtain ⟨pre,hpre,hJs⟩:=HJ.out;exact ⟨⟨_,rfl⟩,.inl ⟨pre,hpre,hJs⟩⟩
end Go.Proofs.YtaijfhadecennabGreat.Oct.Chs
namespace Go.Proofs.YtaijfhadecennabGreat.Oct.Chs
open Go.RowKit Go.Shelf
attribute [local go_sem] Oper.semAt_some
set_option maxRecDepth 100000 in
theorem parts1_nil (n l Bs Bp:Nat) (sv:Value) (pa:Option Addr) (pcap:Nat) (J:World->Prop) (W:World)
  (hcs:W.cell? ⟨Bs,0,none⟩=some sv) (hs:∃a n c,sv=.slice a n c) (hcp:W.cell? ⟨Bp,0,none⟩=some (.slice pa 0 pcap)) (h0:J W):
  CallsIn Fence.wide n prog 202 #[.func (.yield l) #[] #[],.pointer (some ⟨Bs,0,none⟩),.pointer (some ⟨Bp,0,none⟩)] W fun e W'=>(∃v,e=.returned v)/\J W':=by
 obtain ⟨a,m,c,rfl⟩:=hs;refine callsIn_of_wp func202 rfl trivial ?_ rfl;simp only [ntmps202,xP,qL,yB,Nat.reduceAdd,Nat.reduceSub,Array.replicate_succ,Array.replicate_zero,List.push_toArray,List.append_toArray,xL,List.cons_append]
 gi_wp2
 gi_loopw [10] (fun i wr=>i=.int .i64 0/\J wr) (fun _ _=>0)
 case atStart=>exact ⟨rfl,h0⟩
 case round=>
  obtain ⟨rfl,hJs⟩:=hrel
  gi_wp2
  go_end0
  exact ⟨⟨_,rfl⟩,hJs⟩
theorem gP (n:Nat) (a pa:Option Addr) (m cap pm pcap:Nat) (w:World):
  CallsIn Fence.wide n prog 168 #[.slice a m cap,.slice pa pm pcap] w fun e w'=>e=.returned (.func (.func 202) #[] #[.pointer (some ⟨w.heap.size,0,none⟩),.pointer (some ⟨w.heap.size+1,0,none⟩)])/\w'=(w.alloc (.cells #[.slice a m cap] 22)).alloc (.cells #[.slice pa pm pcap] 38):=by
 refine callsIn_of_wp func168 rfl trivial ?_ rfl;simp only [ntmps168,xP,qL,yB,Nat.reduceAdd,Nat.reduceSub,Array.replicate_succ,Array.replicate_zero,List.push_toArray,List.append_toArray,xL,List.cons_append]
 gi_wp2
 go_ret
 exact ⟨by simp,rfl⟩
theorem PgL.keepC {base:Nat} {W W':World} {v:Value} {L:List (List Int)} (h:PgL base W v L) (hk:∀(k:Nat) (cur:Array Value) (t:TypeId) (fr:Nat × Nat),W.heap[k]?=some (Obj.cells cur t fr)->(t=5\/t=22)->W'.heap[k]?=W.heap[k]?):PgL base W' v L:=by
 obtain ⟨vs,h1,h2⟩:=h
 have keep:∀{e:TypeId} {n:Nat} {u:Value} {xs:List Value},(e=5\/e=22)->W.ownsRow base e 1 u n xs->W'.ownsRow base e 1 u n xs:=fun he ho=>by
  refine yN ho fun g hg=>?_
  rcases ho.2 with ⟨rfl,_⟩|⟨g',cap,cur,rfl,_,hgb,_⟩
  ·simp [Value.ownBlock] at hg
  ·obtain rfl:g'=g:=by simpa [Value.ownBlock] using hg
   exact hk _ _ _ _ hgb he
 refine ⟨vs,keep (.inr rfl) h1,fun i hi=>?_⟩;obtain ⟨g,c,e,ho,hn⟩:=h2 i hi;exact ⟨g,c,e,keep (.inl rfl) ho,hn⟩
theorem uO {w:World} {p q:Nat} {u v:Value} (hne:p≠q) (h4:(w.cell? ⟨p,0,none⟩).isSome=true) (h5:(w.cell? ⟨q,0,none⟩).isSome=true):
  ((w.setCell ⟨p,0,none⟩ u).setCell ⟨q,0,none⟩ v).cell? ⟨p,0,none⟩=some u/\((w.setCell ⟨p,0,none⟩ u).setCell ⟨q,0,none⟩ v).cell? ⟨q,0,none⟩=some v:=by
 refine ⟨?_,World.cell?_setCell_same' _ _ _ ?_⟩
 ·rw [World.cell?_setCell_other _ _ _ _ (fun e=>hne (by cases e;rfl))];exact World.cell?_setCell_same' _ _ _ h4
 ·rw [World.cell?_setCell_other _ _ _ _ (fun e=>hne (by cases e;rfl))];exact h5
set_option maxRecDepth 100000 in
theorem Cut_bad (a:Option Addr) (cap:Nat) (zs:List Int) (pa:Option Addr) (pcap:Nat) (pg:List Int) (w:World) (hp:RowI w pa pcap pg) (hz:zs.length<=1000000) (h:pg.length≠ned zs.length\/ctB pg=false):
  Calls prog 126 #[.slice a zs.length cap,.slice pa pg.length pcap] w (CtR w zs pg):=by
 have hnd:=fun w=>Need_v zs.length w (by omega) (by omega)
 rw [XP] at hnd
 have HE:Hid (ctE zs pg=1):=by
  show ctE zs pg=1;unfold ctE;rcases h with h|h
  ·rw [if_neg h]
  ·rw [h];split<;>rfl
 have HN:Hid (∀w,Calls prog 124 #[.int .i64 zs.length] w fun e w'=>e=.returned (.int .i64 (ned zs.length))/\w=w'):=hnd;clear hnd;by_cases hlen:pg.length=ned zs.length
 ·have hb:ctB pg=false:=h.resolve_left (fun e=>e hlen);have hmh:=fun w hp=>uK pa pcap pg w hp false hb
  have HM:Hid _:=hmh;have HP:Hid (RowI w pa pcap pg):=hp;have hne:((pg.length:Int) !=(ned zs.length:Int))=false:=by simp;omega
  clear h hlen hb hmh hp;go_enter func126,ntmps126
  go_wp2_with (first|(go_at_call 124;refine (HN.out _).mono ?_;rintro e w1 ⟨rfl,rfl⟩)|(go_at_call 167;refine (HM.out _ (HP.out.below (((Below.refl _ w).alloc (jB _) _).alloc (by simp) _))).mono ?_;rintro e w1 ⟨rfl,hb1⟩;have hsz:((w.alloc (.cells #[.slice none 0 0] 50)).alloc (.cells #[.int .i64 0] 31)).heap.size=w.heap.size+2:=(by simp);have c4:w1.cell? ⟨w.heap.size,0,none⟩=some (.slice none 0 0):=(hb1.cell (p:=⟨w.heap.size,0,none⟩) (by show w.heap.size<_;omega)).trans (by simp);have c5:w1.cell? ⟨w.heap.size+1,0,none⟩=some (.int .i64 0):=(hb1.cell (p:=⟨w.heap.size+1,0,none⟩) (by show w.heap.size+1<_;omega)).trans (by simp);have f4:w1.frozen? ⟨w.heap.size,0,none⟩=false:=(hb1.frozen (p:=⟨w.heap.size,0,none⟩) (by show w.heap.size<_;omega)).trans (by simp);have f5:w1.frozen? ⟨w.heap.size+1,0,none⟩=false:=(hb1.frozen (p:=⟨w.heap.size+1,0,none⟩) (by show w.heap.size+1<_;omega)).trans (by simp);have HB1:Hid (Below w.heap.size w w1):=((((Below.refl _ w).alloc (jB _) _).alloc (by simp) _).trans (hb1.mono (by omega)));clear hb1 hsz))
  obtain ⟨q4,q5⟩:=uO (w:=w1) (p:=w.heap.size) (q:=w.heap.size+1) (u:=.slice none 0 0) (v:=.int .i64 1) (by omega) (by rw [c4];rfl) (by rw [c5];rfl);refine bodyPost_ret (v:=.tuple #[.slice none 0 0,.int .i64 1]) (by simp [results,Tryz.results126,go_sem,q4,q5]) rfl ?_;exact CtR.no HE.out (by omega) ((HB1.out.setCell (p:=⟨w.heap.size,0,none⟩) (jB _) _).setCell (p:=⟨w.heap.size+1,0,none⟩) (Nat.le_succ _) _)
 ·have hne:((pg.length:Int) !=(ned zs.length:Int))=true:=by simp;omega
  clear h hlen;go_enter func126,ntmps126
  go_wp2_with (go_at_call 124;refine (HN.out _).mono ?_;rintro e w1 ⟨rfl,rfl⟩)
  refine bodyPost_ret (v:=.tuple #[.slice none 0 0,.int .i64 1]) (by simp [results,Tryz.results126,go_sem]) rfl ?_;exact CtR.no HE.out (by omega) (((Below.refl _ w).alloc (jB _) _).alloc (by simp) _)
end Go.Proofs.YtaijfhadecennabGreat.Oct.Chs
