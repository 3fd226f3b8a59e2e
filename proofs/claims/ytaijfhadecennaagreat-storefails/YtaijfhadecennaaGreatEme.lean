/- Part of a proof. -/
import Derived.Test.YtaijfhadecennaaGreatEab
import Derived.Test.YtaijfhadecennaaGreatUb
import Derived.Test.YtaijfhadecennaaGreatEaa
import Derived.RangeFuncNested
import Derived.RangeFuncBound
import Derived.RangeFuncCalls
import Derived.RangeFuncLeaves
import Derived.Shelf.Abstract
import Derived.Shelf.RegionOpen
import Derived.WalkKit
import Derived.OwnWalkIn
import Derived.TacticsInMore
import Derived.LoopNIn
import Derived.LoopIn
open Go.Proofs.Tryz
set_option maxHeartbeats 2000000
namespace Go.Proofs.YtaijfhadecennaaGreat.Oct.Sx
open Go.RowKit
section
variable {w0 w:World} {F0:Nat->Prop} {s d p sp c cC cS:Nat} {aC aS:Option Addr} {X:St} {zs:List Int} {lab:Nat->Nat} {S:Sp} {vC vT vB:Value} {bg:Bool}
theorem fM (c s:Nat) (pl:Int) (w:World) (h0:w.cell? ⟨c,0,none⟩=some (.pointer (some ⟨s,0,none⟩))) (h1:w.cell? ⟨s,11,none⟩=some (.int .i64 pl)) (hp:0<=pl/\pl<=1):
  Calls prog 136 #[.pointer (some ⟨c,0,none⟩)] w fun e w'=>e=.returned (.int .i64 (1-pl))/\w=w':=by
 go_enter func136,ntmps136
 go_wp2;go_ret
 exact ⟨rfl,rfl⟩
theorem KG (h:CmC w0 w F0 s d p sp c aC cC lab X aS cS zs S vC vT vB bg) (hz:zs.length<=1000000000):
  Calls prog 130 #[.pointer (some ⟨c,0,none⟩)] w fun e w'=>e=.returned (.int .i64 (if zs.length<=1048576 then 0 else 3))/\w=w':=by
 obtain ⟨c0,c1,_⟩:=h.at;by_cases hl:zs.length<=1048576
 ·have h1:decide ((zs.length:Int)>1048576)=false:=jH (by omega);rw [if_pos hl];go_enter func130,ntmps130
  go_wp2;go_ret
  exact ⟨rfl,rfl⟩
 ·have h1:decide ((zs.length:Int)>1048576)=true:=jE (by omega);rw [if_neg hl];go_enter func130,ntmps130
  go_wp2;go_ret
  exact ⟨rfl,rfl⟩
theorem KF (h:CmC w0 w F0 s d p sp c aC cC lab X aS cS zs S vC vT vB bg) (E:Int) (hE:enE S=E):
  Calls prog 129 #[.pointer (some ⟨c,0,none⟩)] w fun e w'=>e=.returned (.int .i64 E)/\Below w.heap.size w w':=by
 have c2:w.cell? ⟨c,2,none⟩=some (.int .i64 S.g):=by rw [h.cell];rfl
 have c3:w.cell? ⟨c,3,none⟩=some (.int .i64 S.p):=by rw [h.cell];rfl
 have c4:w.cell? ⟨c,4,none⟩=some (.int .i64 S.r):=by rw [h.cell];rfl
 have c5:w.cell? ⟨c,5,none⟩=some (.int .i64 S.h):=by rw [h.cell];rfl
 have c6:w.cell? ⟨c,6,none⟩=some (.int .i64 S.b):=by rw [h.cell];rfl
 have c7:w.cell? ⟨c,7,none⟩=some (.int .i64 S.l):=by rw [h.cell];rfl
 have c8:w.cell? ⟨c,8,none⟩=some (.int .i64 S.s):=by rw [h.cell];rfl
 have c9:w.cell? ⟨c,9,none⟩=some (.int .i64 S.f):=by rw [h.cell];rfl
 have hc:=UY S w E hE;clear h;go_enter func129,ntmps129
 go_wp2_with (go_at_call 142;refine hc.mono ?_;rintro e w' ⟨rfl,hb⟩)
 go_ret
 exact ⟨rfl,hb⟩
theorem settle_any (s q:Nat) (cs:Array Value) (w:World) (h:w.heap[s]?=some (.cells cs 81 (0,0))) (hs:cs.size=16):
  Calls prog 135 #[.pointer (some ⟨s,0,none⟩),.pointer (some ⟨q,0,none⟩)] w fun e w'=>e=.returned (.tuple #[])/\w'=((w.setCell ⟨s,2,none⟩ (.pointer (some ⟨q,0,none⟩))).setCell ⟨s,14,none⟩ (.pointer none)).setCell ⟨s,15,none⟩ (.map none):=by
 have cc:∀i,w.cell? ⟨s,i,none⟩=cs[i]?:=fun i=>cell_of_row w _ _ _ _ (0,0) h
 have fz:∀i,w.frozen? ⟨s,i,none⟩=false:=fun i=>by unfold World.frozen?;rw [h];simp
 obtain ⟨v2,h2⟩:∃v,w.cell? ⟨s,2,none⟩=some v:=⟨_,(cc 2).trans (xD (by omega))⟩;obtain ⟨v14,h14⟩:∃v,w.cell? ⟨s,14,none⟩=some v:=⟨_,(cc 14).trans (xD (by omega))⟩;obtain ⟨v15,h15⟩:∃v,w.cell? ⟨s,15,none⟩=some v:=⟨_,(cc 15).trans (xD (by omega))⟩;clear cc h;go_enter func135,ntmps135
 go_wp2;go_end0
 exact ⟨rfl,rfl⟩
end
end Go.Proofs.YtaijfhadecennaaGreat.Oct.Sx
namespace Go.Proofs.YtaijfhadecennaaGreat.Oct.Chs
open Go.RowKit
set_option maxRecDepth 100000 in
theorem zero62 (w:World):(zeroValue 204).run prog w=.ok (.agg (Array.replicate 4096 (.bool false))) w:=by kernel_rfl
theorem zero62':∃cs:Array Value,(∀w,(zeroValue 204).run prog w=.ok (.agg cs) w)/\cs.size=4096/\∀i,i<4096->cs[i]?=some (.bool false):=
 ⟨_,zero62,Array.size_replicate,fun i hi=>by rw [Array.getElem?_replicate,if_pos hi]⟩
def Tk (T:Nat) (w:World) (S:Nat->Bool):Prop:=∃cur:Array Value,w.heap[T]?=some (.cells cur 204 (0,0))/\cur.size=4096/\∀i,i<4096->cur[i]?=some (.bool (S i))
theorem Tk.cell {T:Nat} {w:World} {S:Nat->Bool} (h:Tk T w S) (i:Nat) (hi:i<4096):w.cell? ⟨T,i,none⟩=some (.bool (S i)):=by
 obtain ⟨cur,h1,h2,h3⟩:=h;simp [World.cell?,h1,h3 i hi]
theorem Tk.frozen {T:Nat} {w:World} {S:Nat->Bool} (h:Tk T w S) (i:Nat):w.frozen? ⟨T,i,none⟩=false:=by
 obtain ⟨cur,h1,h2,h3⟩:=h;simp [World.frozen?,h1]
theorem Tk.set {T:Nat} {w:World} {S S':Nat->Bool} (h:Tk T w S) (n:Nat) (hs:∀i,S' i=if i=n then true else S i):Tk T (w.setCell ⟨T,n,none⟩ (.bool true)) S':=by
 obtain ⟨cur,h1,h2,h3⟩:=h;refine ⟨_,yO w T n _ cur _ _ h1,by simp [h2],fun i hi=>?_⟩;rw [hs,Array.getElem?_setIfInBounds];by_cases e:i=n
 ·subst e;rw [if_pos rfl,if_pos rfl,if_pos (by omega)]
 ·rw [if_neg (fun x=>e x.symm),if_neg e];exact h3 i hi
theorem Tk.new {w:World} {cs:Array Value} (h2:cs.size=4096) (h3:∀i,i<4096->cs[i]?=some (.bool false)):Tk w.heap.size (w.alloc (.cells cs 204)) (fun _=>false):=⟨cs,heap_alloc_new w _,h2,h3⟩
def metB (pg:List Int) (k i:Nat):Bool:=decide (∃j,j<k/\pg.getD j 0=i)
theorem metB_zero (pg:List Int) (i:Nat):metB pg 0 i=false:=jH fun ⟨j,h,_⟩=>by omega
theorem metB_succ (pg:List Int) (k n:Nat) (h:pg.getD k 0=n) (i:Nat):metB pg (k+1) i=if i=n then true else metB pg k i:=by
 unfold metB;by_cases e:i=n
 ·subst e;rw [if_pos rfl];exact jE ⟨k,by omega,h⟩
 ·rw [if_neg e]
  congr 1
  apply propext;constructor
  ·rintro ⟨j,hj,hh⟩;refine ⟨j,?_,hh⟩;by_cases ej:j=k
   ·subst ej;omega
   ·omega
  ·exact fun ⟨j,hj,hh⟩=>⟨j,by omega,hh⟩
theorem vX (pa:Option Addr) (pcap:Nat) (pg:List Int) (w:World) (hp:RowI w pa pcap pg) (V:Bool) (hV:ctB pg=V):
  Calls prog 139 #[.slice pa pg.length pcap] w fun e w'=>e=.returned (.bool V)/\Below w.heap.size w w':=by
 have hpl:pg.length<=maxLen:=jP hp.1 hp.2.1;unfold maxLen at hpl;have HP:Hid (RowI w pa pcap pg):=hp;obtain ⟨cs,z1,z2,z3⟩:=zero62';have z0:=z1 w;have HT:Hid (Tk w.heap.size (w.alloc (.cells cs 204)) (fun _=>false)):=Tk.new z2 z3;clear hp z1 z2 z3
 have HNo:Hid (∀k,k<pg.length->(¬(2<=pg.getD k 0/\pg.getD k 0<4096)\/∃j,j<k/\pg.getD j 0=pg.getD k 0)->V=false):=fun k hk hh=>by
  rw [<-hV];cases hB:ctB pg
  ·rfl
  ·have:=ctB_iff.1 hB k hk;rcases hh with hh|⟨j,hj,hh⟩
   ·exact absurd this.1 hh
   ·exact absurd hh (this.2 j hj)
 have HYes:Hid (ctUp pg pg.length->V=true):=fun hh=>by rw [<-hV];exact ctB_iff.2 hh
 clear hV;go_enter func139,ntmps139
 go_wp2_with fail
 go_loopw [8] (fun i wr=>∃k:Nat,k<=pg.length/\i=.int .i64 k/\Hid (ctUp pg k/\Below w.heap.size w wr/\Tk w.heap.size wr (metB pg k))) (fun i _=>pg.length-(intOf i).toNat)
 case atStart=>exact ⟨0,jT _,rfl,(by show _/\_;exact ⟨fun i hi=>by omega,(Below.refl _ _).alloc (jB _) _,by rw [show metB pg 0=fun _=>false from funext (metB_zero pg)];exact HT.out⟩)⟩
 case round=>
  clear HT z0;obtain ⟨k,hk,rfl,HI⟩:=hrel;by_cases hlt:k<pg.length
  ·obtain ⟨pb,po,rfl,c1⟩:=(HP.out.below HI.out.2.1).at' k hlt;obtain ⟨z,hz⟩:∃z,pg.getD k 0=z:=⟨_,rfl⟩;have HZ:Hid (pg.getD k 0=z):=hz;rw [hz] at c1;clear hz;by_cases h2:2<=z/\z<=4095
   ·obtain ⟨n,rfl⟩:=jW (show 0<=z by omega);have cw:=fun w=>within_v n 2 4095 true (jE h2) w
    have hn2:2<=n:=by omega
    have hn4:n<4096:=by omega
    have c2:=HI.out.2.2.cell n hn4;have c3:=HI.out.2.2.frozen n;cases hm:metB pg k n
    ·rw [hm] at c2;have HM:Hid (metB pg k n=false):=hm;clear h2 hm;go_wp2_with (go_at_call 180;refine (cw _).mono ?_;rintro e w1 ⟨rfl,rfl⟩)
     go_roundw
     case rel=>
      have hup:ctUp pg (k+1):=fun x hx=>by
       rcases Nat.lt_succ_iff_lt_or_eq.1 hx with h|rfl
       ·exact HI.out.1 x h
       ·rw [HZ.out];exact ⟨⟨by omega,by omega⟩,fun j hj e=>of_decide_eq_false HM.out ⟨j,hj,e⟩⟩
      exact ⟨k+1,by omega,by go_num,(by show _/\_/\_;exact ⟨hup,HI.out.2.1.setCell (p:=⟨w.heap.size,n,none⟩) (jB _) _,HI.out.2.2.set n (metB_succ pg k n HZ.out)⟩)⟩
     case measure=>simp [intOf];omega
    ·rw [hm] at c2;have e:V=false:=HNo.out k hlt (.inr (by obtain ⟨j,h1,h2⟩:=jZ hm;exact ⟨j,h1,by rw [HZ.out];exact h2⟩));subst e;clear h2 hm;go_wp2_with (go_at_call 180;refine (cw _).mono ?_;rintro e w1 ⟨rfl,rfl⟩)
     go_ret
     exact ⟨rfl,HI.out.2.1⟩
   ·have cw:=fun w=>within_v z 2 4095 false (jH h2) w
    have e:V=false:=HNo.out k hlt (.inl (by rw [HZ.out];omega));subst e;clear h2;go_wp2_with (go_at_call 180;refine (cw _).mono ?_;rintro e w1 ⟨rfl,rfl⟩)
    go_ret
    exact ⟨rfl,HI.out.2.1⟩
  ·have hk':k=pg.length:=by omega
   subst hk';have e:V=true:=HYes.out HI.out.1;subst e;go_wp2;go_ret
   exact ⟨rfl,HI.out.2.1⟩
end Go.Proofs.YtaijfhadecennaaGreat.Oct.Chs
namespace Go.Proofs.YtaijfhadecennaaGreat.Oct.Chs
open Go.RowKit
theorem seal_c (zs pg:List Int) (k:Nat) (a:Option Addr) (cap m:Nat) (X:Int) (w:World) (hr:Row w a cap (prt zs k)) (hnil:a=none->cap=0) (hm:(prt zs k).length=m) (hX:nxt pg k=X) (h0:0<=X) (h1:X<4096):
  Calls prog 141 #[.slice a m cap,.int .i64 X] w fun e w'=>∃g c,e=.returned (.tuple #[.slice (some ⟨g,0,none⟩) 256 c,.int .i64 0])/\Own w.heap.size w' (.slice (some ⟨g,0,none⟩) 256 c) (sealL (cpg zs pg k))/\Below w.heap.size w w':=by
 have hm':=uI zs k;rw [hm] at hm';have hm2:m<=244:=by omega
 have HR:Hid (Row w a cap (prt zs k)):=hr;have HN:Hid (a=none->cap=0):=hnil;have HM:Hid ((prt zs k).length=m):=hm;have HX:Hid (nxt pg k=X):=hX;have hfit:fitB 4 X=true:=by rw [fit4];exact jE (by omega)
 have hput:=fun a cap w (h:Row w a cap (List.replicate 4 0))=>put_any a cap (List.replicate 4 0) 0 4 X w h (by simp) (by omega)
 rw [show putB (List.replicate 4 0) 0 4 X=true from (by unfold putB;rw [hfit];rfl),show putR (List.replicate 4 0) 0 4 X=nums 4 X.toNat from putR_nums (n:=4) (by omega) (by omega) hfit,jK] at hput;have HPut:Hid _:=hput;obtain ⟨i0,hi0,hz0,hz1,hz2⟩:=info_parts info5;clear hr hnil hm hm' hX hput hfit;go_enter func141,ntmps141
 go_wp2_with (at_make;refine wpList_make_full _ rfl _ _ 32 rfl w.heap.size 5 i0 (.int .u8 0) 1 underlying32 hi0 hz0 hz1 .i64 .i64 _ _ 4 rfl rfl rfl rfl (by rw [hz2];omega) (by simp [maxLen]) (jB _) ?_;intro w1 hown1 hgrow1;have HB1:Hid (Below w.heap.size w w1):=(Below.refl _ w).grown hgrow1 (jB _) (by simp);have HO1:Hid (Own w.heap.size w1 (.slice (some ⟨w.heap.size,0,none⟩) 4 4) (List.replicate 4 0)):=JJ hown1;clear hown1 hgrow1)
 refine (HPut.out _ _ _ (HO1.out.row' (XC _)).2).mono ?_;rintro e w2 ⟨v,rfl,ho2,hb2⟩;obtain ⟨g2,c2,rfl,_⟩:=ho2.row (zR _ _);rw [yS];have HB2:Hid (Below w.heap.size w w2):=HB1.out.trans (hb2.mono HB1.out.size);have HO2:Hid (Own w.heap.size w2 (.slice g2 4 c2) (nums 4 X.toNat)):=by rw [yS] at ho2;exact ho2.weaken HB1.out.size
 clear ho2 hb2 HPut;go_wp2_with (at_builtin;refine ZP rfl _ _ rfl w.heap.size _ (nums 4 X.toNat) rfl HO2.out a (prt zs k) cap (by rw [HM.out];rfl) (HR.out.below HB2.out) HN.out (by rw [yS,HM.out];omega) HB2.out.size ?_;intro v3 w3 ho3 hb3;have HB3:Hid (Below w.heap.size w w3):=HB2.out.trans hb3;have hby:Bys (cpg zs pg k).body:=(zR _ _).app HR.out.1;have hcb:(cpg zs pg k).body=nums 4 X.toNat++prt zs k:=(by unfold cpg;rw [HX.out]);obtain ⟨ga,ca,rfl,hr3⟩:=ho3.row (by rw [<-hcb];exact hby);have hln:(nums 4 X.toNat++prt zs k).length=4+m:=(by rw [jN,yS,HM.out]);have hsl:=seal_v (cpg zs pg k) ga ca w3 (by rw [hcb];exact hr3) (by show (5:Int)<=_;omega) (by show (0:Int)<=_;omega) (by show ((prt zs k).length:Int)<=_;rw [HM.out];omega) 0 (cpg_ok zs pg k) (sealL (cpg zs pg k)) (cpg_seal zs pg k) 256 (uU zs pg k);have hpv:pgV (cpg zs pg k) ga ca=.agg #[.int .i64 5,.int .i64 0,.int .i64 m,.slice ga (4+m) ca]:=(by unfold pgV;rw [hcb,hln];show Value.agg #[.int .i64 5,.int .i64 0,.int .i64 (prt zs k).length,.slice ga (4+m) ca]=_;rw [HM.out]);rw [hpv] at hsl;rw [hln];clear ho3 hb3 hby hr3 hln hpv hcb)
 refine hsl.mono ?_;clear hsl;rintro e w4 ⟨g,c,rfl,ho,hb⟩;obtain ⟨q,rfl⟩:=ho.some (by rw [uU];omega);have HB4:Hid (Below w.heap.size w w4):=HB3.out.trans (hb.mono HB3.out.size);have HO:Hid (Own w.heap.size w4 (.slice (some ⟨q,0,none⟩) 256 c) (sealL (cpg zs pg k))):=ho.weaken HB3.out.size;clear ho hb;go_wp2;go_ret2
 exact ⟨_,_,rfl,HO.out,HB4.out⟩
end Go.Proofs.YtaijfhadecennaaGreat.Oct.Chs
namespace Go.Proofs.YtaijfhadecennaaGreat.Oct.Chs
open Go.RowKit Go.Shelf
attribute [local go_sem] Oper.semAt_some
def enc (b off cap:Nat) (zs pg:List Int) (k:{k:Nat // k<pg.length}):Array Value:= #[.slice (some ⟨b,off+k.1*244,none⟩) (prt zs k.1).length (cap-k.1*244),.int .i64 (nxt pg k.1)]
def Kp (n₀ Bp:Nat) (W W':World):Prop:=Below n₀ W W'/\W'.heap[Bp]?=W.heap[Bp]?
theorem Kp.drew {n₀ Bp:Nat} {W wr W':World} (h:Kp n₀ Bp W wr) (k:Kp n₀ Bp wr.drew W'):Kp n₀ Bp W W':=⟨h.1.trans ⟨k.1.os,k.1.tape,k.1.output,k.1.size,k.1.block⟩,k.2.trans h.2⟩
theorem abides_drew {β:Type} {B:Nat} {J:β->World->Prop} (h:AbidesFrom B J) {s:β} {W:World} (hs:J s W):J s W.drew:=h s W W.drew none hs ⟨rfl,rfl,rfl,jB _,fun _ _ _=>rfl⟩ (fun r e=>by cases e)
set_option maxRecDepth 100000 in
theorem parts1_in (n:Nat) (hn:1<=n) (l Bs Bp b off cap pb po pcap n₀:Nat) (zs pg:List Int) (J Jx:List {k:Nat // k<pg.length}->World->Prop) (W:World) (hJa:AbidesFrom W.heap.size J)
  (hY:∀pre x W1,J pre W1->pre.length<pg.length->YieldAt Fence.wide (n-1) prog l (enc b off cap zs pg x) W1 fun e W'=>
   (e=.returned (.bool true)/\J (pre++[x]) W'/\Kp n₀ Bp W1 W')\/(e=.returned (.bool false)/\Jx (pre++[x]) W'))
  (hcs:W.cell? ⟨Bs,0,none⟩=some (.slice (some ⟨b,off,none⟩) zs.length cap)) (hcp:W.cell? ⟨Bp,0,none⟩=some (.slice (some ⟨pb,po,none⟩) pg.length pcap))
  (hr:Row W (some ⟨b,off,none⟩) cap zs) (hp:RowI W (some ⟨pb,po,none⟩) pcap pg) (hpb:pb<n₀) (hl:pg.length=ned zs.length) (hz:zs.length<=1000000) (h0:J [] W):
  CallsIn Fence.wide n prog 181 #[.func (.yield l) #[] #[],.pointer (some ⟨Bs,0,none⟩),.pointer (some ⟨Bp,0,none⟩)] W fun e W'=>(∃v,e=.returned v)/\
   ((∃ys,ys.map (·.1)=List.range pg.length/\J ys W')\/(∃pre,Jx pre W')):=by
 have hpl:pg.length<=1000000:=by unfold ned at hl;omega
 have hcap:=hr.2.1;have hmx:=hr.2.2.1;unfold maxLen at hmx;have HL:Hid (pg.length=ned zs.length):=hl;have HR:Hid (Row W (some ⟨b,off,none⟩) cap zs):=hr
 have HP:Hid (∀k,k<pg.length->W.cell? ⟨pb,po+k,none⟩=some (.int .i64 (pg.getD k 0))):=fun k hk=>by
  obtain ⟨pb',po',e,c⟩:=hp.at' k hk;cases e;exact c
 have HPm:Hid (pg.length<=pcap/\pcap<=maxLen):=⟨hp.1,hp.2.1⟩;clear hr hp hl;refine callsIn_of_wp func181 rfl trivial ?_ rfl;simp only [ntmps181,xT,qN,yG,Nat.reduceAdd,Nat.reduceSub,Array.replicate_succ,Array.replicate_zero,List.push_toArray,List.append_toArray,xN,List.cons_append]
 gi_wp2
 gi_loopw [4,10] (fun r i wr=>∃k:Nat,k<=pg.length/\i=.int .i64 k/\(k<pg.length->r=.slice (some ⟨b,off+k*244,none⟩) (zs.length-k*244) (cap-k*244))/\Hid (∃pre,pre.map (·.1)=List.range k/\J pre wr)/\Hid (Kp n₀ Bp W wr))
  (fun _ i _=>pg.length-(intOf i).toNat)
 case atStart=>exact ⟨0,jT _,rfl,fun _=>by simp,⟨[],rfl,h0⟩,(by show _/\_;exact ⟨Below.refl _ _,rfl⟩)⟩
 case round=>
  obtain ⟨k,hk,rfl,hr,HJ,HB⟩:=hrel;by_cases hlt:k<pg.length
  ·obtain ⟨pre,hpre,hJs⟩:=HJ.out;have hlen:pre.length<pg.length:=by have:=congrArg List.length hpre;rw [qU,List.length_range] at this;omega
   obtain ⟨fn,tmps,assign,body,hy,hR0⟩:=hY pre ⟨k,hlt⟩ wr.drew (abides_drew hJa hJs) hlen;have hrI:RowI wr.drew (some ⟨pb,po,none⟩) pcap pg:=⟨HPm.out.1,HPm.out.2,.inr ⟨pb,po,rfl,fun i hi=>(HB.out.1.cell (p:=⟨pb,po+i,none⟩) hpb).trans (HP.out i hi)⟩⟩;obtain ⟨X,hX⟩:∃X,nxt pg k=X:=⟨_,rfl⟩;have cbe:=behind_v (some ⟨pb,po,none⟩) pcap pg k wr.drew hrI hlt X hX;have cp:wr.cell? ⟨Bp,0,none⟩=some (.slice (some ⟨pb,po,none⟩) pg.length pcap):=(World.cell?_of_block (a:=⟨Bp,0,none⟩) HB.out.2).trans hcp;obtain ⟨m,hm⟩:∃m,(prt zs k).length=m:=⟨_,rfl⟩;have hm':=uI zs k;rw [hm] at hm'
   replace hr:=hr hlt
   unfold enc at hy;dsimp only at hy;rw [hm,hX] at hy;have hkz:k*244<zs.length:=by have:=HL.out;unfold ned at this;omega
   have hlast:k+1<pg.length->k*244+244<zs.length:=by have:=HL.out;unfold ned at this;omega
   have hk1:(k+1)*244=k*244+244:=by omega
   obtain ⟨A,hA⟩:∃A,k*244=A:=⟨_,rfl⟩;rw [hA] at hr hy hm' hkz hlast hk1;subst hr;have HPre:Hid (pre.map (·.1)=List.range k):=hpre
   have hR1:RoundIn Fence.wide (n-1) prog l fn tmps assign body wr.drew fun e W'=>∃B:Bool,e=.returned (.bool B)/\Hid ((B=true->J (pre++[⟨k,hlt⟩]) W'/\Kp n₀ Bp wr.drew W')/\(B=false->Jx (pre++[⟨k,hlt⟩]) W')):=by
    refine hR0.mono ?_;rintro e W3 (⟨rfl,hJ3,hk3⟩|⟨rfl,hJx3⟩)
    ·exact ⟨true,rfl,(by show _/\_;exact ⟨fun _=>⟨hJ3,hk3⟩,fun e=>by cases e⟩)⟩
    ·exact ⟨false,rfl,(by show _/\_;exact ⟨(fun e=>by cases e),fun _=>hJx3⟩)⟩
   have hmx2:prog.follows .mixedOrders=true:=by kernel_rfl
   clear hR0 hY hpre hrI hJs hm;have hAR:A+m<=zs.length:=by omega
   obtain ⟨R,hRe⟩:∃R,zs.length-A=R:=⟨_,rfl⟩;obtain ⟨C,hCe⟩:∃C,cap-A=C:=⟨_,rfl⟩;rw [hRe,hCe];rw [hCe] at hy;have hRC:R<=C:=by omega
   have hCm:C<=2^63-1:=by omega
   have HF:Hid (zs.length-A=R/\cap-A=C/\k*244=A/\A<zs.length/\(k+1<pg.length->A+244<zs.length)/\(k+1)*244=A+244):=⟨hRe,hCe,hA,hkz,hlast,hk1⟩;have HX:Hid (nxt pg k=X):=hX;by_cases h244:R<=244
   ·have hmR:m=R:=by omega
    subst hmR;have hmin:min (m:Int) 244=(m:Int):=by omega
    clear hm' hRe hCe hA hkz hlast hk1 hAR hX
    gi_wp2
    gi_region_with_o (first|(refine ⟨trivial,?_⟩;gi_at_call 182;refine (callsIn_wide.2 cbe).mono ?_;rintro e w1 ⟨rfl,rfl⟩)|(refine hR1.mono ?_;rintro e W3 ⟨B,rfl,HYB⟩))
    all_goals
     cases B
     ·have hJx:=HYB.out.2 rfl
      gi_wp2
      refine bodyPost_ret (results_none rfl _ _ _) rfl ?_;exact ⟨⟨_,rfl⟩,.inr ⟨_,hJx⟩⟩
     ·(obtain ⟨hJ3,hk3⟩:=HYB.out.1 rfl
       by_cases hmC:C=m
       ·subst hmC
        gi_wp2
        go_roundw
        case rel=>
         refine ⟨k+1,by omega,by go_num,fun h=>?_,⟨_,by rw [qI,HPre.out,List.range_succ];rfl,hJ3⟩,HB.out.drew hk3⟩;have:=HF.out;omega
        case measure=>simp [intOf];omega
       ·gi_wp2
        go_roundw
        case rel=>
         refine ⟨k+1,by omega,by go_num,fun h=>?_,⟨_,by rw [qI,HPre.out,List.range_succ];rfl,hJ3⟩,HB.out.drew hk3⟩;have:=HF.out;omega
        case measure=>simp [intOf];omega)
   ·have hmR:m=244:=by omega
    subst hmR;have hmin:min (R:Int) 244=244:=by omega
    clear hm' hRe hCe hA hkz hlast hk1 hAR hX
    gi_wp2
    gi_region_with_o (first|(refine ⟨trivial,?_⟩;gi_at_call 182;refine (callsIn_wide.2 cbe).mono ?_;rintro e w1 ⟨rfl,rfl⟩)|(refine hR1.mono ?_;rintro e W3 ⟨B,rfl,HYB⟩))
    all_goals
     cases B
     ·have hJx:=HYB.out.2 rfl
      gi_wp2
      refine bodyPost_ret (results_none rfl _ _ _) rfl ?_;exact ⟨⟨_,rfl⟩,.inr ⟨_,hJx⟩⟩
     ·(obtain ⟨hJ3,hk3⟩:=HYB.out.1 rfl
       gi_wp2
       go_roundw
       case rel=>
        refine ⟨k+1,by omega,by go_num,fun h=>?_,⟨_,by rw [qI,HPre.out,List.range_succ];rfl,hJ3⟩,HB.out.drew hk3⟩;obtain ⟨f1,f2,f3,f4,f5,f6⟩:=HF.out;rw [f6,<-yJ,show zs.length-(A+244)=R-244 by omega,show cap-(A+244)=C-244 by omega]
       case measure=>simp [intOf];omega)
  ·obtain rfl:k=pg.length:=by omega
   clear hr
   gi_wp2
   go_end0
   obtain ⟨pre,hpre,hJs⟩:=HJ.out;exact ⟨⟨_,rfl⟩,.inl ⟨pre,hpre,hJs⟩⟩
end Go.Proofs.YtaijfhadecennaaGreat.Oct.Chs
