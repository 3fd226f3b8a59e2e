/- Part of a proof. -/
import Derived.Test.YtaijfhadecennabGreatEnc
import Derived.Test.YtaijfhadecennabGreatUk
import Derived.Test.YtaijfhadecennabGreatKo
import Derived.Test.YtaijfhadecennabGreatR
import Derived.Deep.RegionHeld3
open Go.Proofs.Tryz
set_option maxHeartbeats 2000000
namespace Go.Proofs.YtaijfhadecennabGreat.Oct
open Go.RowKit
def sp8:Array Value:= #[.int .i64 0,.int .i64 0,.int .i64 0,.int .i64 0,.int .i64 0,.int .i64 0,.int .i64 0,.int .i64 0]
theorem StS_run {w:World} {g:Nat} {old:Array Value} {S:Sp} (hg:w.heap[g]?=some (.cells old 26 (0,0))) (ho:old.size=8):(StS (.pointer (some ⟨g,0,none⟩)) (.agg (spC S))).run prog w=.ok () (w.setRow g (spC S)):=by
 unfold StS;simp only [Instr.storeAt,Instr.sureAddr,Sem.run_bind,Sem.run_pure,Result.andThen_ok];rw [run_storeVar_row w g 26 26 old (spC S) hg (by kernel_rfl) ho (by simp [spC,Value.oneCell'])]
theorem StS_new (w:World) (S:Sp):(StS (.pointer (some ⟨w.heap.size,0,none⟩)) (.agg (spC S))).run prog (w.alloc (.cells sp8 26))=.ok () ((w.alloc (.cells sp8 26)).setRow w.heap.size (spC S)):=StS_run (heap_alloc_new w _) rfl
attribute [local go_sem ↓] FT LdR_eq kA
end Go.Proofs.YtaijfhadecennabGreat.Oct
namespace Go.Proofs.YtaijfhadecennabGreat.Oct.Sx
open Go.RowKit
attribute [local go_sem ↓] kA
section
variable {w w':World} {s d:Nat} {F:Nat->Prop} {X:St}
theorem Sto.cell (h:Sto w s d F X) (i:Nat) (v:Value) (hv:∀p sp vC,(stC d p sp X.S X.pl vC X.g)[i]?=some v):w.cell? ⟨s,i,none⟩=some v:=by
 obtain ⟨p,sp,aC,cC,lab,hS,_⟩:=h;rw [hS.cell,hv]
theorem Sto.lt2 (h:Sto w s d F X):s<w.heap.size:=by
 obtain ⟨p,sp,aC,cC,lab,hS,_⟩:=h;exact hS.lt
theorem results_s8 {fn:Func} {p:Tmp} (h:fn.results= #[.cell p 26]) (tmps:Array Value) (w:World) (g:Nat) (cs:Array Value)
  (hp:tmps.getD p undef=.pointer (some ⟨g,0,none⟩)) (hg:w.heap[g]?=some (.cells cs 26 (0,0))) (hc:cs.size=8):
  (results fn tmps).run prog w=.ok (.agg cs) w:=by
 have h1:=run_loadVar_row (P:=prog) w g 26 26 cs (0,0) _ hg underlying26 rfl (by rw [hc];kernel_rfl);have hp':tmps[p]?.getD undef=.pointer (some ⟨g,0,none⟩):=by simpa using hp
 simp [results,h,hp',asAddr,h1]
theorem uS (h:Sto w s d F X):Calls prog 12 #[.pointer (some ⟨s,0,none⟩)] w fun e w'=>e=.returned (spV X.S)/\Below w.heap.size w w':=by
 have s0:=h.cell 0 (.pointer (some ⟨d,0,none⟩)) (fun _ _ _=>rfl);have s3:=h.cell 3 (.int .i64 X.S.g) (fun _ _ _=>rfl);have s4:=h.cell 4 (.int .i64 X.S.p) (fun _ _ _=>rfl);have s5:=h.cell 5 (.int .i64 X.S.r) (fun _ _ _=>rfl);have s6:=h.cell 6 (.int .i64 X.S.h) (fun _ _ _=>rfl);have s7:=h.cell 7 (.int .i64 X.S.b) (fun _ _ _=>rfl);have s8:=h.cell 8 (.int .i64 X.S.l) (fun _ _ _=>rfl);have s9:=h.cell 9 (.int .i64 X.S.s) (fun _ _ _=>rfl);have s10:=h.cell 10 (.int .i64 X.S.f) (fun _ _ _=>rfl);have hsl:=h.lt2;have hmd:=fun (wx:World) (hx:wx.cell? ⟨s,0,none⟩=some (.pointer (some ⟨d,0,none⟩)))=>QV s d wx hx
 have hst:=StS_new w X.S
 have HB:Hid (((w.alloc (.cells sp8 26)).setRow w.heap.size (spC X.S)).heap[w.heap.size]?=some (.cells (spC X.S) 26 (0,0))/\Below w.heap.size w ((w.alloc (.cells sp8 26)).setRow w.heap.size (spC X.S))):=
  ⟨setRow_heap _ _ _ _ _ _ (heap_alloc_new w _),((Ch.of (fun _=>False) ((Below.refl _ w).alloc (jB _) _)).setRow (.inl (jB _)) _).below (fun k e=>by cases e)⟩
 obtain ⟨w9,hw9⟩:∃w9,(w.alloc (.cells sp8 26)).setRow w.heap.size (spC X.S)=w9:=⟨_,rfl⟩;rw [hw9] at hst HB;unfold spC sp8 at hst;clear h hw9;go_enter func12,ntmps12
 go_wp2_with (go_at_call 43;refine (hmd _ (by go_simp)).mono ?_;rintro e w' ⟨rfl,rfl⟩)
 refine bodyPost_ret (results_s8 rfl _ _ w.heap.size _ rfl HB.out.1 rfl) rfl ?_;exact ⟨rfl,HB.out.2⟩
theorem kB (h:Sto w s d F X):Calls prog 20 #[.pointer (some ⟨s,0,none⟩)] w fun e w'=>e=.returned (.pointer (some ⟨d,0,none⟩))/\w=w':=by
 have s0:=h.cell 0 (.pointer (some ⟨d,0,none⟩)) (fun _ _ _=>rfl);have hmd:=QV s d w s0;clear h;go_enter func20,ntmps20
 go_wp2_with (go_at_call 43;refine hmd.mono ?_;rintro e w' ⟨rfl,rfl⟩)
 go_ret
 exact ⟨rfl,rfl⟩
theorem Free_any (h:Sto w s d F X):Calls prog 14 #[.pointer (some ⟨s,0,none⟩)] w fun e w'=>e=.returned (.int .i64 (X.P.count 0))/\Below w.heap.size w w':=by
 have s0:=h.cell 0 (.pointer (some ⟨d,0,none⟩)) (fun _ _ _=>rfl);have s15:=h.cell 15 (.map none) (fun _ _ _=>rfl);have hmd:=QV s d w s0;have hl:=h.lt;obtain ⟨p,sp,aC,cC,lab,hS,hlab,_⟩:=h;have s2:=hS.at.2.2.1;have hsl:=hS.lt;obtain ⟨F2,q1,q2⟩:=hS.space;have hfr:=Sps.free_any q1;have hcn:(X.P.count 0:Int)<=4096:=by have h1:=List.count_le_length (a:=(0:Int)) (l:=X.P);have h2:=(UH q1).hi;omega
 clear hS hlab hl q2;go_enter func14,ntmps14
 have hfr2:=Sps.free_any (w:=w.drew) (yZ q1 (jB _) (fun _ _=>rfl));clear q1 hfr;go_wp2_with (go_at_call 43;refine hmd.mono ?_;rintro e w' ⟨rfl,rfl⟩)
 go_region_held3 (fun w'=>w'.cell? ⟨s,2,none⟩=some (.pointer (some ⟨sp,0,none⟩))/\w'.cell? ⟨s,15,none⟩=some (.map none)) (first|go_keep|exact ⟨by assumption,by assumption⟩) (first
  |(go_at_call 46;refine hfr2.mono ?_;rintro e w1 ⟨rfl,hb'⟩
    have hb:Below w.heap.size w w1:=⟨hb'.os,hb'.tape,hb'.output,hb'.size,hb'.block⟩;have t15:=(hb.cell (p:=⟨s,15,none⟩) hsl).trans s15;have t2:=(hb.cell (p:=⟨s,2,none⟩) hsl).trans s2;have HB:Hid (Below w.heap.size w w1):=hb;clear hfr2 hb hb'))
 rw [show IntKind.i64.wrap (X.P.count 0:Int)=(X.P.count 0:Int) by rw [IntKind.wrap_i64];omega];go_wp2_with fail
 go_ret
 exact ⟨rfl,HB.out⟩
end
end Go.Proofs.YtaijfhadecennabGreat.Oct.Sx
namespace Go.Proofs.YtaijfhadecennabGreat.Oct
open Go.RowKit
theorem rsB_yes {R:List Bool} {k:Nat} (h:R.getD k false=true):rsB R (k+1)=rsB R k++[(k:Int)]:=by rw [rsB,if_pos h]
theorem rsB_no {R:List Bool} {k:Nat} (h:R.getD k false=false):rsB R (k+1)=rsB R k:=by rw [rsB,if_neg (by rw [h];simp)]
theorem rsB_len (R:List Bool):∀k,(rsB R k).length<=k:=by
 intro k
 induction k with
 |zero=>simp [rsB]
 |succ k ih=>
  cases h:R.getD k false
  ·rw [rsB_no h];omega
  ·rw [rsB_yes h,jO];simp;omega
section
variable {w:World} {p d:Nat} {F FD:Nat->Prop} {D0:Dv} {L:List Int} {vM:Value} {R:List Bool} {cs:List Int}
set_option maxRecDepth 20000 in
theorem pages0 (h:W0A w p d F FD D0 L vM R cs) (N:Nat) (hN:R.length=N):
  Calls prog 152 #[.pointer (some ⟨p,0,none⟩)] w fun e w'=>∃g c,e=.returned (.slice g (rsB R N).length c)/\OwnI w.heap.size w' (.slice g (rsB R N).length c) (rsB R N)/\Below w.heap.size w w':=by
 have hrn:=h.rn;obtain ⟨gr,cr,aC,cC,h⟩:=h;have c1:=h.at.2.1;have hcap:=h.rch.cap;have HC:Hid (∀k,k<N->w.cell? ⟨gr,k,none⟩=some (.bool (R.getD k false))):=fun k hk=>(ZM h.rch k (by omega)).2.1
 have HG:Hid (gr<w.heap.size):=hcap.2.2.2.1;have hN4:N<=4096:=by omega
 rw [hN] at c1;have hcr:N<=cr:=by omega
 have hcr2:=hcap.2.2.1;unfold maxLen at hcr2;clear h hrn hcap hN;go_enter func152,ntmps152
 go_wp2_with fail
 go_loopg [3,11] N (fun gh v i wr=>∃k:Nat,k<=N/\gh=N-k/\i=.int .i64 k/\Hid (OwnI w.heap.size wr v (rsB R k)/\Below w.heap.size w wr))
 case atStart=>exact ⟨0,jW _,rfl,rfl,⟨rfl,.inl ⟨rfl,rfl⟩⟩,Below.refl _ _⟩
 case round=>
  obtain ⟨k,hk,hgk,rfl,HI⟩:=hrel;have HGK:Hid (gk=N-k):=hgk;clear hgk;by_cases hlt:k<N
  ·have ck:=(HI.out.2.cell (p:=⟨gr,k,none⟩) HG.out).trans (HC.out k hlt);obtain ⟨b,hb⟩:∃b,R.getD k false=b:=⟨_,rfl⟩;rw [hb] at ck;have HB:Hid (R.getD k false=b):=hb;have hrl:(rsB R k).length<=1000000:=by have:=rsB_len R k;omega
   have hsz:=HI.out.2.size;clear hb;cases b with
   |true=>
    go_wp2_with (at_builtin;refine appI wr rfl _ _ rfl w.heap.size u3 (rsB R k) (k:Int) rfl HI.out.1 rfl hrl hsz ?_;intro v4 w4 ho4 hb4;have H4:Hid (OwnI w.heap.size w4 v4 (rsB R (k+1))/\Below w.heap.size w w4):=(by show _/\_;rw [rsB_yes HB.out];exact ⟨ho4,HI.out.2.trans hb4⟩);clear ho4 hb4)
    go_roundg (N-(k+1))
    case rel=>exact ⟨k+1,by omega,rfl,by go_num,H4.out⟩
    case measure=>have:=HGK.out;omega
   |false=>
    have H4:Hid (OwnI w.heap.size wr u3 (rsB R (k+1))/\Below w.heap.size w wr):=(by show _/\_;rw [rsB_no HB.out];exact HI.out);go_wp2;go_roundg (N-(k+1))
    case rel=>exact ⟨k+1,by omega,rfl,by go_num,H4.out⟩
    case measure=>have:=HGK.out;omega
  ·obtain rfl:k=N:=by omega
   obtain ⟨g,c,hv,-⟩:=HI.out.1.row2;subst hv;have HE:Hid (∃g' c',Ending.returned (.slice g (rsB R k).length c)=.returned (.slice g' (rsB R k).length c')/\OwnI w.heap.size wr (.slice g' (rsB R k).length c') (rsB R k)/\Below w.heap.size w wr):=⟨g,c,rfl,HI.out⟩;clear HI HC;go_wp2;go_ret
   exact HE.out
end
def usF (R:List Bool) (i:Nat):Bool:=decide (i<2)||R.getD i false
def usK (R:List Bool) (k:Nat):List Int:=bitsP (fun i=>decide (i<k)&&usF R i) R.length
theorem usK_all {R:List Bool} (h:2<=R.length):usK R R.length=usedL R:=zA fun i _=>by
 by_cases h1:i<R.length
 ·simp [h1,usF]
 ·rw [jA,jX (by omega)];have h2:¬i<2:=by omega
  simp [h1,h2]
theorem usK_yes {R:List Bool} {k:Nat} (h:k<R.length) (hu:usF R k=true):usK R (k+1)=(usK R k).set (k/8) (bits .or .u8 ((usK R k).getD (k/8) 0) (2^(k%8)%256)):=
 (XV h (by show (decide (k<k+1)&&_)=true;rw [hu];simp) fun i hi=>by
  show (decide (i<k+1)&&_)=(decide (i<k)&&_)
  congr 1
  exact decide_eq_decide.2 (by omega)).symm
theorem usK_no {R:List Bool} {k:Nat} (hu:usF R k=false):usK R (k+1)=usK R k:=zA fun i _=>by
 by_cases e:i=k
 ·subst e;rw [hu];simp
 ·congr 1
  exact decide_eq_decide.2 (by omega)
theorem usK_zero (R:List Bool):usK R 0=List.replicate ((R.length+7)/8) 0:=by
 unfold usK;rw [<-YX];exact zA fun i _=>by simp
section
variable {w:World} {p d:Nat} {F FD:Nat->Prop} {D0:Dv} {L:List Int} {vM:Value} {R:List Bool} {cs:List Int}
set_option maxRecDepth 20000 in
theorem used0 (h:W0A w p d F FD D0 L vM R cs) (nb:Nat) (hnb:(R.length+7)/8=nb):
  Calls prog 151 #[.pointer (some ⟨p,0,none⟩)] w fun e w'=>∃g,e=.returned (.slice (some ⟨g,0,none⟩) nb nb)/\Own w.heap.size w' (.slice (some ⟨g,0,none⟩) nb nb) (usedL R)/\Below w.heap.size w w':=by
 obtain ⟨i0,hi0,hz0,hz1,hz2⟩:=info_parts info5;have hrn:=h.rn;obtain ⟨gr,cr,aC,cC,h⟩:=h;have c1:=h.at.2.1;have hcap:=h.rch.cap;obtain ⟨N,hN⟩:∃N,R.length=N:=⟨_,rfl⟩;have HC:Hid (∀k,k<N->w.cell? ⟨gr,k,none⟩=some (.bool (R.getD k false))):=fun k hk=>(ZM h.rch k (by omega)).2.1
 have HG:Hid (gr<w.heap.size/\p<w.heap.size):=⟨hcap.2.2.2.1,h.lt p h.fp⟩;have hN4:N<=4096:=by omega
 have HN:Hid (R.length=N/\8<=N/\(N+7)/8=nb):=⟨hN,by omega,by omega⟩;have hq:((N:Int)+7)/8=(nb:Int):=by omega
 rw [hN] at c1;have hcr:N<=cr:=by omega
 have hcr2:=hcap.2.2.1;unfold maxLen at hcr2;have hm:nb<=maxLen:=by unfold maxLen;omega
 have hnb1:nb<=513:=by omega
 clear h hrn hcap hN hnb;go_enter func151,ntmps151
 go_wp2_with (at_make;refine wpList_make_full _ rfl _ _ 22 rfl w.heap.size 5 i0 (.int .u8 0) 1 underlying22 hi0 hz0 hz1 .i64 .i64 _ _ nb rfl rfl hq hq (by rw [hz2];omega) hm (jB _) ?_;intro w1 hown1 hgrow1;have HO:Hid (Own w.heap.size w1 (.slice (some ⟨w.heap.size,0,none⟩) nb nb) (usK R 0)/\Below w.heap.size w w1):=⟨(by rw [usK_zero,HN.out.1,HN.out.2.2];exact JG hown1),(Below.refl _ w).grown hgrow1 (jB _) (by simp)⟩;have c1':=(HO.out.2.cell (p:=⟨p,1,none⟩) HG.out.2).trans c1;clear hown1 hgrow1 hm c1 hq)
 go_loopg [19] N (fun gh i wr=>∃k:Nat,k<=N/\gh=N-k/\i=.int .i64 k/\Hid (Own w.heap.size wr (.slice (some ⟨w.heap.size,0,none⟩) nb nb) (usK R k)/\Below w.heap.size w wr))
 case atStart=>exact ⟨0,jW _,rfl,rfl,HO.out⟩
 case round=>
  clear HO;obtain ⟨k,hk,hgk,rfl,HI⟩:=hrel;have HGK:Hid (gk=N-k):=hgk;clear hgk;by_cases hlt:k<N
  ·have ck:=(HI.out.2.cell (p:=⟨gr,k,none⟩) HG.out.1).trans (HC.out k hlt);obtain ⟨-,b1,b2,hst⟩:=YC HI.out.1 (k/8) (by show _<(bitsP _ _).length;rw [yT];have:=HN.out;omega);have hyb:=(zP (fun i=>decide (i<k)&&usF R i) R.length).at (k/8);have hyn:usF R k=true->usK R (k+1)=_:=usK_yes (by have:=HN.out.1;omega);have hno:usF R k=false->usK R (k+1)=usK R k:=usK_no;obtain ⟨b,hb⟩:∃b,R.getD k false=b:=⟨_,rfl⟩;rw [hb] at ck;have HB:Hid (R.getD k false=b):=hb;have hjl:k/8<nb:=by have:=HN.out.2.2;omega
   change 0<=(usK R k).getD (k/8) 0/\(usK R k).getD (k/8) 0<=255 at hyb
   obtain ⟨y,hy⟩:∃y,(usK R k).getD (k/8) 0=y:=⟨_,rfl⟩;rw [hy] at b1 hyn hyb;have hgne:¬gr=w.heap.size:=by have:=HG.out.1;omega
   have hpne:¬p=w.heap.size:=by have:=HG.out.2;omega
   obtain ⟨j,hj⟩:∃j,k/8=j:=⟨_,rfl⟩;have hkj:((k:Int)/8)=(j:Int):=by omega
   rw [hj] at b1 b2 hst hyn hjl;obtain ⟨r,hr⟩:∃r,k%8=r:=⟨_,rfl⟩;have hkr:((k:Int)%8)=(r:Int):=by omega
   have hr8:r<8:=by omega
   rw [hr] at hyn;have HS:Hid _:=hst;have HY:Hid _:=hyn;have HNo:Hid _:=hno;clear hst hyn hno hy hj hr hb;cases b with
   |true=>
    go_wp2;go_region
    go_wp2;go_roundg (N-(k+1))
    case rel=>exact ⟨k+1,by omega,rfl,by go_num,(by show _/\_;rw [HY.out (by unfold usF;rw [HB.out];simp)];exact ⟨HS.out _,(HI.out.2.setCell (jB _) _).drew⟩)⟩
    case measure=>have:=HGK.out;omega
   |false=>
    by_cases h2:k<2
    ·have h2i:decide ((k:Int)<2)=true:=jF (by omega);go_wp2;go_region
     go_wp2;go_roundg (N-(k+1))
     case rel=>exact ⟨k+1,by omega,rfl,by go_num,(by show _/\_;rw [HY.out (by unfold usF;rw [jF h2];rfl)];exact ⟨HS.out _,(HI.out.2.setCell (jB _) _).drew⟩)⟩
     case measure=>have:=HGK.out;omega
    ·have h2i:decide ((k:Int)<2)=false:=jM (by omega);have HU:Hid (usK R (k+1)=usK R k):=HNo.out (by unfold usF;rw [jM h2,HB.out];rfl);go_wp2;go_roundg (N-(k+1))
     case rel=>exact ⟨k+1,by omega,rfl,by go_num,(by show _/\_;rw [HU.out];exact HI.out)⟩
     case measure=>have:=HGK.out;omega
  ·obtain rfl:k=N:=by omega
   have HE:Hid (∃g,Ending.returned (.slice (some ⟨w.heap.size,0,none⟩) nb nb)=.returned (.slice (some ⟨g,0,none⟩) nb nb)/\Own w.heap.size wr (.slice (some ⟨g,0,none⟩) nb nb) (usedL R)/\Below w.heap.size w wr):=⟨_,rfl,(by rw [<-usK_all (by have:=HN.out;omega),HN.out.1];exact HI.out.1),HI.out.2⟩;clear HI HC;go_wp2;go_ret
   exact HE.out
end
end Go.Proofs.YtaijfhadecennabGreat.Oct
namespace Go.Proofs.YtaijfhadecennabGreat.Oct
open Go.RowKit
theorem tkH {P:Program} {ops:Array Oper} {Q:Exit->Act->World->Prop} {md:Region.Mode} {S:World->Prop} {fuel:Nat} {listed:Array Bool} {a:Act} {w:World} {oi:Oper} (v:Value) (i:Nat)
  (hy:∀w,S w->(execOp a.eval oi).run P w=.ok (.value v) w) (h:wpAnyH P md ops Q S fuel (listed.setIfInBounds i true) (a.put oi.dst v) w)
  (hi:ops[i]?=some oi:=by exact rfl) (hs:Region.noSelect ops=true:=by kernel_rfl) (hf:Region.free md ops listed i=true:=by kernel_rfl)
  (hr:(Region.ready md ops listed).contains i=true:=by kernel_rfl) (hQ:∀c a w,Q (.panic c) (a.put oi.dst v) w->Q (.panic c) a w:=by exact fun _ _ _ h=>h)
  (hw:Region.wanted oi (yielded ops a.tmps)=true:=by rfl) (hS:S w:=by assumption):wpAnyH P md ops Q S (fuel+1) listed a w:=
 wpAnyH_take hi hs hf hr hQ (Or.inl ⟨hw,hy⟩) hS h
theorem gx:(∀(α:Type) (l:List α) (i:Nat) (h:i<l.toArray.size),l.toArray[i]=l[i]'(by simpa using h))/\
  (∀(α:Type) (x:α) (l:List α) (i:Nat) (h:i+1<(x::l).length),(x::l)[i+1]=l[i]'(by simpa using h))/\
  (∀(α:Type) (x:α) (l:List α) (h:0<(x::l).length),(x::l)[0]=x)/\
  (∀(a:Act) (d:Tmp) (v:Value),a.put (some d) v={a with tmps:=a.tmps.setIfInBounds d v})/\(∀(a:Act) (v:Value),a.put none v=a)/\
  (∀(α:Type) (l:List α) (i:Nat) (a:α),l.toArray.setIfInBounds i a=(l.set i a).toArray)/\
  (∀(α:Type) (x a:α) (l:List α),(x::l).set 0 a=a::l)/\(∀(α:Type) (x a:α) (l:List α) (i:Nat),(x::l).set (i+1) a=x::l.set i a):=
 ⟨fun _ _ _ _=>rfl,fun _ _ _ _ _=>rfl,fun _ _ _ _=>rfl,fun _ _ _=>rfl,fun _ _=>rfl,fun _ _ _ _=>by simp,fun _ _ _ _=>rfl,fun _ _ _ _ _=>rfl⟩
end Go.Proofs.YtaijfhadecennabGreat.Oct
