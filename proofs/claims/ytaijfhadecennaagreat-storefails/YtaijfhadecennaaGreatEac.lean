/- Part of a proof. -/
import Derived.Test.YtaijfhadecennaaGreatEab
import Derived.Test.YtaijfhadecennaaGreatR
import Derived.Deep.RegionHeld3
import Derived.Test.YtaijfhadecennaaGreatBu
import Derived.Test.YtaijfhadecennaaGreatGb
import Derived.BigRegion
open Go.Proofs.Tryz
set_option maxHeartbeats 8000000
namespace Go.Proofs.YtaijfhadecennaaGreat.Oct
open Go.RowKit
theorem rsB_yes {R:List Bool} {k:Nat} (h:R.getD k false=true):rsB R (k+1)=rsB R k++[(k:Int)]:=by rw [rsB,if_pos h]
theorem rsB_no {R:List Bool} {k:Nat} (h:R.getD k false=false):rsB R (k+1)=rsB R k:=by rw [rsB,if_neg (by rw [h];simp)]
theorem rsB_len (R:List Bool):∀k,(rsB R k).length<=k:=by
 intro k
 induction k with
 |zero=>simp [rsB]
 |succ k ih=>
  cases h:R.getD k false
  ·rw [rsB_no h];omega
  ·rw [rsB_yes h,jN];simp;omega
section
variable {w:World} {p d:Nat} {F FD:Nat->Prop} {D0:Dv} {L:List Int} {vM:Value} {R:List Bool} {cs:List Int}
set_option maxRecDepth 20000 in
theorem pages0 (h:W0A w p d F FD D0 L vM R cs) (N:Nat) (hN:R.length=N):
  Calls prog 196 #[.pointer (some ⟨p,0,none⟩)] w fun e w'=>∃g c,e=.returned (.slice g (rsB R N).length c)/\OwnI w.heap.size w' (.slice g (rsB R N).length c) (rsB R N)/\Below w.heap.size w w':=by
 have hrn:=h.rn;obtain ⟨gr,cr,aC,cC,h⟩:=h;have c1:=h.at.2.1;have hcap:=h.rch.cap;have HC:Hid (∀k,k<N->w.cell? ⟨gr,k,none⟩=some (.bool (R.getD k false))):=fun k hk=>(uK h.rch k (by omega)).2.1
 have HG:Hid (gr<w.heap.size):=hcap.2.2.2.1;have hN4:N<=4096:=by omega
 rw [hN] at c1;have hcr:N<=cr:=by omega
 have hcr2:=hcap.2.2.1;unfold maxLen at hcr2;clear h hrn hcap hN;go_enter func196,ntmps196
 go_wp2_with fail
 go_loopg [3,11] N (fun gh v i wr=>∃k:Nat,k<=N/\gh=N-k/\i=.int .i64 k/\Hid (OwnI w.heap.size wr v (rsB R k)/\Below w.heap.size w wr))
 case atStart=>exact ⟨0,jT _,rfl,rfl,⟨rfl,.inl ⟨rfl,rfl⟩⟩,Below.refl _ _⟩
 case round=>
  obtain ⟨k,hk,hgk,rfl,HI⟩:=hrel;have HGK:Hid (gk=N-k):=hgk;clear hgk;by_cases hlt:k<N
  ·have ck:=(HI.out.2.cell (p:=⟨gr,k,none⟩) HG.out).trans (HC.out k hlt);obtain ⟨b,hb⟩:∃b,R.getD k false=b:=⟨_,rfl⟩;rw [hb] at ck;have HB:Hid (R.getD k false=b):=hb;have hrl:(rsB R k).length<=1000000:=by have:=rsB_len R k;omega
   have hsz:=HI.out.2.size;clear hb;cases b with
   |true=>
    go_wp2_with (at_builtin;refine appI wr rfl _ _ rfl w.heap.size u3 (rsB R k) (k:Int) rfl HI.out.1 rfl hrl hsz ?_;intro v4 w4 ho4 hb4;have H4:Hid (OwnI w.heap.size w4 v4 (rsB R (k+1))/\Below w.heap.size w w4):=(by show _/\_;rw [rsB_yes HB.out];exact ⟨ho4,HI.out.2.trans hb4⟩);clear ho4 hb4)
    go_roundg (N-(k+1))
    case rel=>exact ⟨k+1,by omega,rfl,by go_num,H4.out⟩
    case measure=>have:=HGK.out;omega
   |false=>
    have H4:Hid (OwnI w.heap.size wr u3 (rsB R (k+1))/\Below w.heap.size w wr):=(by show _/\_;rw [rsB_no HB.out];exact HI.out);go_wp2;go_roundg (N-(k+1))
    case rel=>exact ⟨k+1,by omega,rfl,by go_num,H4.out⟩
    case measure=>have:=HGK.out;omega
  ·obtain rfl:k=N:=by omega
   obtain ⟨g,c,hv,-⟩:=HI.out.1.row2;subst hv;have HE:Hid (∃g' c',Ending.returned (.slice g (rsB R k).length c)=.returned (.slice g' (rsB R k).length c')/\OwnI w.heap.size wr (.slice g' (rsB R k).length c') (rsB R k)/\Below w.heap.size w wr):=⟨g,c,rfl,HI.out⟩;clear HI HC;go_wp2;go_ret
   exact HE.out
end
def usF (R:List Bool) (i:Nat):Bool:=decide (i<2)||R.getD i false
def usK (R:List Bool) (k:Nat):List Int:=bitsP (fun i=>decide (i<k)&&usF R i) R.length
theorem usK_all {R:List Bool} (h:2<=R.length):usK R R.length=usedL R:=zG fun i _=>by
 by_cases h1:i<R.length
 ·simp [h1,usF]
 ·rw [jA,qD (by omega)];have h2:¬i<2:=by omega
  simp [h1,h2]
theorem usK_yes {R:List Bool} {k:Nat} (h:k<R.length) (hu:usF R k=true):usK R (k+1)=(usK R k).set (k/8) (bits .or .u8 ((usK R k).getD (k/8) 0) (2^(k%8)%256)):=
 (YP h (by show (decide (k<k+1)&&_)=true;rw [hu];simp) fun i hi=>by
  show (decide (i<k+1)&&_)=(decide (i<k)&&_)
  congr 1
  exact decide_eq_decide.2 (by omega)).symm
theorem usK_no {R:List Bool} {k:Nat} (hu:usF R k=false):usK R (k+1)=usK R k:=zG fun i _=>by
 by_cases e:i=k
 ·subst e;rw [hu];simp
 ·congr 1
  exact decide_eq_decide.2 (by omega)
theorem usK_zero (R:List Bool):usK R 0=List.replicate ((R.length+7)/8) 0:=by
 unfold usK;rw [<-ZO];exact zG fun i _=>by simp
section
variable {w:World} {p d:Nat} {F FD:Nat->Prop} {D0:Dv} {L:List Int} {vM:Value} {R:List Bool} {cs:List Int}
set_option maxRecDepth 20000 in
theorem used0 (h:W0A w p d F FD D0 L vM R cs) (nb:Nat) (hnb:(R.length+7)/8=nb):
  Calls prog 195 #[.pointer (some ⟨p,0,none⟩)] w fun e w'=>∃g,e=.returned (.slice (some ⟨g,0,none⟩) nb nb)/\Own w.heap.size w' (.slice (some ⟨g,0,none⟩) nb nb) (usedL R)/\Below w.heap.size w w':=by
 obtain ⟨i0,hi0,hz0,hz1,hz2⟩:=info_parts info5;have hrn:=h.rn;obtain ⟨gr,cr,aC,cC,h⟩:=h;have c1:=h.at.2.1;have hcap:=h.rch.cap;obtain ⟨N,hN⟩:∃N,R.length=N:=⟨_,rfl⟩;have HC:Hid (∀k,k<N->w.cell? ⟨gr,k,none⟩=some (.bool (R.getD k false))):=fun k hk=>(uK h.rch k (by omega)).2.1
 have HG:Hid (gr<w.heap.size/\p<w.heap.size):=⟨hcap.2.2.2.1,h.lt p h.fp⟩;have hN4:N<=4096:=by omega
 have HN:Hid (R.length=N/\8<=N/\(N+7)/8=nb):=⟨hN,by omega,by omega⟩;have hq:((N:Int)+7)/8=(nb:Int):=by omega
 rw [hN] at c1;have hcr:N<=cr:=by omega
 have hcr2:=hcap.2.2.1;unfold maxLen at hcr2;have hm:nb<=maxLen:=by unfold maxLen;omega
 have hnb1:nb<=513:=by omega
 clear h hrn hcap hN hnb;go_enter func195,ntmps195
 go_wp2_with (at_make;refine wpList_make_full _ rfl _ _ 32 rfl w.heap.size 5 i0 (.int .u8 0) 1 underlying32 hi0 hz0 hz1 .i64 .i64 _ _ nb rfl rfl hq hq (by rw [hz2];omega) hm (jB _) ?_;intro w1 hown1 hgrow1;have HO:Hid (Own w.heap.size w1 (.slice (some ⟨w.heap.size,0,none⟩) nb nb) (usK R 0)/\Below w.heap.size w w1):=⟨(by rw [usK_zero,HN.out.1,HN.out.2.2];exact JJ hown1),(Below.refl _ w).grown hgrow1 (jB _) (by simp)⟩;have c1':=(HO.out.2.cell (p:=⟨p,1,none⟩) HG.out.2).trans c1;clear hown1 hgrow1 hm c1 hq)
 go_loopg [19] N (fun gh i wr=>∃k:Nat,k<=N/\gh=N-k/\i=.int .i64 k/\Hid (Own w.heap.size wr (.slice (some ⟨w.heap.size,0,none⟩) nb nb) (usK R k)/\Below w.heap.size w wr))
 case atStart=>exact ⟨0,jT _,rfl,rfl,HO.out⟩
 case round=>
  clear HO;obtain ⟨k,hk,hgk,rfl,HI⟩:=hrel;have HGK:Hid (gk=N-k):=hgk;clear hgk;by_cases hlt:k<N
  ·have ck:=(HI.out.2.cell (p:=⟨gr,k,none⟩) HG.out.1).trans (HC.out k hlt);obtain ⟨-,b1,b2,hst⟩:=JL HI.out.1 (k/8) (by show _<(bitsP _ _).length;rw [yY];have:=HN.out;omega);have hyb:=(zZ (fun i=>decide (i<k)&&usF R i) R.length).at (k/8);have hyn:usF R k=true->usK R (k+1)=_:=usK_yes (by have:=HN.out.1;omega);have hno:usF R k=false->usK R (k+1)=usK R k:=usK_no;obtain ⟨b,hb⟩:∃b,R.getD k false=b:=⟨_,rfl⟩;rw [hb] at ck;have HB:Hid (R.getD k false=b):=hb;have hjl:k/8<nb:=by have:=HN.out.2.2;omega
   change 0<=(usK R k).getD (k/8) 0/\(usK R k).getD (k/8) 0<=255 at hyb
   obtain ⟨y,hy⟩:∃y,(usK R k).getD (k/8) 0=y:=⟨_,rfl⟩;rw [hy] at b1 hyn hyb;have hgne:¬gr=w.heap.size:=by have:=HG.out.1;omega
   have hpne:¬p=w.heap.size:=by have:=HG.out.2;omega
   obtain ⟨j,hj⟩:∃j,k/8=j:=⟨_,rfl⟩;have hkj:((k:Int)/8)=(j:Int):=by omega
   rw [hj] at b1 b2 hst hyn hjl;obtain ⟨r,hr⟩:∃r,k%8=r:=⟨_,rfl⟩;have hkr:((k:Int)%8)=(r:Int):=by omega
   have hr8:r<8:=by omega
   rw [hr] at hyn;have HS:Hid _:=hst;have HY:Hid _:=hyn;have HNo:Hid _:=hno;clear hst hyn hno hy hj hr hb;cases b with
   |true=>
    go_wp2;go_region
    go_wp2;go_roundg (N-(k+1))
    case rel=>exact ⟨k+1,by omega,rfl,by go_num,(by show _/\_;rw [HY.out (by unfold usF;rw [HB.out];simp)];exact ⟨HS.out _,(HI.out.2.setCell (jB _) _).drew⟩)⟩
    case measure=>have:=HGK.out;omega
   |false=>
    by_cases h2:k<2
    ·have h2i:decide ((k:Int)<2)=true:=jE (by omega);go_wp2;go_region
     go_wp2;go_roundg (N-(k+1))
     case rel=>exact ⟨k+1,by omega,rfl,by go_num,(by show _/\_;rw [HY.out (by unfold usF;rw [jE h2];rfl)];exact ⟨HS.out _,(HI.out.2.setCell (jB _) _).drew⟩)⟩
     case measure=>have:=HGK.out;omega
    ·have h2i:decide ((k:Int)<2)=false:=jH (by omega);have HU:Hid (usK R (k+1)=usK R k):=HNo.out (by unfold usF;rw [jH h2,HB.out];rfl);go_wp2;go_roundg (N-(k+1))
     case rel=>exact ⟨k+1,by omega,rfl,by go_num,(by show _/\_;rw [HU.out];exact HI.out)⟩
     case measure=>have:=HGK.out;omega
  ·obtain rfl:k=N:=by omega
   have HE:Hid (∃g,Ending.returned (.slice (some ⟨w.heap.size,0,none⟩) nb nb)=.returned (.slice (some ⟨g,0,none⟩) nb nb)/\Own w.heap.size wr (.slice (some ⟨g,0,none⟩) nb nb) (usedL R)/\Below w.heap.size w wr):=⟨_,rfl,(by rw [<-usK_all (by have:=HN.out;omega),HN.out.1];exact HI.out.1),HI.out.2⟩;clear HI HC;go_wp2;go_ret
   exact HE.out
end
theorem tkH {P:Program} {ops:Array Oper} {Q:Exit->Act->World->Prop} {md:Region.Mode} {S:World->Prop} {fuel:Nat} {listed:Array Bool} {a:Act} {w:World} {oi:Oper} (v:Value) (i:Nat)
  (hy:∀w,S w->(execOp a.eval oi).run P w=.ok (.value v) w) (h:wpAnyH P md ops Q S fuel (listed.setIfInBounds i true) (a.put oi.dst v) w)
  (hi:ops[i]?=some oi:=by exact rfl) (hs:Region.noSelect ops=true:=by kernel_rfl) (hf:Region.free md ops listed i=true:=by kernel_rfl)
  (hr:(Region.ready md ops listed).contains i=true:=by kernel_rfl) (hQ:∀c a w,Q (.panic c) (a.put oi.dst v) w->Q (.panic c) a w:=by exact fun _ _ _ h=>h)
  (hw:Region.wanted oi (yielded ops a.tmps)=true:=by rfl) (hS:S w:=by assumption):wpAnyH P md ops Q S (fuel+1) listed a w:=
 wpAnyH_take hi hs hf hr hQ (Or.inl ⟨hw,hy⟩) hS h
theorem gx:(∀(α:Type) (l:List α) (i:Nat) (h:i<l.toArray.size),l.toArray[i]=l[i]'(by simpa using h))/\
  (∀(α:Type) (x:α) (l:List α) (i:Nat) (h:i+1<(x::l).length),(x::l)[i+1]=l[i]'(by simpa using h))/\
  (∀(α:Type) (x:α) (l:List α) (h:0<(x::l).length),(x::l)[0]=x)/\
  (∀(a:Act) (d:Tmp) (v:Value),a.put (some d) v={a with tmps:=a.tmps.setIfInBounds d v})/\(∀(a:Act) (v:Value),a.put none v=a)/\
  (∀(α:Type) (l:List α) (i:Nat) (a:α),l.toArray.setIfInBounds i a=(l.set i a).toArray)/\
  (∀(α:Type) (x a:α) (l:List α),(x::l).set 0 a=a::l)/\(∀(α:Type) (x a:α) (l:List α) (i:Nat),(x::l).set (i+1) a=x::l.set i a):=
 ⟨fun _ _ _ _=>rfl,fun _ _ _ _ _=>rfl,fun _ _ _ _=>rfl,fun _ _ _=>rfl,fun _ _=>rfl,fun _ _ _ _=>by simp,fun _ _ _ _=>rfl,fun _ _ _ _ _=>rfl⟩
def spC' (S:Sp):Array Value:= #[.int .i64 S.g,.int .i64 S.p,.int .i64 S.r,.int .i64 S.h,.int .i64 S.b,.int .i64 S.l,.int .i64 S.s,.int .i64 S.f]
def rpt0:Array Value:= #[.int .i64 0,.int .i64 0,.int .i64 0,.int .i64 0,.int .i64 0,.int .i64 0,.int .i64 0,.int .i64 0,.int .i64 0,.slice none 0 0,.slice none 0 0,.slice none 0 0,.slice none 0 0]
def spx (w:World) (S:Sp):World:=(w.alloc (.cells (spC' S) 29)).alloc (.cells rpt0 85)
theorem fI (w:World) (S:Sp):Below w.heap.size w (spx w S):=by
 have h1:Below w.heap.size w (w.alloc (.cells (spC' S) 29)):=(Below.refl _ w).alloc (jB _) _;exact h1.alloc h1.size _
theorem info4b:(prog.info? 4).map (fun i=>(i.zero,i.size,i.bytes))=some (some (.bool false),1,1):=by kernel_rfl
theorem fU {B g N:Nat} {w:World} (h:w.ownsRow B 4 1 (.slice (some ⟨g,0,none⟩) N N) N (madeCells (Value.bool false).cells (N*1)).toList):OwnL B w (.slice (some ⟨g,0,none⟩) N N) (List.replicate N false):=by
 unfold OwnL;rw [show (Value.bool false).cells= #[Value.bool false] from rfl,toList_madeCells_one,Nat.mul_one] at h;rw [jK,List.map_replicate];exact h
theorem cnt_none (N:Nat):cnt (List.replicate N false)=0:=by
 unfold cnt
 induction N with
 |zero=>rfl
 |succ N ih=>simpa [List.replicate_succ] using ih
theorem rN_len (L:List Int):(rN L).length=pgN L:=by simp [rN]
def rpP (S:Sp) (pl:Int) (vP vT vS vG:Value):Array Value:= #[.int .i64 S.g,.int .i64 S.p,.int .i64 S.r,.int .i64 S.h,.int .i64 S.b,.int .i64 S.l,.int .i64 S.s,.int .i64 S.f,.int .i64 pl,vP,vT,vS,vG]
def RepP (F G:Nat->Prop) (w:World) (v:Value) (R:Rp):Prop:=∃aP cP aT cT aS cS aG cG,v=.agg (rpP R.s R.pl (.slice aP R.pc.length cP) (.slice aT R.tx.length cT) (.slice aS R.st.length cS) (.slice aG R.pg.length cG))/\RowC w aP cP R.pc/\Row w aT cT R.tx/\Row w aS cS R.st/\RowI w aG cG R.pg/\∀k,(obl aP k\/obl aT k\/obl aS k\/obl aG k)->(¬F k/\k<w.heap.size)/\G k
theorem RowI.keepO' {w w':World} {a:Option Addr} {c:Nat} {zs:List Int} (h:RowI w a c zs) (k:∀g,obl a g->w'.heap[g]?=w.heap[g]?):RowI w' a c zs:=by
 obtain ⟨h2,h3,h4⟩:=h;refine ⟨h2,h3,?_⟩;rcases h4 with h4|⟨b,off,e,hi⟩
 ·exact .inl h4
 ·exact .inr ⟨b,off,e,fun i hl=>(World.cell?_of_block (w:=w) (a:=⟨b,off+i,none⟩) (k b ⟨_,e,rfl⟩)).trans (hi i hl)⟩
def StP (x y:Value):Sem Unit:=Instr.storeAt 85 x y
theorem KP (x y:Value):Instr.storeAt 85 x y=StP x y:=rfl
def LdP (x:Value):Sem Value:=Instr.loadAt 85 x
theorem GY (x:Value):Instr.loadAt 85 x=LdP x:=rfl
theorem QY (S:Sp) (pl:Int) (aP aT aS aG:Option Addr) (nP nT nS nG cP cT cS cG:Nat):(rpP S pl (.slice aP nP cP) (.slice aT nT cT) (.slice aS nS cS) (.slice aG nG cG)).all (·.oneCell')=true:=by
 simp [rpP,Value.oneCell']
theorem QO {w:World} {g:Nat} {old cs:Array Value} (hg:w.heap[g]?=some (.cells old 85 (0,0))) (ho:old.size=13) (hc:cs.size=13) (h1:cs.all (·.oneCell')=true):(StP (.pointer (some ⟨g,0,none⟩)) (.agg cs)).run prog w=.ok () (w.setRow g cs):=by
 unfold StP;simp only [Instr.storeAt,Instr.sureAddr,Sem.run_bind,Sem.run_pure,Result.andThen_ok];rw [run_storeVar_row w g 85 85 old cs hg (by rw [hc];kernel_rfl) (by omega) h1]
theorem uY {w:World} {g:Nat} {cs:Array Value} (hg:w.heap[g]?=some (.cells cs 85 (0,0))) (hc:cs.size=13):(LdP (.pointer (some ⟨g,0,none⟩))).run prog w=.ok (.agg cs) w:=by
 unfold LdP;simp only [Instr.loadAt,Instr.sureAddr,Sem.run_bind,Sem.run_pure,Result.andThen_ok,run_loadVar_row (P:=prog) w g 85 85 cs (0,0) _ hg underlying85 rfl (by rw [hc];kernel_rfl)]
theorem StP_new (w:World) {cs:Array Value} (hc:cs.size=13) (h1:cs.all (·.oneCell')=true):(StP (.pointer (some ⟨w.heap.size,0,none⟩)) (.agg cs)).run prog (w.alloc (.cells rpt0 85)).drew=.ok () ((w.alloc (.cells rpt0 85)).drew.setRow w.heap.size cs):=QO (w:=(w.alloc (.cells rpt0 85)).drew) (heap_alloc_new w _) rfl hc h1
theorem setRow_new (w:World) (o:Array Value) (t:TypeId) (cs:Array Value):((w.alloc (.cells o t)).drew.setRow w.heap.size cs).heap[w.heap.size]?=some (.cells cs t (0,0))/\Below w.heap.size w ((w.alloc (.cells o t)).drew.setRow w.heap.size cs):=
 ⟨setRow_heap (w.alloc (.cells o t)).drew _ _ _ _ _ (heap_alloc_new w _),((Ch.of (fun _=>False) ((Below.refl _ w).alloc (jB _) _).drew).setRow (.inl (jB _)) _).below (fun k e=>by cases e)⟩
section
variable {w wr w':World} {p d rb gr cr m cP cT cS:Nat} {F FD:Nat->Prop} {D0:Dv} {L tx st:List Int} {vM:Value} {aP aT aS:Option Addr} {R:List Bool} {cs:List Int} {S:Sp}
def RwK (w wr:World) (F:Nat->Prop) (rb:Nat) (a:Option Addr) (c:Nat) (zs:List Int):Prop:=Row wr a c zs/\∀k,obl a k->(¬F k/\¬k=rb)/\w.heap.size+2<=k/\k<wr.heap.size
theorem rwK_nil (w wr:World) (F:Nat->Prop) (rb:Nat):RwK w wr F rb none 0 []:=⟨⟨fun z hz=>(by cases hz),jB _,jT _,.inl rfl⟩,fun k ⟨x,e,_⟩=>(by cases e)⟩
theorem RwK.keep {a:Option Addr} {c:Nat} {zs:List Int} (h:RwK w wr F rb a c zs) (hs:wr.heap.size<=w'.heap.size) (k:∀g,¬F g->¬g=rb->g<wr.heap.size->w'.heap[g]?=wr.heap[g]?):RwK w w' F rb a c zs:=
 ⟨h.1.keepO (fun g hg=>k g (h.2 g hg).1.1 (h.2 g hg).1.2 (h.2 g hg).2.2),fun g hg=>⟨(h.2 g hg).1,(h.2 g hg).2.1,qA (h.2 g hg).2.2 hs⟩⟩
theorem w0_new {w2:World} {g N:Nat} (hd:Dev w d FD D0) (hw:Well D0) (hL:D0.now=L) (hN:D0.n=N) (hops:D0.ops<=1000000000000) (hb:Below w.heap.size w w2)
  (hc:w2.heap[p]?=some (.cells #[.pointer (some ⟨d,0,none⟩),.slice (some ⟨g,0,none⟩) N N,.slice none 0 0,.slice none 0 0,vM] 228 (0,0)))
  (ho:OwnL w.heap.size w2 (.slice (some ⟨g,0,none⟩) N N) (List.replicate N false)) (lp:w.heap.size<=p) (lg:w.heap.size<=g) (npg:¬p=g):
  W0A w2 p d (fun k=>FD k\/k=p\/k=g) FD D0 L vM (List.replicate N false) []:=by
 have hF:∀k,FD k->k<w.heap.size:=hd.2.1;refine ⟨g,N,none,0,{lt:=fun k hk=>?_,dev:=?_,well:=hw,now:=hL,rn:=by rw [jK];exact hN.symm,ops:=hops,cells:=by rw [jK];exact hc,rch:=?_,ch:=⟨rfl,.inl ⟨rfl,rfl⟩⟩,fD:=fun k hk=>.inl hk,fp:=.inr (.inl rfl),fg:=.inr (.inr rfl),fC:=fun k ⟨x,e,_⟩=>(by cases e),pD:=fun e=>?_,gD:=fun e=>?_,CD:=fun k ⟨x,e,_⟩=>(by cases e),pg:=npg,pC:=fun ⟨x,e,_⟩=>(by cases e),gC:=fun ⟨x,e,_⟩=>(by cases e)}⟩
 ·rcases hk with hk|rfl|rfl
  ·exact qA (hF k hk) hb.size
  ·exact yR hc
  ·exact ho.cap.2.2.2.1
 ·rw [cnt_none];exact hd.below hb
 ·rw [jK];have:=ho;unfold OwnL World.ownsRow at this ⊢;obtain ⟨h1,h2|⟨q,cap,cur,e,h3,h4⟩⟩:=this
  ·exact ⟨h1,.inl h2⟩
  ·exact ⟨h1,.inr ⟨q,cap,cur,e,jT _,h4⟩⟩
 ·have:=hF _ e;omega
 ·have:=hF _ e;omega
structure SvI (w wr:World) (p d rb:Nat) (FD F:Nat->Prop) (D0:Dv) (L:List Int) (vM:Value) (R:List Bool) (cs:List Int) (S:Sp) (aS:Option Addr) (cS:Nat) (st:List Int):Prop where
 pw:W0A wr p d F FD D0 L vM R cs
 bk:wr.heap[rb]?=some (.cells (rpP S (-1) (.slice none 0 0) (.slice none 0 0) (.slice aS st.length cS) (.slice none 0 0)) 85 (0,0))
 s0:wr.heap[w.heap.size]?=some (.cells (spC' S) 29 (0,0))
 s1:wr.heap[w.heap.size+1]?=some (.cells rpt0 85 (0,0))
 stp:Step FD F w wr
 nf:¬F rb/\¬F w.heap.size/\¬F (w.heap.size+1)
 lo:w.heap.size+2<=rb
 kS:RwK w wr F rb aS cS st
theorem SvI.went (h:SvI w wr p d rb FD F D0 L vM R cs S aS cS st) {w2:World} {F2:Nat->Prop} {R':List Bool} {cs':List Int} (h1:W0A w2 p d F2 FD D0 L vM R' cs') (hc:Step F F2 wr w2):SvI w w2 p d rb FD F2 D0 L vM R' cs' S aS cS st:=by
 have k:∀g,¬F g->g<wr.heap.size->w2.heap[g]?=wr.heap[g]?:=fun g h1 h2=>hc.1.block g h2 h1
 have nf:∀g,¬F g->g<wr.heap.size->¬F2 g:=fun g h1 h2 e=>by rcases hc.2 g e with e|e;exact h1 e;omega
 refine ⟨h1,(k _ h.nf.1 (yR h.bk)).trans h.bk,(k _ h.nf.2.1 (yR h.s0)).trans h.s0,(k _ h.nf.2.2 (yR h.s1)).trans h.s1,h.stp.trans hc,⟨nf _ h.nf.1 (yR h.bk),nf _ h.nf.2.1 (yR h.s0),nf _ h.nf.2.2 (yR h.s1)⟩,h.lo,?_⟩;exact ⟨h.kS.1.keepO (fun g hg=>k g (h.kS.2 g hg).1.1 (h.kS.2 g hg).2.2),fun g hg=>⟨⟨nf g (h.kS.2 g hg).1.1 (h.kS.2 g hg).2.2,(h.kS.2 g hg).1.2⟩,(h.kS.2 g hg).2.1,qA (h.kS.2 g hg).2.2 hc.1.size⟩⟩
theorem SvI.below (h:SvI w wr p d rb FD F D0 L vM R cs S aS cS st) {w2:World} (hb:Below wr.heap.size wr w2):SvI w w2 p d rb FD F D0 L vM R cs S aS cS st:=
 h.went (h.pw.below hb) (Step.ofB hb)
theorem SvI.cell (h:SvI w wr p d rb FD F D0 L vM R cs S aS cS st) (i:Nat):wr.cell? ⟨rb,i,none⟩=(rpP S (-1) (.slice none 0 0) (.slice none 0 0) (.slice aS st.length cS) (.slice none 0 0))[i]?:=cell_of_row wr _ _ _ _ (0,0) h.bk
theorem SvI.sup (h:SvI w wr p d rb FD F D0 L vM R cs S aS cS st) (i:Nat):wr.cell? ⟨w.heap.size,i,none⟩=(spC' S)[i]?:=cell_of_row wr _ _ _ _ (0,0) h.s0
theorem SvI.frz (h:SvI w wr p d rb FD F D0 L vM R cs S aS cS st) (i:Nat):wr.frozen? ⟨rb,i,none⟩=false:=by unfold World.frozen?;rw [h.bk];simp
theorem SvI.low (h:SvI w wr p d rb FD F D0 L vM R cs S aS cS st):w.heap.size+2<=wr.heap.size/\rb<wr.heap.size/\∀k,F k->k<wr.heap.size:=⟨by have:=h.lo;have:=yR h.bk;omega,yR h.bk,h.pw.lt⟩
theorem SvI.set (h:SvI w wr p d rb FD F D0 L vM R cs S aS cS st) (i:Nat) (v:Value):W0A (wr.setCell ⟨rb,i,none⟩ v) p d F FD D0 L vM R cs/\Ch wr.heap.size (fun x=>x=rb) wr (wr.setCell ⟨rb,i,none⟩ v)/\Step FD F w (wr.setCell ⟨rb,i,none⟩ v):=by
 have hc:Ch wr.heap.size (fun x=>x=rb) wr (wr.setCell ⟨rb,i,none⟩ v):=(Ch.refl _ (fun x=>x=rb) wr).setCell (p:=⟨rb,i,none⟩) (.inr rfl) v;refine ⟨h.pw.keep hc.size (fun g hg=>hc.block g (h.pw.lt g hg) (fun e=>h.nf.1 (e▸hg))),hc,⟨?_,h.stp.2⟩⟩;have:=h.lo;exact h.stp.1.setCell (p:=⟨rb,i,none⟩) (.inl (by show _<=rb;omega)) v
theorem SvI.text (h:SvI w wr p d rb FD F D0 L vM R cs S aS cS st):SvI w (wr.setCell ⟨rb,10,none⟩ (.slice none 0 0)) p d rb FD F D0 L vM R cs S aS cS st:=by
 obtain ⟨h1,hc,h2⟩:=h.set 10 (.slice none 0 0);have hlo:=h.lo;have k:∀g,¬g=rb->g<wr.heap.size->(wr.setCell ⟨rb,10,none⟩ (.slice none 0 0)).heap[g]?=wr.heap[g]?:=fun g h1 h2=>hc.block g h2 h1
 refine ⟨h1,?_,(k _ (by omega) (yR h.s0)).trans h.s0,(k _ (by omega) (yR h.s1)).trans h.s1,h2,h.nf,h.lo,h.kS.keep hc.size (fun g _ h1 h2=>k g h1 h2)⟩;rw [yO _ _ _ _ _ _ _ h.bk];rfl
theorem SvI.state (h:SvI w wr p d rb FD F D0 L vM R cs S none 0 []) {a:Option Addr} {c:Nat} {zs:List Int} (hk:RwK w wr F rb a c zs):SvI w (wr.setCell ⟨rb,11,none⟩ (.slice a zs.length c)) p d rb FD F D0 L vM R cs S a c zs:=by
 obtain ⟨h1,hc,h2⟩:=h.set 11 (.slice a zs.length c);have hlo:=h.lo;have k:∀g,¬g=rb->g<wr.heap.size->(wr.setCell ⟨rb,11,none⟩ (.slice a zs.length c)).heap[g]?=wr.heap[g]?:=fun g h1 h2=>hc.block g h2 h1
 refine ⟨h1,?_,(k _ (by omega) (yR h.s0)).trans h.s0,(k _ (by omega) (yR h.s1)).trans h.s1,h2,h.nf,h.lo,hk.keep hc.size (fun g _ h1 h2=>k g h1 h2)⟩;rw [yO _ _ _ _ _ _ _ h.bk];rfl
end
end Go.Proofs.YtaijfhadecennaaGreat.Oct
namespace Go.Proofs.YtaijfhadecennaaGreat.Oct.Sx
open Go.RowKit
section
variable {w w':World} {s d:Nat} {F:Nat->Prop} {X:St}
theorem part_any (h:Sto w s d F X) (fi:FI X.D X.N X.L) (nd:∀k,¬DP X.L k) (hw:Well X.D) (hops:X.D.ops<=999999000) (hsi:X.D.since.length<=1000000) (x:Nat) (hx:x<X.D.n) (z:List Int) (hz:pageOf X.D.now x=z) (hE:ptE z=0):
  Calls prog 80 #[.pointer (some ⟨s,0,none⟩),.int .i64 x] w fun e w'=>∃b o c X' F',e=.returned (.tuple #[.slice (some ⟨b,o,none⟩) (ptL z).length c,.int .i64 (ptN z),.int .i64 0])/\w.heap.size<=b/\Row w' (some ⟨b,o,none⟩) c (ptL z)/\¬F' b/\RdS X X'/\Sto w' s d F' X'/\Step F F' w w':=by
 have hrd:=Read_any h fi nd hw hops hsi x hx;have hzb:Bys z:=by rw [<-hz];exact JI fi.ok.bnow _
 have hzl:z.length=256:=by rw [<-hz];exact JY (by have:=fi.ok.now;omega)
 rw [hz] at hrd;have HZ:Hid (Bys z/\z.length=256/\ptE z=0):=⟨hzb,hzl,hE⟩;clear h fi nd hw hops hsi hx hz hzb hzl hE;go_enter func80,ntmps80
 go_wp2_with (first
  |(go_at_call 35;refine hrd.mono ?_;rintro e w1 ⟨g,c,X',F',rfl,ho,hr,hs,st⟩
    have hpt:=Chs.Part_new (some ⟨g,0,none⟩) c z w1 (ho.row' HZ.out.1).2 HZ.out.2.2;rw [HZ.out.2.1] at hpt;have H1:Hid (RdS X X'/\Sto w1 s d F' X'/\Step F F' w w1):=⟨hr,hs,st⟩;clear hrd ho hr hs st)
  |(go_at_call 128;refine hpt.mono ?_;rintro e w2 ⟨b,o,c2,rfl,hlo,hrow,hb⟩
    have H2:Hid (w1.heap.size<=b/\Row w2 (some ⟨b,o,none⟩) c2 (ptL z)/\Below w1.heap.size w1 w2):=⟨hlo,hrow,hb⟩;clear hpt hlo hrow hb))
 go_ret3
 obtain ⟨h1,h2,h3⟩:=H1.out;obtain ⟨k1,k2,k3⟩:=H2.out;have hl:=h2.lt;exact ⟨b,o,c2,X',F',rfl,jP h3.1.size k1,k2,fun e=>by have:=hl b e;omega,h1,h2.below k3,h3.trans (Step.ofB k3)⟩
structure RdC (X X':St) (c:Nat):Prop where
 eq:X'={X with D:=X'.D,L:=X'.L}
 fi:FI X'.D X'.N X'.L
 nd:∀k,¬DP X'.L k
 ac:Acts (fun _=>False) c X.D X'.D
theorem RdC.next {X X1 X2:St} {c:Nat} (h:RdC X X1 c) (k:RdS X1 X2):RdC X X2 (c+2):=by
 obtain ⟨c2,ha,hc⟩:=k.ac;refine ⟨?_,k.fi,k.nd,(h.ac.trans ha).mono (fun _ e=>e) (by omega)⟩;have e1:=k.eq;rw [h.eq] at e1;exact e1
structure BtI (w wr:World) (s d gr N:Nat) (F:Nat->Prop) (X:St) (f:Nat) (n:Int) (v:Value) (R:List Bool) (out:List Int) (fin:List Bool × List Int):Prop where
 st:∃X' F' c,Sto wr s d F' X'/\Step F F' w wr/\RdC X X' c/\c<=2*cnt R/\(¬F' gr)/\∀g,v.ownBlock=some g->¬F' g
 seen:OwnL w.heap.size wr (.slice (some ⟨gr,0,none⟩) N N) R
 ng:∀g,v.ownBlock=some g->¬g=gr
 rl:R.length=N
 fin:chB X.D.now f n R out=some fin
 own:Own w.heap.size wr v out
 by':Bys out
 n:0<=n/\n<=9223372036854775807
 fu:N<f+cnt R
 ln:out.length<=244*cnt R
def BtE (w:World) (s d:Nat) (F:Nat->Prop) (X:St) (fin:List Bool × List Int) (e:Ending) (w':World):Prop:=
 ∃g c X' F' k,e=.returned (.tuple #[.slice g fin.2.length c,.int .i64 0])/\Own w.heap.size w' (.slice g fin.2.length c) fin.2/\Bys fin.2/\fin.2.length<=999424/\Sto w' s d F' X'/\Step F F' w w'/\RdC X X' k/\k<=8192
set_option maxRecDepth 20000 in
theorem Bytes_any (h:Sto w s d F X) (fi:FI X.D X.N X.L) (nd:∀k,¬DP X.L k) (hw:Well X.D) (hops:X.D.ops<=999900000) (hsi:X.D.since.length<=1000000) (n:Int) (hn:0<=n/\n<X.D.n) (fin:List Bool × List Int) (hfin:chB X.D.now (X.D.n+1) n (List.replicate X.D.n false) []=some fin):
  Calls prog 38 #[.pointer (some ⟨s,0,none⟩),.int .i64 n] w (BtE w s d F X fin):=by
 obtain ⟨N,hN⟩:∃N,X.D.n=N:=⟨_,rfl⟩;have hmd:=YK s d w (h.cell 0 (.pointer (some ⟨d,0,none⟩)) (fun _ _ _=>rfl));have hha:=has_any h n hn;have s0:=h.cell 0 (.pointer (some ⟨d,0,none⟩)) (fun _ _ _=>rfl)
 have hpg:Calls prog 48 #[.pointer (some ⟨d,0,none⟩)] w fun e w'=>e=.returned (.int .i64 N)/\w=w':=by
  obtain ⟨p,sp,aC,cC,lab,hS,_⟩:=h;obtain ⟨F1,hp,_⟩:=hS.pool;rw [<-hN];exact QC hp
 have HK:Hid (Sto w s d F X/\FI X.D X.N X.L/\(∀k,¬DP X.L k)/\Well X.D/\X.D.ops<=999900000/\X.D.since.length<=1000000/\X.D.n=N/\(8<=N/\N<=4096)/\chB X.D.now (N+1) n (List.replicate N false) []=some fin/\0<=n/\n<N/\Bys X.D.now):=
  ⟨h,fi,nd,hw,hops,hsi,hN,by rw [<-hN];exact ⟨fi.ok.n8,fi.ok.n4⟩,by rw [<-hN];exact hfin,hn.1,by rw [<-hN];exact hn.2,fi.ok.bnow⟩
 have hN4:N<=4096:=HK.out.2.2.2.2.2.2.2.1.2;have hm:N<=maxLen:=by unfold maxLen;omega
 obtain ⟨i0,hi0,hz0,hz1,hz2⟩:=info_parts info4b;clear h fi nd hw hops hsi hn hfin hN;go_enter func38,ntmps38
 go_wp2_with (first
  |(go_at_call 55;refine hmd.mono ?_;rintro e w' ⟨rfl,rfl⟩;clear hmd)
  |(go_at_call 56;refine hha.mono ?_;rintro e w' ⟨rfl,rfl⟩;clear hha)
  |(go_at_call 48;refine hpg.mono ?_;rintro e w' ⟨rfl,rfl⟩;clear hpg)
  |(at_make;refine wpList_make_full _ rfl _ _ 106 rfl w.heap.size 4 i0 (.bool false) 1 underlying106 hi0 hz0 hz1 .i64 .i64 _ _ N rfl rfl rfl rfl (by rw [hz2];omega) hm (jB _) ?_;intro w1 hown1 hgrow1
    have HO:Hid (OwnL w.heap.size w1 (.slice (some ⟨w.heap.size,0,none⟩) N N) (List.replicate N false)/\Below w.heap.size w w1):=⟨fU hown1,(Below.refl _ w).grown hgrow1 (jB _) (by simp)⟩;clear hown1 hgrow1 hm hi0 hz0 hz1 hz2))
 obtain ⟨gr,hgr⟩:∃gr,w.heap.size=gr:=⟨_,rfl⟩;have HGR:Hid (w.heap.size=gr):=hgr
 have HI0:Hid (BtI w w1 s d gr N F X (N+1) n (.slice none 0 0) (List.replicate N false) [] fin):=by
  obtain ⟨h1,h2,h3,_,_,_,_,h8,h9,h10,h11,_⟩:=HK.out;exact ⟨⟨X,F,0,h1.below HO.out.2,Step.ofB HO.out.2,⟨rfl,h2,h3,Acts.refl _ _⟩,jT _,fun e=>by have:=h1.lt gr e;omega,fun g e=>(by cases e)⟩,by rw [<-hgr];exact HO.out.1,fun g e=>(by cases e),jK,h9,⟨rfl,.inl ⟨rfl,rfl⟩⟩,fun z hz=>(by cases hz),⟨h10,by omega⟩,by omega,by simp⟩
 rw [hgr];obtain ⟨f0,hf0⟩:∃f0,N+1=f0:=⟨_,rfl⟩;rw [hf0] at HI0;clear HO hgr s0 hf0;go_loopg [1,6] f0 (fun k i v wr=>∃(n':Int) (R':List Bool) (out:List Int),i=.int .i64 n'/\Hid (BtI w wr s d gr N F X k n' v R' out fin))
 case atStart=>exact ⟨n,_,[],rfl,HI0.out⟩
 case round=>
  clear HI0;obtain ⟨n',R',out,rfl,HI⟩:=hrel;obtain ⟨ov,oc,hv,hrow⟩:=HI.out.own.row HI.out.by';have hcl:=XE R';rw [HI.out.rl] at hcl;have hol:out.length<=999424:=by have:=HI.out.ln;omega
  have hoc:=hrow.2.2.1;unfold maxLen at hoc;have hoc2:=hrow.2.1;obtain ⟨f1,hf1⟩:∃f1,gk=f1+1:=⟨gk-1,by have:=HI.out.fu;omega⟩;subst hf1;subst hv;by_cases hn0:n'=0
  ·subst hn0
   have HD:Hid (BtE w s d F X fin (.returned (.tuple #[.slice ov out.length oc,.int .i64 0])) wr):=by
    have e1:=HI.out.fin;rw [KK] at e1;cases e1;obtain ⟨X',F',c,a1,a2,a3,a4,_,_⟩:=HI.out.st;exact ⟨ov,oc,X',F',c,rfl,HI.out.own,HI.out.by',hol,a1,a2,a3,by omega⟩
   clear HI hrow hcl;go_wp2_with fail
   go_ret2
   exact HD.out
  ·have hn1:(n'==0)=false:=by simpa using hn0
   have hn2:(n' !=0)=true:=by simpa using hn0
   obtain ⟨hy,hE0,hfn⟩:=KI hn0 HI.out.fin;obtain ⟨r1,r2,r3⟩:=QZ hy;rw [HI.out.rl] at r2;obtain ⟨X',F',c,a1,a2,a3,a4,a5,a6⟩:=HI.out.st;have hXn:X'.D.n=N:=a3.ac.n.trans HK.out.2.2.2.2.2.2.1;have hha2:=has_any a1 n' ⟨r1,by rw [hXn];exact r2⟩;obtain ⟨x,hx⟩:∃x:Nat,n'=(x:Int):=⟨n'.toNat,(qF r1).symm⟩;subst hx;rw [jS] at hE0 hfn r3;obtain ⟨z,hz⟩:∃z,pageOf X.D.now x=z:=⟨_,rfl⟩;rw [hz] at hE0 hfn;have hnow:=acts_now a3.ac;have hwl:=HK.out.2.2.2.1.mo a3.ac.mo;have hac:=a3.ac.ops;have hpt:=fun (wx:World) (hsx:Sto wx s d F' X')=>part_any hsx a3.fi a3.nd hwl (by have:=HK.out.2.2.2.2.1;omega) (by rw [hnow.2.2];exact HK.out.2.2.2.2.2.1) x (by rw [hXn];omega) z (by rw [hnow.1];exact hz) hE0
   have hca:=uK HI.out.seen x (by rw [HI.out.rl];omega);have hcap:=HI.out.seen.cap;have hxN:x<N:=by omega
   have hxN2:(x:Int)<(N:Int):=r2;have hpN:(w.heap.size=gr):=HGR.out;have hs0:=a1.lt2;obtain ⟨wS,hwS⟩:∃wS,wr.setCell ⟨gr,x,none⟩ (.bool true)=wS:=⟨_,rfl⟩;have hcS:Ch wr.heap.size (fun k=>k=gr) wr wS:=by rw [<-hwS];exact (Ch.refl wr.heap.size (fun k=>k=gr) wr).setCell (p:=⟨gr,x,none⟩) (.inr rfl) _
   have a1S:Sto wS s d F' X':=a1.ch hcS (fun k hk e=>a5 (by rw [<-e];exact hk));have hpt2:=hpt wS a1S;obtain ⟨T,hT⟩:∃T,ptL z=T:=⟨_,rfl⟩;obtain ⟨Y,hY⟩:∃Y,ptN z=Y:=⟨_,rfl⟩;obtain ⟨tl,htl⟩:∃tl,T.length=tl:=⟨_,rfl⟩;have hzb:Bys z:=by rw [<-hz];exact JI HK.out.2.2.2.2.2.2.2.2.2.2.2 _
   have HZB:Hid (Bys T/\0<=Y/\Y<=4096/\tl<=244/\0<tl/\T.length=tl):=⟨by rw [<-hT];exact gO hzb,by rw [<-hY];exact (nx_bd hzb).1,by rw [<-hY];exact (nx_bd hzb).2,by rw [<-htl,<-hT];exact gM,by rw [<-htl,<-hT];exact ptL_pos hzb hE0,htl⟩;have htl4:=HZB.out.2.2.2.1;have htl0:=HZB.out.2.2.2.2.1;rw [hT,hY,htl] at hpt2;rw [hT,hY] at hfn;obtain ⟨-,t2,t3,t4⟩:=hca;rw [r3] at t2
   have HQ:Hid (chB X.D.now f1 Y (R'.set x true) (out++T)=some fin/\rcB R' (x:Int)=true/\RdC X X' c/\c<=2*cnt R'/\Step F F' w wr/\Ch wr.heap.size (fun k=>k=gr) wr wS/\(∀k,F' k->k<wr.heap.size)/\(¬F' gr)/\(∀g,(Value.slice ov out.length oc).ownBlock=some g->¬F' g)/\OwnL w.heap.size wS (.slice (some ⟨gr,0,none⟩) N N) (R'.set x true)/\gr<wr.heap.size):=
    ⟨hfn,hy,a3,a4,a2,hcS,a1.lt,a5,a6,by rw [<-hwS];exact t4 true,hcap.2.2.2.1⟩
   clear hrow hn0 hy hE0 hfn a1 a2 a3 a4 a5 a6 hnow hwl hac hpt t4 hcap hcS a1S hT hY htl hzb hpN r1 r3 hXn
   go_wp2_with (first
    |(go_at_call 56;refine hha2.mono ?_;rintro e w' ⟨rfl,rfl⟩;clear hha2)
    |(go_at_call 80;refine hpt2.mono ?_;rintro e w2 ⟨tb,tof,tc,X2,F2,rfl,hlo,hrow2,hnb,hrd,hs2,st2⟩
      have H2:Hid (wS.heap.size<=tb/\Row w2 (some ⟨tb,tof,none⟩) tc T/\(¬F2 tb)/\RdS X' X2/\Sto w2 s d F2 X2/\Step F' F2 wS w2):=⟨hlo,hrow2,hnb,hrd,hs2,st2⟩;have hsS:wS.heap.size=wr.heap.size:=by rw [<-hwS];exact yP _ _ _
      have hz2:=st2.1.size
      have H6:Hid (Own w.heap.size w2 (.slice ov out.length oc) out/\OwnL w.heap.size w2 (.slice (some ⟨gr,0,none⟩) N N) (R'.set x true)/\w.heap.size<=w2.heap.size/\wS.heap.size=wr.heap.size):=
       ⟨yQ HI.out.own (fun g hg=>by
        have h1:=(World.ownsRow.lt HI.out.own g hg).2;exact (st2.1.block g (by omega) (HQ.out.2.2.2.2.2.2.2.2.1 g hg)).trans (HQ.out.2.2.2.2.2.1.block g h1 (HI.out.ng g hg))),
        yQ HQ.out.2.2.2.2.2.2.2.2.2.1 (fun g hg=>by
         cases hg;exact st2.1.block gr (by have:=HQ.out.2.2.2.2.2.2.2.2.2.2;omega) HQ.out.2.2.2.2.2.2.2.1),
        by have h1:=HQ.out.2.2.2.2.1.1.size;omega,hsS⟩
      clear hpt2 hlo hrow2 hnb hrd hs2 st2 hsS hz2)
    |(at_builtin;refine UN rfl _ _ rfl w.heap.size (.slice ov out.length oc) out rfl H6.out.1 ⟨tb,tof,none⟩ T tl tc rfl HZB.out.2.2.2.2.2 htl0 H2.out.2.1 (by omega) H6.out.2.2.1 ?_;intro g7 cap7 w7 ho7 hg7 ht7;have H7:Hid _:=And.intro ho7 (And.intro hg7 ht7);clear ho7 hg7 ht7))
   go_roundg f1
   case rel=>
    refine ⟨Y,R'.set x true,out++T,rfl,?_⟩;obtain ⟨o7,g7',t7⟩:=H7.out;obtain ⟨b1,b2,b3,b4,b5,b6⟩:=H2.out;obtain ⟨e1,e2,e3,e4⟩:=H6.out;obtain ⟨q1,q2,q3,q4,q5,q6,q7,q8,q9,q10,q11⟩:=HQ.out;have hq:=QZ q2;rw [HI.out.rl] at hq;have hcn:=uV (R:=R') (n:=x) (by rw [HI.out.rl];exact hxN) hq.2.2;have h1:=HI.out.fu;have h2:=HI.out.ln;have hl2:=b5.lt
    have hf2:∀k,F2 k->F' k\/wr.heap.size<=k:=fun k hk=>by
     rcases b6.2 k hk with e|e
     ·exact .inl e
     ·exact .inr (by omega)
    have hov:∀k,(Value.slice ov out.length oc).ownBlock=some k->¬F2 k:=fun k hk e=>by
     have h3:=(World.ownsRow.lt HI.out.own k hk).2;rcases hf2 k e with h4|h4
     ·exact q9 k hk h4
     ·omega
    have hgr:Ch w2.heap.size (fun k=>(Value.slice ov out.length oc).ownBlock=some k) w2 w7:=(Ch.refl _ _ _).grown g7' (jB _) (fun k hk=>.inr hk);have hbase:∀k,(Value.slice ov out.length oc).ownBlock=some k->w.heap.size<=k:=fun k hk=>(World.ownsRow.lt HI.out.own k hk).1
    have hs7:Sto w7 s d F2 X2:=b5.ch hgr (fun k hk e=>hov k e hk);have stS:Step F F' w wS:=⟨q5.1.trans (q6.mono q5.1.size (fun k hk e=>by have:=HGR.out;omega)),q5.2⟩;have st2:=stS.trans b6;have st3:Step F F2 w w7:=⟨st2.1.trans (hgr.mono st2.1.size (fun k hlt hk=>absurd hlt (Nat.not_lt.2 (hbase k hk)))),st2.2⟩
    have hg7:∀k,(Value.slice (some ⟨g7,0,none⟩) (out.length+tl) cap7).ownBlock=some k->(Value.slice ov out.length oc).ownBlock=some k\/k=w2.heap.size:=fun k hk=>by
     have e:g7=k:=by simpa [Value.ownBlock] using hk
     subst e;exact t7
    have hgrl:=q11;refine {st:=⟨X2,F2,c+2,hs7,st3,q3.next b4,by rw [hcn];omega,fun e=>?_,fun k hk e=>?_⟩,seen:=?_,ng:=fun k hk=>?_,rl:=by rw [jY];exact HI.out.rl,fin:=q1,own:=?_,by':=HI.out.by'.app HZB.out.1,n:=by have:=HZB.out.2.1;have:=HZB.out.2.2.1;omega,fu:=by rw [hcn];omega,ln:=by rw [hcn,jN,HZB.out.2.2.2.2.2];omega}
    ·rcases hf2 gr e with h4|h4
     ·exact q8 h4
     ·omega
    ·rcases hg7 k hk with h4|h4
     ·exact hov k h4 e
     ·have:=hl2 k e;omega
    ·exact yQ e2 (fun g hg=>by
      cases hg;exact hgr.block gr (by have:=b6.1.size;omega) (fun e=>HI.out.ng gr e rfl))
    ·rcases hg7 k hk with h4|h4
     ·exact HI.out.ng k h4
     ·have:=b6.1.size;omega
    ·rw [<-HZB.out.2.2.2.2.2,<-jN] at o7 ⊢;exact o7
   case measure=>omega
end
end Go.Proofs.YtaijfhadecennaaGreat.Oct.Sx
