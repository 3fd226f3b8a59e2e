/- Part of a proof. -/
import Derived.Test.YtjllhcifmfhkmaaGreatAuv
import Derived.Test.YtjllhcifmfhkmaaGreatBw
import Derived.Test.YtjllhcifmfhkmaaGreatQh
import Derived.Test.YtjllhcifmfhkmaaGreatAur
set_option maxHeartbeats 8000000
namespace Go.Proofs.YtjllhcifmfhkmaaGreat.Oct
open Go.RowKit
attribute [local go_sem ↓] StP_eq LdP_eq
theorem rdK_add (D:Dv) (a:Nat):∀k,rdK (rdK D a) k=rdK D (a+k)
 |0=>rfl
 |k+1=>by
  show readD (rdK (rdK D a) k)=readD (rdK D (a+k));rw [rdK_add D a k]
def OpE (w:World) (d:Nat) (FD:Nat→Prop) (D0:Dv) (L:List Int) (N:Nat) (e:Ending) (w':World):Prop:=
 (oaE L=0∧∃v,e=.returned (.tuple #[v,.int .i64 0])∧∃k FD',RepP FD' (fun k=>FD k∨w.heap.size≤k) w' v (oaR L)∧k≤N+2∧Dev w' d FD' (rdK D0 k)∧(∀j,j<k→tellsD (rdK D0 j)=true)∧Step FD FD' w w')∨
 (oaE L=8∧e=.returned (.tuple #[.agg rpt0,.int .i64 8])∧∃k FD',k≤N+2∧Dev w' d FD' (rdK D0 k)∧(∀j,j<k→tellsD (rdK D0 j)=true)∧Step FD FD' w w')∨
 (e=.returned (.tuple #[.agg rpt0,.int .i64 7])∧∃k FD',k<N+2∧Dev w' d FD' (rdK D0 (k+1))∧(∀j,j<k→tellsD (rdK D0 j)=true)∧tellsD (rdK D0 k)=false∧Step FD FD' w w')
def Bk2 (w:World) (bb:Nat) (v0 v1:Value):Prop:=w.heap[bb]?=some (.cells #[v0,v1] 59 (0,0))
theorem Bk2.at {w:World} {bb:Nat} {v0 v1:Value} (h:Bk2 w bb v0 v1):w.cell? ⟨bb,0,none⟩=some v0∧w.cell? ⟨bb,1,none⟩=some v1∧∀i,w.frozen? ⟨bb,i,none⟩=false:=by
 have hc:∀i,w.cell? ⟨bb,i,none⟩=_:=fun i=>cell_of_row w bb i _ _ (0,0) h
 refine ⟨by rw [hc];rfl,by rw [hc];rfl,fun i=>?_⟩;unfold World.frozen?;rw [h];simp
theorem fill_new {w5:World} {rb:Nat} {cs:Array Value} (hr:w5.heap[rb]?=some (.cells rpt0 33 (0,0))) (hc:cs.size=13) (h1:cs.all (·.oneCell')=true):
  ((StP (.pointer (some ⟨w5.heap.size,0,none⟩)) (.agg cs)).run Tryz.prog (w5.alloc (.cells rpt0 33))=.ok () ((w5.alloc (.cells rpt0 33)).setRow w5.heap.size cs)∧((w5.alloc (.cells rpt0 33)).setRow w5.heap.size cs).heap[w5.heap.size]?=some (.cells cs 33 (0,0))∧((w5.alloc (.cells rpt0 33)).setRow w5.heap.size cs).heap[rb]?=some (.cells rpt0 33 (0,0))∧Below w5.heap.size w5 ((w5.alloc (.cells rpt0 33)).setRow w5.heap.size cs)):=by
 have hl:=heap_lt hr;refine ⟨StP_run (heap_alloc_new w5 _) rfl hc h1,setRow_heap _ _ _ _ _ _ (heap_alloc_new w5 _),?_,((Ch.of (fun _=>False) ((Below.refl _ w5).alloc (Nat.le_refl _) _)).setRow (.inl (Nat.le_refl _)) _).below (fun k e=>by cases e)⟩;rw [setRow_other _ _ rb _ (by omega)];exact (heap_alloc_old w5 _ hl).trans hr
theorem rpP_place (S:Sp) (pl P:Int) (vP vT vS vG:Value):(rpP S pl vP vT vS vG).setIfInBounds 8 (.int .i64 P)=rpP S P vP vT vS vG:=rfl
theorem rpP_8 (S:Sp) (pl:Int) (vP vT vS vG:Value):(rpP S pl vP vT vS vG)[8]?=some (.int .i64 pl):=rfl
theorem chE_two (x y:List Int):chE x y=0∨chE x y=8:=by unfold chE;split<;>simp
theorem ch_ok {x y:List Int} (h:chE x y=0):okS (chS x y)=true:=by
 unfold chE at h;unfold chS;split
 ·next e=>exact de_gen e.1
 ·next e=>
  refine de_gen ?_;by_cases hy:deE y=0
  ·exact hy
  ·by_cases hx:deE x=0
   ·exact absurd ⟨hx,.inl hy⟩ e
   ·rw [if_pos ⟨hx,hy⟩] at h;cases h
theorem RepP.place {F G:Nat→Prop} {w:World} {R:Rp} {x1 x2 x3 x4:Value} (P:Int) (h:RepP F G w (.agg (rpP R.s R.pl x1 x2 x3 x4)) R):RepP F G w (.agg (rpP R.s P x1 x2 x3 x4)) {R with pl:=P}:=by
 obtain ⟨aP,cP,aT,cT,aS,cS,aG,cG,e,h⟩:=h
 have e2:x1=.slice aP R.pc.length cP∧x2=.slice aT R.tx.length cT∧x3=.slice aS R.st.length cS∧x4=.slice aG R.pg.length cG:=by
  simp only [rpP,Value.agg.injEq,Array.mk.injEq,List.cons.injEq,and_true,true_and] at e;exact e
 obtain ⟨rfl,rfl,rfl,rfl⟩:=e2;exact ⟨aP,cP,aT,cT,aS,cS,aG,cG,rfl,h⟩
theorem open_fin {w w4 w5 w8:World} {d rb:Nat} {FD FD':Nat→Prop} {D:Dv} (hw:w.heap.size≤rb) (hc4:Ch w.heap.size FD w w4) (hl:rb<w4.heap.size) (hF:∀k,FD k→k<w.heap.size) (hd:Dev w5 d FD' D) (st:Step FD FD' w4 w5) (hc:Ch w5.heap.size (fun x=>x=rb) w5 w8):Dev w8 d FD' D∧Step FD FD' w w8:=by
 have hs:=hc4.size
 have hn:∀k,FD' k→¬k=rb:=fun k hk e=>by
  rcases st.2 k hk with h|h
  ·have:=hF k h;omega
  ·omega
 refine ⟨hd.keep hc.size (fun g hg=>hc.block g (hd.2.1 g hg) (hn g hg)),?_,fun k hk=>?_⟩
 ·exact (hc4.trans (st.1.mono hs (fun _ _ h=>h))).trans ⟨hc.os,hc.tape,hc.output,hc.size,fun i hi _=>hc.block i (by have:=st.1.size;omega) (by omega)⟩
 ·rcases st.2 k hk with h|h
  ·exact .inl h
  ·right;omega
theorem told_two {D0:Dv} {k:Nat} (h2:∀j,j<2→tellsD (rdK D0 j)=true) (h:∀j,j<k→tellsD (rdK (rdK D0 2) j)=true):∀j,j<2+k→tellsD (rdK D0 j)=true:=fun j hj=>by
 by_cases hj2:j<2
 ·exact h2 j hj2
 ·have:=h (j-2) (by omega);rw [rdK_add,show 2+(j-2)=j from by omega] at this;exact this
theorem oa_two {L:List Int} {S:Sp} {P:Int} {N:Nat} (hl:L.length=N*256) (hn:N≤4096) (hb:Bys L) (h0:chE (pageOf L 0) (pageOf L 1)=0) (hS:chS (pageOf L 0) (pageOf L 1)=S) (hP:chP (pageOf L 0) (pageOf L 1)=P) (hok:okS S=true):(∀r,Su L S r→oaE L=0∧oaR L={r with pl:=P})∧((∀r,¬Su L S r)→oaE L=8):=by
 have hp:pgN L≤4096:=by unfold pgN;omega
 constructor
 ·intro r hr;rcases su_wa hb hp hok with ⟨h1,h2⟩|⟨h1,h2⟩
  ·have hoe:oaE L=0:=by
    unfold oaE opX;rw [if_pos h0,hS,if_pos h1]
   refine ⟨hoe,?_⟩;unfold oaR;rw [if_pos hoe,hS,hP,h2.one hr]
  ·exact absurd hr (h2 r)
 ·intro hno;rcases su_wa hb hp hok with ⟨h1,h2⟩|⟨h1,h2⟩
  ·exact absurd h2 (hno _)
  ·unfold oaE opX;rw [if_pos h0,hS,if_neg (by rw [h1];decide)]
def OpI (w0 wr:World) (bb d:Nat) (FD:Nat→Prop) (D0:Dv) (L:List Int) (k:Nat):Prop:=
 (Dev wr d FD (rdK D0 k)∧(∀j,j<k→tellsD (rdK D0 j)=true)∧Ch w0.heap.size (fun x=>FD x∨x=bb) w0 wr)∧
 ((k=0∧Bk2 wr bb (.slice none 0 0) (.slice none 0 0))∨
  (k=1∧∃g c,Bk2 wr bb (.slice (some ⟨g,0,none⟩) 256 c) (.slice none 0 0)∧Own w0.heap.size wr (.slice (some ⟨g,0,none⟩) 256 c) (pageOf L 0))∨
  (k=2∧∃g c g' c',Bk2 wr bb (.slice (some ⟨g,0,none⟩) 256 c) (.slice (some ⟨g',0,none⟩) 256 c')∧Own w0.heap.size wr (.slice (some ⟨g,0,none⟩) 256 c) (pageOf L 0)∧Own w0.heap.size wr (.slice (some ⟨g',0,none⟩) 256 c') (pageOf L 1)))
set_option maxRecDepth 20000 in
theorem aopen_p {w:World} {d N:Nat} {FD:Nat→Prop} {D0:Dv} {L:List Int} (hd:Dev w d FD D0) (hL:D0.now=L) (hN:D0.n=N) (hops:D0.ops≤999999999990):
  Calls Tryz.prog 11 #[.pointer (some ⟨d,0,none⟩)] w fun e w'=>OpE w d FD D0 L N e w':=by
 have hn8:=hd.1.n8;have hn4:=hd.1.n4;obtain ⟨w0,hw0⟩:∃w0,(w.alloc (.cells #[.int .i64 0,.int .i64 0,.int .i64 0,.int .i64 0,.int .i64 0,.int .i64 0,.int .i64 0,.int .i64 0,.int .i64 0,.slice none 0 0,.slice none 0 0,.slice none 0 0,.slice none 0 0] 33)).alloc (.cells #[.slice none 0 0,.slice none 0 0] 59)=w0:=⟨_,rfl⟩
 have H0:Hid (w0.heap.size=w.heap.size+2∧w0.heap[w.heap.size]?=some (.cells rpt0 33 (0,0))∧Below w.heap.size w w0∧OpI w0 w0 (w.heap.size+1) d FD D0 L 0):=by
  have hb:Below w.heap.size w w0:=by rw [←hw0];exact ((Below.refl _ w).alloc (Nat.le_refl _) _).alloc (by simp) _
  refine ⟨by rw [←hw0];simp,by rw [←hw0];exact heap_alloc2_old w _ _,hb,⟨hd.below hb,fun j hj=>absurd hj (Nat.not_lt_zero _),Ch.refl _ _ _⟩,.inl ⟨rfl,by rw [←hw0];exact heap_alloc2_new w _ _⟩⟩
 have HD:Hid (D0.now=L∧D0.n=N∧D0.ops≤999999999990∧(∀k,FD k→k<w.heap.size)):=⟨hL,hN,hops,hd.2.1⟩;rw [hN] at hn8 hn4;clear hd hL hN hops;go_enter Tryz.func11,Tryz.ntmps11
 go_wp2_with fail
 have HI0:Hid (OpI w0 w0 (w.heap.size+1) d FD D0 L 0):=H0.out.2.2.2;obtain ⟨bb,hbb⟩:∃bb,w.heap.size+1=bb:=⟨_,rfl⟩;obtain ⟨rb,hrb⟩:∃rb,w.heap.size=rb:=⟨_,rfl⟩;rw [hbb] at HI0 ⊢;rw [hrb];have HBB:Hid (w.heap.size+1=bb∧w.heap.size=rb):=⟨hbb,hrb⟩;clear hw0 hbb hrb;go_loopg [15] 2 (fun gh i wr=>∃k:Nat,k≤2∧gh=2-k∧i=.int .i64 (k:Int)∧Hid (OpI w0 wr bb d FD D0 L k))
 case atStart=>exact ⟨0,by omega,rfl,rfl,HI0.out⟩
 case round=>
  clear HI0;obtain ⟨k,hk,hgk,rfl,HI⟩:=hrel;have HGK:Hid (gk=2-k):=hgk;clear hgk;by_cases hlt:k<2
  ·have hrd:=read_any HI.out.1.1 (by have:=(rdK_is D0 k).2.2.1;have:=HD.out.2.2.1;omega) k (by rw [(rdK_is D0 k).2.1,HD.out.2.1];omega);unfold ReadEnd at hrd;rw [(rdK_is D0 k).1,HD.out.1] at hrd;have hFb:¬FD bb∧¬FD rb:=⟨fun h=>by have:=HD.out.2.2.2 _ h;have:=HBB.out;omega,fun h=>by have:=HD.out.2.2.2 _ h;have:=HBB.out;omega⟩;go_wp2_with fail
   refine hrd.mono ?_;clear hrd;rintro e w2 ⟨he,hd2,hc2⟩;cases ht:tellsD (rdK D0 k) with
   |false=>
    rw [ht,if_neg (by simp)] at he;subst he
    have hr2:w2.heap[rb]?=some (.cells rpt0 33 (0,0)):=by
     have hb:=HBB.out;have hs0:=H0.out.1;have hs1:=HI.out.1.2.2.size;have h1:=H0.out.2.1;rw [hb.2] at h1;exact ((hc2.block rb (by omega) hFb.2).trans (HI.out.1.2.2.block rb (by omega) (fun e=>by rcases e with e|e;exact hFb.2 e;omega))).trans h1
    have hst:=StP_run (cs:=rpt0) hr2 rfl rfl (by rw [rpt0_lit];simp [Value.oneCell'])
    have HE:Hid ((w2.setRow rb rpt0).heap[rb]?=some (.cells rpt0 33 (0,0))∧OpE w d FD D0 L N (.returned (.tuple #[.agg rpt0,.int .i64 7])) (w2.setRow rb rpt0)):=by
     have hb:=HBB.out;refine ⟨setRow_heap w2 _ _ _ _ _ hr2,.inr (.inr ⟨rfl,k,FD,by omega,?_,HI.out.1.2.1,ht,?_⟩)⟩
     ·refine hd2.keep (by simp [World.setRow]) (fun g hg=>setRow_other w2 rb g rpt0 (fun e=>hFb.2 (e▸hg)))
     ·refine ⟨?_,fun k hk=>.inl hk⟩;have h1:Ch w.heap.size FD w wr:=(Ch.of FD H0.out.2.2.1).trans (HI.out.1.2.2.mono H0.out.2.2.1.size (fun k hk e=>by rcases e with e|e;exact e;omega));exact (h1.trans (hc2.mono h1.size (fun _ _ h=>h))).setRow (.inl (by omega)) _
    rw [rpt0_lit] at hst HE;clear hd2 hc2 HI hr2 hFb;go_wp2;refine bodyPost_ret (results_rowtmp rfl _ _ rb _ _ (0,0) _ rfl HE.out.1 Tryz.underlying33 rfl (by kernel_rfl)) rfl ?_;exact HE.out.2
   |true=>
    rw [ht,if_pos rfl] at he;obtain ⟨gk2,ck2,rfl,ho2⟩:=he;have hb:=HBB.out;have hs0:=H0.out.1;have hs1:=HI.out.1.2.2.size;have hbw:bb<wr.heap.size:=by omega
    have hch:Ch w0.heap.size (fun x=>FD x∨x=bb) w0 w2:=HI.out.1.2.2.trans (hc2.mono hs1 (fun _ _ h=>.inl h))
    have htold:∀j,j<k+1→tellsD (rdK D0 j)=true:=fun j hj=>by
     rcases Nat.lt_succ_iff_lt_or_eq.1 hj with e|rfl
     ·exact HI.out.1.2.1 j e
     ·exact ht
    have hdev:∀v:Value,Dev (w2.setCell ⟨bb,k,none⟩ v) d FD (rdK D0 (k+1)):=fun v=>hd2.keep (by rw [size_setCell];exact Nat.le_refl _) (fun g hg=>Below.heap_setCell w2 ⟨bb,k,none⟩ v g (fun (e:g=bb)=>hFb.1 (e▸hg)))
    have hgl:=ho2.lt2;have hob:Own w0.heap.size w2 (.slice (some ⟨gk2,0,none⟩) 256 ck2) (pageOf L k):=owns_base ho2 (fun g hg=>by have:=World.ownsRow.lt ho2 g hg;omega);have hOwn:∀v:Value,Own w0.heap.size (w2.setCell ⟨bb,k,none⟩ v) (.slice (some ⟨gk2,0,none⟩) 256 ck2) (pageOf L k):=fun v=>Own.kept hob (Below.heap_setCell w2 ⟨bb,k,none⟩ v gk2 (by show ¬gk2=bb;omega))
    have HM:Hid ((∀v:Value,Dev (w2.setCell ⟨bb,k,none⟩ v) d FD (rdK D0 (k+1)))∧(∀j,j<k+1→tellsD (rdK D0 j)=true)∧(∀v:Value,Ch w0.heap.size (fun x=>FD x∨x=bb) w0 (w2.setCell ⟨bb,k,none⟩ v))∧∀v:Value,Own w0.heap.size (w2.setCell ⟨bb,k,none⟩ v) (.slice (some ⟨gk2,0,none⟩) 256 ck2) (pageOf L k)):=⟨hdev,htold,fun v=>hch.setCell (p:=⟨bb,k,none⟩) (.inr (.inr rfl)) v,hOwn⟩;rcases HI.out.2 with ⟨rfl,hB⟩|⟨rfl,g0,c0,hB,hO⟩|⟨rfl,-⟩
    ·have hB2:Bk2 w2 bb (.slice none 0 0) (.slice none 0 0):=(hc2.block bb hbw hFb.1).trans hB
     have HN:Hid (OpI w0 (w2.setCell ⟨bb,0,none⟩ (.slice (some ⟨gk2,0,none⟩) 256 ck2)) bb d FD D0 L 1):=by
      refine ⟨⟨HM.out.1 _,HM.out.2.1,HM.out.2.2.1 _⟩,.inr (.inl ⟨rfl,gk2,ck2,?_,HM.out.2.2.2 _⟩)⟩;unfold Bk2;rw [setCell_heap _ _ _ _ _ _ _ hB2];rfl
     obtain ⟨x0,x1,fz⟩:=hB2.at;have f0:=fz 0;clear hob hdev htold hch hOwn HM hB hB2 ho2 hd2 hc2 HI fz;go_wp2;go_roundg 1
     case rel=>exact ⟨1,by omega,rfl,by go_num,HN.out⟩
     case measure=>have:=HGK.out;omega
    ·have hgo:=hO.lt2;have hB2:Bk2 w2 bb (.slice (some ⟨g0,0,none⟩) 256 c0) (.slice none 0 0):=(hc2.block bb hbw hFb.1).trans hB
     have HN:Hid (OpI w0 (w2.setCell ⟨bb,1,none⟩ (.slice (some ⟨gk2,0,none⟩) 256 ck2)) bb d FD D0 L 2):=by
      refine ⟨⟨HM.out.1 _,HM.out.2.1,HM.out.2.2.1 _⟩,.inr (.inr ⟨rfl,g0,c0,gk2,ck2,?_,?_,HM.out.2.2.2 _⟩)⟩
      ·unfold Bk2;rw [setCell_heap _ _ _ _ _ _ _ hB2];rfl
      ·refine hO.kept ((Below.heap_setCell w2 ⟨bb,1,none⟩ _ g0 (by show ¬g0=bb;omega)).trans (hc2.block g0 hgo.2 (fun h=>?_)));have:=HD.out.2.2.2 _ h;omega
     obtain ⟨x0,x1,fz⟩:=hB2.at;have f1:=fz 1;clear hob hdev htold hch hOwn HM hB hB2 ho2 hd2 hc2 HI fz hO;go_wp2;go_roundg 0
     case rel=>exact ⟨2,by omega,rfl,by go_num,HN.out⟩
     case measure=>have:=HGK.out;omega
    ·omega
  ·obtain rfl:k=2:=by omega
   rcases HI.out.2 with ⟨h,-⟩|⟨h,-⟩|⟨-,g0,c0,g1,c1,hB,hO0,hO1⟩
   ·omega
   ·omega
   have hlL:L.length=N*256:=by
    have:=HI.out.1.1.1.now;rw [(rdK_is D0 2).1,(rdK_is D0 2).2.1,HD.out.1,HD.out.2.1] at this;omega
   have hbL:Bys L:=by
    have:=HI.out.1.1.1.bnow;rw [(rdK_is D0 2).1,HD.out.1] at this;exact this
   have hp0:(pageOf L 0).length=256:=pageOf_len (by omega);have hp1:(pageOf L 1).length=256:=pageOf_len (by omega);have hby:∀p,Bys (pageOf L p):=fun p z hz=>hbL z (List.mem_of_mem_drop (List.mem_of_mem_take hz))
   obtain ⟨S,hS⟩:∃S,chS (pageOf L 0) (pageOf L 1)=S:=⟨_,rfl⟩;obtain ⟨P,hP⟩:∃P,chP (pageOf L 0) (pageOf L 1)=P:=⟨_,rfl⟩;obtain ⟨E,hE⟩:∃E,chE (pageOf L 0) (pageOf L 1)=E:=⟨_,rfl⟩;have hcho:=choose_v (some ⟨g0,0,none⟩) (some ⟨g1,0,none⟩) c0 c1 256 256 (pageOf L 0) (pageOf L 1) wr (hO0.row' (hby 0)).2 hp0 (hO1.row' (hby 1)).2 hp1 S hS P hP E hE;obtain ⟨x0,x1,-⟩:=hB.at;have HC:Hid (chS (pageOf L 0) (pageOf L 1)=S∧chP (pageOf L 0) (pageOf L 1)=P∧chE (pageOf L 0) (pageOf L 1)=E∧Bys L∧L.length=N*256):=⟨hS,hP,hE,hbL,hlL⟩;unfold spV at hcho;clear hB hO0 hO1 hlL hbL hp0 hp1 hby hS hP hE;go_wp2_with fail
   refine hcho.mono ?_;clear hcho;rintro e w3 ⟨rfl,hb3⟩;have hb:=HBB.out;have hs0:=H0.out.1;have hs1:=HI.out.1.2.2.size;have hFb:¬FD bb∧¬FD rb:=⟨fun h=>by have:=HD.out.2.2.2 _ h;omega,fun h=>by have:=HD.out.2.2.2 _ h;omega⟩
   have H3:Hid (Dev w3 d FD (rdK D0 2)∧(∀j,j<2→tellsD (rdK D0 j)=true)∧Ch w.heap.size FD w w3∧w3.heap[rb]?=some (.cells rpt0 33 (0,0))):=by
    have h1:Ch w.heap.size FD w wr:=(Ch.of FD H0.out.2.2.1).trans (HI.out.1.2.2.mono H0.out.2.2.1.size (fun k hk e=>by rcases e with e|e;exact e;omega));have h2:=H0.out.2.1;rw [hb.2] at h2;exact ⟨HI.out.1.1.below hb3,HI.out.1.2.1,h1.trans (Ch.of FD (hb3.mono h1.size)),((hb3.block rb (by omega)).trans (HI.out.1.2.2.block rb (by omega) (fun e=>by rcases e with e|e;exact hFb.2 e;omega))).trans h2⟩
   have hr3:=heap_lt H3.out.2.2.2;have hs3:=H3.out.2.2.1.size;obtain ⟨w4,hw4⟩:∃w4,w3.alloc (.cells #[.int .i64 S.g,.int .i64 S.p,.int .i64 S.r,.int .i64 S.h,.int .i64 S.b,.int .i64 S.l,.int .i64 S.s,.int .i64 S.f] 28)=w4:=⟨_,rfl⟩
   have H4:Hid (Dev w4 d FD (rdK D0 2)∧Ch w.heap.size FD w w4∧w4.heap[rb]?=some (.cells rpt0 33 (0,0))∧rb<w4.heap.size∧w.heap.size≤w4.heap.size):=by
    have hbel:Below w3.heap.size w3 w4:=by rw [←hw4];exact (Below.refl _ w3).alloc (Nat.le_refl _) _
    have:=hbel.size;exact ⟨H3.out.1.below hbel,H3.out.2.2.1.trans (Ch.of FD (hbel.mono hs3)),(hbel.block rb hr3).trans H3.out.2.2.2,by omega,by omega⟩
   clear hb3 HI hk hlt HGK x0 x1;rcases chE_two (pageOf L 0) (pageOf L 1) with hE0|hE8
   ·have hok:=ch_ok hE0;rw [HC.out.1] at hok;have hE00:E=0:=by rw [←HC.out.2.2.1];exact hE0
    subst hE00;have hrk:=rdK_is D0 2;have hwk:=walk_ok (L:=L) (N:=N) H4.out.1 (by rw [hrk.1];exact HD.out.1) (by rw [hrk.2.1];exact HD.out.2.1) (by have:=hrk.2.2.1;have:=HD.out.2.2.1;omega) S hok;unfold spV at hwk;have HOK:Hid (okS S=true∧chE (pageOf L 0) (pageOf L 1)=0):=⟨hok,hE0⟩;have hsb:w4.heap[w3.heap.size]?=some (.cells (spC' S) 28 (0,0)):=by rw [←hw4];exact heap_alloc_new w3 _
    have hc:∀i,w4.cell? ⟨w3.heap.size,i,none⟩=(spC' S)[i]?:=fun i=>cell_of_row w4 _ _ _ _ (0,0) hsb
    have s0:w4.cell? ⟨w3.heap.size,0,none⟩=some (.int .i64 S.g):=by rw [hc];rfl
    have s1:w4.cell? ⟨w3.heap.size,1,none⟩=some (.int .i64 S.p):=by rw [hc];rfl
    have s2:w4.cell? ⟨w3.heap.size,2,none⟩=some (.int .i64 S.r):=by rw [hc];rfl
    have s3:w4.cell? ⟨w3.heap.size,3,none⟩=some (.int .i64 S.h):=by rw [hc];rfl
    have s4:w4.cell? ⟨w3.heap.size,4,none⟩=some (.int .i64 S.b):=by rw [hc];rfl
    have s5:w4.cell? ⟨w3.heap.size,5,none⟩=some (.int .i64 S.l):=by rw [hc];rfl
    have s6:w4.cell? ⟨w3.heap.size,6,none⟩=some (.int .i64 S.s):=by rw [hc];rfl
    have s7:w4.cell? ⟨w3.heap.size,7,none⟩=some (.int .i64 S.f):=by rw [hc];rfl
    clear hrk hok hE0 hc hsb;go_wp2_with fail
    refine hwk.mono ?_;clear hwk s0 s1 s2 s3 s4 s5 s6 s7;rintro e w5 (⟨hno,-⟩|⟨-,⟨r,v,rfl,hsu,k,FD',hrep,hk,hdv,htold,hst⟩|⟨rfl,hno,k,FD',hk,hdv,htold,hst⟩|⟨rfl,k,FD',hk,hdv,htold,hnot,hst⟩⟩)
    ·rw [HOK.out.1] at hno;cases hno
    ·obtain ⟨aP,cP,aT,cT,aS,cS,aG,cG,rfl,hrest⟩:=id hrep;obtain ⟨cs,hcs⟩:∃cs,rpP r.s r.pl (.slice aP r.pc.length cP) (.slice aT r.tx.length cT) (.slice aS r.st.length cS) (.slice aG r.pg.length cG)=cs:=⟨_,rfl⟩;obtain ⟨cs',hcs'⟩:∃cs',rpP r.s P (.slice aP r.pc.length cP) (.slice aT r.tx.length cT) (.slice aS r.st.length cS) (.slice aG r.pg.length cG)=cs':=⟨_,rfl⟩;have hr5:=(hst.1.block rb H4.out.2.2.2.1 hFb.2).trans H4.out.2.2.1;obtain ⟨f1,f2,f3,f4⟩:=fill_new (cs:=cs) hr5 (by rw [←hcs];rfl) (by rw [←hcs];exact rpP_one ..);rw [rpt0_lit] at f1 f2 f4;rw [show (w5.alloc (.cells rpt0 33))=(w5.alloc (.cells #[.int .i64 0,.int .i64 0,.int .i64 0,.int .i64 0,.int .i64 0,.int .i64 0,.int .i64 0,.int .i64 0,.int .i64 0,.slice none 0 0,.slice none 0 0,.slice none 0 0,.slice none 0 0] 33)) from rfl] at f3;obtain ⟨w6,hw6⟩:∃w6,(w5.alloc (.cells #[.int .i64 0,.int .i64 0,.int .i64 0,.int .i64 0,.int .i64 0,.int .i64 0,.int .i64 0,.int .i64 0,.int .i64 0,.slice none 0 0,.slice none 0 0,.slice none 0 0,.slice none 0 0] 33)).setRow w5.heap.size cs=w6:=⟨_,rfl⟩;rw [hw6] at f1 f2 f3 f4;have hr5l:=heap_lt hr5;have c8:w6.cell? ⟨w5.heap.size,8,none⟩=some (.int .i64 r.pl):=by rw [cell_of_row w6 _ _ _ _ (0,0) f2,←hcs];exact rpP_8 ..
     have z8:w6.frozen? ⟨w5.heap.size,8,none⟩=false:=by unfold World.frozen?;rw [f2];simp
     have g2:(w6.setCell ⟨w5.heap.size,8,none⟩ (.int .i64 P)).heap[w5.heap.size]?=some (.cells cs' 33 (0,0)):=by
      rw [setCell_heap _ _ _ _ _ _ _ f2,←hcs,←hcs',rpP_place]
     have g3:(w6.setCell ⟨w5.heap.size,8,none⟩ (.int .i64 P)).heap[rb]?=some (.cells rpt0 33 (0,0)):=(Below.heap_setCell w6 ⟨w5.heap.size,8,none⟩ _ rb (by show ¬rb=w5.heap.size;omega)).trans f3;have hld:=LdP_run g2 (by rw [←hcs'];rfl);have hst2:=StP_run (cs:=cs') g3 rfl (by rw [←hcs'];rfl) (by rw [←hcs'];exact rpP_one ..)
     have HE:Hid (((w6.setCell ⟨w5.heap.size,8,none⟩ (.int .i64 P)).setRow rb cs').heap[rb]?=some (.cells cs' 33 (0,0))∧cs'.size=13∧OpE w d FD D0 L N (.returned (.tuple #[.agg cs',.int .i64 0])) ((w6.setCell ⟨w5.heap.size,8,none⟩ (.int .i64 P)).setRow rb cs')):=by
      have hc8:Ch w5.heap.size (fun x=>x=rb) w5 ((w6.setCell ⟨w5.heap.size,8,none⟩ (.int .i64 P)).setRow rb cs'):=((Ch.of (fun x=>x=rb) f4).setCell (p:=⟨w5.heap.size,8,none⟩) (.inl (Nat.le_refl _)) _).setRow (.inr rfl) _;obtain ⟨q1,q2⟩:=open_fin (w:=w) (by omega) H4.out.2.1 H4.out.2.2.2.1 HD.out.2.2.2 hdv hst hc8;obtain ⟨o1,-⟩:=oa_two HC.out.2.2.2.2 (by omega) HC.out.2.2.2.1 HOK.out.2 HC.out.1 HC.out.2.1 HOK.out.1;obtain ⟨o1,o2⟩:=o1 r hsu;rw [rdK_add] at q1;refine ⟨setRow_heap _ _ _ _ _ _ g3,by rw [←hcs'];rfl,.inl ⟨o1,_,rfl,2+k,FD',?_,by omega,q1,told_two H3.out.2.1 htold,q2⟩⟩
      have hrep2:=RepP.keep (G':=fun k=>FD k∨w.heap.size≤k) hrep hc8.size (fun g hg _ hl=>hc8.block g hl (fun e=>by
       have:=H4.out.2.2.2.1;rcases hg with h|h
       ·have:=HD.out.2.2.2 g h;omega
       ·omega)) (fun g hg=>by
       have:=H4.out.2.2.2.2;rcases hg with h|h
       ·exact .inl h
       ·right;omega)
      rw [o2];have:=hrep2.place P;rw [hcs'] at this;exact this
     rw [hcs];clear hrep hrest hdv htold hst hsu hk f2 f3 f4 g2 g3 hr5 hcs hcs' hw4 H3;go_wp2;refine bodyPost_ret (results_rowtmp rfl _ _ rb _ _ (0,0) _ rfl HE.out.1 Tryz.underlying33 rfl (by rw [HE.out.2.1];kernel_rfl)) rfl ?_;exact HE.out.2.2
    ·have hr5:=(hst.1.block rb H4.out.2.2.2.1 hFb.2).trans H4.out.2.2.1;obtain ⟨f1,f2,f3,f4⟩:=fill_new (cs:=rpt0) hr5 rfl (by rw [rpt0_lit];simp [Value.oneCell']);obtain ⟨w6,hw6⟩:∃w6,(w5.alloc (.cells rpt0 33)).setRow w5.heap.size rpt0=w6:=⟨_,rfl⟩;rw [hw6] at f1 f2 f3 f4;have hr5l:=heap_lt hr5;have hld:=LdP_run f2 rfl;have hst2:=StP_run (cs:=rpt0) f3 rfl rfl (by rw [rpt0_lit];simp [Value.oneCell'])
     have HE:Hid ((w6.setRow rb rpt0).heap[rb]?=some (.cells rpt0 33 (0,0))∧OpE w d FD D0 L N (.returned (.tuple #[.agg rpt0,.int .i64 8])) (w6.setRow rb rpt0)):=by
      have hc8:Ch w5.heap.size (fun x=>x=rb) w5 (w6.setRow rb rpt0):=(Ch.of (fun x=>x=rb) f4).setRow (.inr rfl) _;obtain ⟨q1,q2⟩:=open_fin (w:=w) (by omega) H4.out.2.1 H4.out.2.2.2.1 HD.out.2.2.2 hdv hst hc8;obtain ⟨-,o2⟩:=oa_two HC.out.2.2.2.2 (by omega) HC.out.2.2.2.1 HOK.out.2 HC.out.1 HC.out.2.1 HOK.out.1;rw [rdK_add] at q1;exact ⟨setRow_heap _ _ _ _ _ _ f3,.inr (.inl ⟨o2 hno,rfl,2+k,FD',by omega,q1,told_two H3.out.2.1 htold,q2⟩)⟩
     rw [rpt0_lit] at f1 hld hst2 HE;rw [rpt0_lit];clear hno hdv htold hst hk f2 f3 f4 hr5 hw4 H3;go_wp2;refine bodyPost_ret (results_rowtmp rfl _ _ rb _ _ (0,0) _ rfl HE.out.1 Tryz.underlying33 rfl (by kernel_rfl)) rfl ?_;exact HE.out.2
    ·have hr5:=(hst.1.block rb H4.out.2.2.2.1 hFb.2).trans H4.out.2.2.1;obtain ⟨f1,f2,f3,f4⟩:=fill_new (cs:=rpt0) hr5 rfl (by rw [rpt0_lit];simp [Value.oneCell']);obtain ⟨w6,hw6⟩:∃w6,(w5.alloc (.cells rpt0 33)).setRow w5.heap.size rpt0=w6:=⟨_,rfl⟩;rw [hw6] at f1 f2 f3 f4;have hr5l:=heap_lt hr5;have hld:=LdP_run f2 rfl;have hst2:=StP_run (cs:=rpt0) f3 rfl rfl (by rw [rpt0_lit];simp [Value.oneCell'])
     have HE:Hid ((w6.setRow rb rpt0).heap[rb]?=some (.cells rpt0 33 (0,0))∧OpE w d FD D0 L N (.returned (.tuple #[.agg rpt0,.int .i64 7])) (w6.setRow rb rpt0)):=by
      have hc8:Ch w5.heap.size (fun x=>x=rb) w5 (w6.setRow rb rpt0):=(Ch.of (fun x=>x=rb) f4).setRow (.inr rfl) _;obtain ⟨q1,q2⟩:=open_fin (w:=w) (by omega) H4.out.2.1 H4.out.2.2.2.1 HD.out.2.2.2 hdv hst hc8;rw [rdK_add] at q1;exact ⟨setRow_heap _ _ _ _ _ _ f3,.inr (.inr ⟨rfl,2+k,FD',by omega,q1,told_two H3.out.2.1 htold,(by rw [←rdK_add];exact hnot),q2⟩)⟩
     rw [rpt0_lit] at f1 hld hst2 HE;rw [rpt0_lit];clear hnot hdv htold hst hk f2 f3 f4 hr5 hw4 H3;go_wp2;refine bodyPost_ret (results_rowtmp rfl _ _ rb _ _ (0,0) _ rfl HE.out.1 Tryz.underlying33 rfl (by kernel_rfl)) rfl ?_;exact HE.out.2
   ·have hE88:E=8:=by rw [←HC.out.2.2.1];exact hE8
    subst hE88;have hst:=StP_run (cs:=rpt0) H4.out.2.2.1 rfl rfl (by rw [rpt0_lit];simp [Value.oneCell'])
    have HE:Hid ((w4.setRow rb rpt0).heap[rb]?=some (.cells rpt0 33 (0,0))∧OpE w d FD D0 L N (.returned (.tuple #[.agg rpt0,.int .i64 8])) (w4.setRow rb rpt0)):=by
     refine ⟨setRow_heap w4 _ _ _ _ _ H4.out.2.2.1,.inr (.inl ⟨?_,rfl,2,FD,by omega,?_,H3.out.2.1,H4.out.2.1.setRow (.inl (by omega)) _,fun k hk=>.inl hk⟩)⟩
     ·unfold oaE opX;rw [hE8];rfl
     ·exact H4.out.1.keep (by simp [World.setRow]) (fun g hg=>setRow_other w4 rb g rpt0 (fun e=>hFb.2 (e▸hg)))
    rw [rpt0_lit] at hst HE;clear hE8 H3;go_wp2;refine bodyPost_ret (results_rowtmp rfl _ _ rb _ _ (0,0) _ rfl HE.out.1 Tryz.underlying33 rfl (by kernel_rfl)) rfl ?_;exact HE.out.2
end Go.Proofs.YtjllhcifmfhkmaaGreat.Oct
namespace Go.Proofs.YtjllhcifmfhkmaaGreat.Oct
open Go.RowKit
set_option maxRecDepth 20000 in
theorem rsame_yes {w:World} {S:Sp} {pl h h':Int} {aP aT aS aG bP bT bS bG:Option Addr} {cP cT cS cG dP dT dS dG n1 n2 n3 n4:Nat} {pc:List C4} {tx st pg:List Int}
  (p1:RowC w aP cP pc) (p2:RowC w bP dP pc) (t1:Row w aT cT tx) (t2:Row w bT dT tx) (s1:Row w aS cS st) (s2:Row w bS dS st) (g1:RowI w aG cG pg) (g2:RowI w bG dG pg) (e1:pc.length=n1) (e2:tx.length=n2) (e3:st.length=n3) (e4:pg.length=n4):
  Calls Tryz.prog 39 #[.agg (rpC S pl (.slice aP n1 cP) (.slice aT n2 cT) (.slice aS n3 cS) (.slice aG n4 cG) h),.agg (rpC S pl (.slice bP n1 dP) (.slice bT n2 dT) (.slice bS n3 dS) (.slice bG n4 dG) h')] w fun e w'=>e=.returned (.bool true)∧Below w.heap.size w w':=by
 unfold rpC;go_enter Tryz.func39,Tryz.ntmps39
 go_upto_region 1 with fail
 obtain ⟨w0,hw0⟩:∃w0,((w.alloc (.cells #[.int .i64 S.g,.int .i64 S.p,.int .i64 S.r,.int .i64 S.h,.int .i64 S.b,.int .i64 S.l,.int .i64 S.s,.int .i64 S.f,.int .i64 pl,.slice aP n1 cP,.slice aT n2 cT,.slice aS n3 cS,.slice aG n4 cG,.int .i64 h] 41)).alloc (.cells #[.int .i64 S.g,.int .i64 S.p,.int .i64 S.r,.int .i64 S.h,.int .i64 S.b,.int .i64 S.l,.int .i64 S.s,.int .i64 S.f,.int .i64 pl,.slice bP n1 dP,.slice bT n2 dT,.slice bS n3 dS,.slice bG n4 dG,.int .i64 h'] 41))=w0:=⟨_,rfl⟩;rw [hw0]
 have HX:Hid (Below w.heap.size w w0∧w0.heap.size=w.heap.size+2∧w0.heap[w.heap.size]?=some (.cells (rpC S pl (.slice aP n1 cP) (.slice aT n2 cT) (.slice aS n3 cS) (.slice aG n4 cG) h) 41 (0,0))∧w0.heap[w.heap.size+1]?=some (.cells (rpC S pl (.slice bP n1 dP) (.slice bT n2 dT) (.slice bS n3 dS) (.slice bG n4 dG) h') 41 (0,0))):=by
  rw [←hw0];exact ⟨((Below.refl _ w).alloc (Nat.le_refl _) _).alloc (by simp) _,by simp,heap_alloc2_old w _ _,heap_alloc2_new w _ _⟩
 have HR:Hid ((RowC w aP cP pc∧RowC w bP dP pc∧RowI w aG cG pg∧RowI w bG dG pg)∧Row w aT cT tx∧Row w bT dT tx∧Row w aS cS st∧Row w bS dS st):=⟨⟨p1,p2,g1,g2⟩,t1,t2,s1,s2⟩;have HL:Hid (pc.length=n1∧pg.length=n4):=⟨e1,e4⟩;obtain ⟨ra,hra⟩:∃ra,w.heap.size=ra:=⟨_,rfl⟩;have HRA:Hid (w.heap.size=ra):=hra
 have key:∀w1,Below w0.heap.size w0 w1→(∀i,w1.cell? ⟨ra,i,none⟩=(rpC S pl (.slice aP n1 cP) (.slice aT n2 cT) (.slice aS n3 cS) (.slice aG n4 cG) h)[i]?)∧(∀i,w1.cell? ⟨ra+1,i,none⟩=(rpC S pl (.slice bP n1 dP) (.slice bT n2 dT) (.slice bS n3 dS) (.slice bG n4 dG) h')[i]?)∧Below w.heap.size w w1:=fun w1 hb=>by
  have hs:=HX.out.2.1;rw [←hra];exact ⟨fun i=>cell_of_row w1 _ _ _ _ (0,0) ((hb.block _ (by omega)).trans HX.out.2.2.1),fun i=>cell_of_row w1 _ _ _ _ (0,0) ((hb.block _ (by omega)).trans HX.out.2.2.2),HX.out.1.trans (hb.mono HX.out.1.size)⟩
 rw [hra];have HK:Hid _:=key;have m1:=Nat.le_trans p1.2.1 p1.2.2.1;have m2:=Nat.le_trans t1.2.1 t1.2.2.1;have m3:=Nat.le_trans s1.2.1 s1.2.2.1;have m4:=Nat.le_trans g1.1 g1.2.1;rw [e1] at m1;rw [e2] at m2;rw [e3] at m3;rw [e4] at m4;unfold maxLen at m1 m2 m3 m4;obtain ⟨ka,kb,-⟩:=key w0 (Below.refl _ _);have a0:w0.cell? ⟨ra,0,none⟩=some (.int .i64 S.g):=by rw [ka];rfl
 have a1:w0.cell? ⟨ra,1,none⟩=some (.int .i64 S.p):=by rw [ka];rfl
 have a2:w0.cell? ⟨ra,2,none⟩=some (.int .i64 S.r):=by rw [ka];rfl
 have a3:w0.cell? ⟨ra,3,none⟩=some (.int .i64 S.h):=by rw [ka];rfl
 have a4:w0.cell? ⟨ra,4,none⟩=some (.int .i64 S.b):=by rw [ka];rfl
 have a5:w0.cell? ⟨ra,5,none⟩=some (.int .i64 S.l):=by rw [ka];rfl
 have a6:w0.cell? ⟨ra,6,none⟩=some (.int .i64 S.s):=by rw [ka];rfl
 have a7:w0.cell? ⟨ra,7,none⟩=some (.int .i64 S.f):=by rw [ka];rfl
 have a8:w0.cell? ⟨ra,8,none⟩=some (.int .i64 pl):=by rw [ka];rfl
 have a9:w0.cell? ⟨ra,9,none⟩=some (.slice aP n1 cP):=by rw [ka];rfl
 have a10:w0.cell? ⟨ra,10,none⟩=some (.slice aT n2 cT):=by rw [ka];rfl
 have a11:w0.cell? ⟨ra,11,none⟩=some (.slice aS n3 cS):=by rw [ka];rfl
 have a12:w0.cell? ⟨ra,12,none⟩=some (.slice aG n4 cG):=by rw [ka];rfl
 have b0:w0.cell? ⟨ra+1,0,none⟩=some (.int .i64 S.g):=by rw [kb];rfl
 have b1:w0.cell? ⟨ra+1,1,none⟩=some (.int .i64 S.p):=by rw [kb];rfl
 have b2:w0.cell? ⟨ra+1,2,none⟩=some (.int .i64 S.r):=by rw [kb];rfl
 have b3:w0.cell? ⟨ra+1,3,none⟩=some (.int .i64 S.h):=by rw [kb];rfl
 have b4:w0.cell? ⟨ra+1,4,none⟩=some (.int .i64 S.b):=by rw [kb];rfl
 have b5:w0.cell? ⟨ra+1,5,none⟩=some (.int .i64 S.l):=by rw [kb];rfl
 have b6:w0.cell? ⟨ra+1,6,none⟩=some (.int .i64 S.s):=by rw [kb];rfl
 have b7:w0.cell? ⟨ra+1,7,none⟩=some (.int .i64 S.f):=by rw [kb];rfl
 have b8:w0.cell? ⟨ra+1,8,none⟩=some (.int .i64 pl):=by rw [kb];rfl
 have b9:w0.cell? ⟨ra+1,9,none⟩=some (.slice bP n1 dP):=by rw [kb];rfl
 have b10:w0.cell? ⟨ra+1,10,none⟩=some (.slice bT n2 dT):=by rw [kb];rfl
 have b11:w0.cell? ⟨ra+1,11,none⟩=some (.slice bS n3 dS):=by rw [kb];rfl
 have b12:w0.cell? ⟨ra+1,12,none⟩=some (.slice bG n4 dG):=by rw [kb];rfl
 have C1:=same_any aT bT cT dT tx tx w0 (t1.below HX.out.1) (t2.below HX.out.1);rw [e2,show sameB tx tx=true from by unfold sameB;simp] at C1;have HS1:Hid (st.length=n3):=e3;clear hw0 p1 p2 t1 t2 s1 s2 g1 g2 e1 e2 e3 e4 hra key ka kb;go_wp2_with fail
 refine C1.mono ?_;clear C1;rintro e w1 ⟨rfl,hb1⟩;clear a0 a1 a2 a3 a4 a5 a6 a7 a8 a9 a10 a11 a12 b0 b1 b2 b3 b4 b5 b6 b7 b8 b9 b10 b11 b12;obtain ⟨ka,kb,hw1⟩:=HK.out w1 hb1;have a11:w1.cell? ⟨ra,11,none⟩=some (.slice aS n3 cS):=by rw [ka];rfl
 have b11:w1.cell? ⟨ra+1,11,none⟩=some (.slice bS n3 dS):=by rw [kb];rfl
 have C2:=same_any aS bS cS dS st st w1 (HR.out.2.2.2.1.below hw1) (HR.out.2.2.2.2.below hw1);rw [HS1.out,show sameB st st=true from by unfold sameB;simp] at C2;have HB1:Hid (Below w0.heap.size w0 w1):=hb1;clear ka kb hw1 hb1;go_wp2_with fail
 refine C2.mono ?_;clear C2;rintro e w2 ⟨rfl,hb2⟩;clear a11 b11;obtain ⟨ka,kb,hw2⟩:=HK.out w2 (HB1.out.trans (hb2.mono HB1.out.size));have a9:w2.cell? ⟨ra,9,none⟩=some (.slice aP n1 cP):=by rw [ka];rfl
 have b9:w2.cell? ⟨ra+1,9,none⟩=some (.slice bP n1 dP):=by rw [kb];rfl
 have a12:w2.cell? ⟨ra,12,none⟩=some (.slice aG n4 cG):=by rw [ka];rfl
 have b12:w2.cell? ⟨ra+1,12,none⟩=some (.slice bG n4 dG):=by rw [kb];rfl
 have H2:Hid (Below w.heap.size w w2):=hw2;have HP:Hid (RowC w2 aP cP pc∧RowC w2 bP dP pc∧RowI w2 aG cG pg∧RowI w2 bG dG pg):=⟨HR.out.1.1.below hw2,HR.out.1.2.1.below hw2,HR.out.1.2.2.1.below hw2,HR.out.1.2.2.2.below hw2⟩;clear ka kb hw2 hb2 HB1 HR;go_wp2_with fail
 go_loopg [5] n1 (fun gh i wr=>∃k:Nat,k≤n1∧gh=n1-k∧i=.int .i64 (k:Int)∧Hid (Below w2.heap.size w2 wr))
 case atStart=>exact ⟨0,Nat.zero_le _,rfl,rfl,Below.refl _ _⟩
 case round=>
  obtain ⟨k,hk,hgk,rfl,HI⟩:=hrel;have HGK:Hid (gk=n1-k):=hgk;clear hgk;have x9:wr.cell? ⟨ra,9,none⟩=some (.slice aP n1 cP):=(HI.out.cell (p:=⟨ra,9,none⟩) (block_lt_of_cell a9)).trans a9;have y9:wr.cell? ⟨ra+1,9,none⟩=some (.slice bP n1 dP):=(HI.out.cell (p:=⟨ra+1,9,none⟩) (block_lt_of_cell b9)).trans b9;by_cases hlt:k<n1
  ·have hpl:0<pc.length:=by have:=HL.out.1;omega
   obtain ⟨p1,o1,rfl⟩:=HP.out.1.some' hpl;obtain ⟨p2,o2,rfl⟩:=HP.out.2.1.some' hpl;obtain ⟨u0,u1,u2,u3⟩:=(HP.out.1.below HI.out).cells k (by have:=HL.out.1;omega);obtain ⟨v0,v1,v2,v3⟩:=(HP.out.2.1.below HI.out).cells k (by have:=HL.out.1;omega);have l1:=HP.out.1.2.1;have l2:=HP.out.2.1.2.1;rw [HL.out.1] at l1 l2;have l3:=HP.out.1.2.2.1;have l4:=HP.out.2.1.2.2.1;unfold maxLen at l3 l4;obtain ⟨q,hq⟩:∃q,pc.getD k c40=q:=⟨_,rfl⟩;rw [hq] at u0 u1 u2 u3 v0 v1 v2 v3;clear hq;go_wp2_with fail
   go_region
   go_wp2;go_roundg (n1-(k+1))
   case rel=>exact ⟨k+1,by omega,rfl,by go_num,HI.out.drew⟩
   case measure=>have:=HGK.out;omega
  ·obtain rfl:k=n1:=by omega
   have HI2:Hid (Below w2.heap.size w2 wr):=HI.out;clear HI HGK hk hlt;go_wp2_with fail
   go_loopg [6] n4 (fun gh i wx=>∃y:Nat,y≤n4∧gh=n4-y∧i=.int .i64 (y:Int)∧Hid (Below w2.heap.size w2 wx))
   case atStart=>exact ⟨0,Nat.zero_le _,rfl,rfl,HI2.out⟩
   case round=>
    clear HI2 x9 y9;obtain ⟨y,hy,hgk,rfl,HI⟩:=hrel;have HGK:Hid (gk=n4-y):=hgk;clear hgk;have x12:wr.cell? ⟨ra,12,none⟩=some (.slice aG n4 cG):=(HI.out.cell (p:=⟨ra,12,none⟩) (block_lt_of_cell a12)).trans a12;have y12:wr.cell? ⟨ra+1,12,none⟩=some (.slice bG n4 dG):=(HI.out.cell (p:=⟨ra+1,12,none⟩) (block_lt_of_cell b12)).trans b12;by_cases hlt:y<n4
    ·have l1:=HP.out.2.2.1.1;have l2:=HP.out.2.2.2.1;rw [HL.out.2] at l1 l2;have l3:=HP.out.2.2.1.2.1;have l4:=HP.out.2.2.2.2.1;unfold maxLen at l3 l4
     obtain ⟨p1,o1,rfl,u0⟩:∃p o,aG=some ⟨p,o,none⟩∧wr.cell? ⟨p,o+y,none⟩=some (.int .i64 (pg.getD y 0)):=by
      rcases (HP.out.2.2.1.below HI.out).2.2 with h|⟨p,o,e,h⟩
      ·have:=HL.out.2;rw [h] at this;simp at this;omega
      ·exact ⟨p,o,e,h y (by have:=HL.out.2;omega)⟩
     obtain ⟨p2,o2,rfl,v0⟩:∃p o,bG=some ⟨p,o,none⟩∧wr.cell? ⟨p,o+y,none⟩=some (.int .i64 (pg.getD y 0)):=by
      rcases (HP.out.2.2.2.below HI.out).2.2 with h|⟨p,o,e,h⟩
      ·have:=HL.out.2;rw [h] at this;simp at this;omega
      ·exact ⟨p,o,e,h y (by have:=HL.out.2;omega)⟩
     obtain ⟨q,hq⟩:∃q,pg.getD y 0=q:=⟨_,rfl⟩;rw [hq] at u0 v0;clear hq;go_wp2_with fail
     go_region
     go_wp2;go_roundg (n4-(y+1))
     case rel=>exact ⟨y+1,by omega,rfl,by go_num,HI.out.drew⟩
     case measure=>have:=HGK.out;omega
    ·obtain rfl:y=n4:=by omega
     have HE:Hid (Below w.heap.size w wr):=H2.out.trans (HI.out.mono H2.out.size);clear HI HGK hy hlt HP;go_wp2;go_ret
     exact ⟨rfl,HE.out⟩
set_option maxRecDepth 20000 in
theorem lsame_yes {w:World} {F G:Nat→Prop} {B:Nat} {v v':Value} {R:Rp} (h1:RepP F G w v R) (h2:RepIs B w v' R):
  Calls Tryz.prog 16 #[v,v'] w fun e w'=>e=.returned (.bool true)∧Below w.heap.size w w':=by
 obtain ⟨aP,cP,aT,cT,aS,cS,aG,cG,rfl,p1,p2,p3,p4,-⟩:=h1;obtain ⟨bP,dP,bT,dT,bS,dS,bG,dG,rfl,q1,q2,q3,q4,-⟩:=h2;obtain ⟨n1,e1⟩:∃n1,R.pc.length=n1:=⟨_,rfl⟩;obtain ⟨n2,e2⟩:∃n2,R.tx.length=n2:=⟨_,rfl⟩;obtain ⟨n3,e3⟩:∃n3,R.st.length=n3:=⟨_,rfl⟩;obtain ⟨n4,e4⟩:∃n4,R.pg.length=n4:=⟨_,rfl⟩;rw [e1,e2,e3,e4];have C:=fun (w1:World) (hb:Below w.heap.size w w1)=>rsame_yes (w:=w1) (S:=R.s) (pl:=R.pl) (h:=0) (h':=R.h) (p1.below hb) (q1.below hb) (p2.below hb) (q2.below hb) (p3.below hb) (q3.below hb) (p4.below hb) (q4.below hb) e1 e2 e3 e4
 have HC:Hid _:=C;have HB:Hid (Below w.heap.size w ((w.alloc (.cells (rpP R.s R.pl (.slice aP n1 cP) (.slice aT n2 cT) (.slice aS n3 cS) (.slice aG n4 cG)) 33)).alloc (.cells (rpC R.s R.pl (.slice bP n1 dP) (.slice bT n2 dT) (.slice bS n3 dS) (.slice bG n4 dG) R.h) 41))):=((Below.refl _ w).alloc (Nat.le_refl _) _).alloc (by simp) _;have C0:=C _ HB.out;unfold rpP rpC at*;clear C p1 p2 p3 p4 q1 q2 q3 q4 e1 e2 e3 e4 HC;go_enter Tryz.func16,Tryz.ntmps16
 go_wp2_with fail
 refine C0.mono ?_;rintro e w2 ⟨rfl,hb2⟩;have HE:Hid (Below w.heap.size w w2):=HB.out.trans (hb2.mono HB.out.size);clear hb2 HB C0;go_wp2;go_ret
 exact ⟨rfl,HE.out⟩
end Go.Proofs.YtjllhcifmfhkmaaGreat.Oct
