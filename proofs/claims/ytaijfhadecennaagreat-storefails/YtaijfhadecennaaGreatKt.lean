/- Part of a proof. -/
import Derived.Test.YtaijfhadecennaaGreatEme
import Derived.Maps.AppendAt
open Go.Proofs.Tryz
set_option maxHeartbeats 2000000
namespace Go.Proofs.YtaijfhadecennaaGreat.Oct.Chs
open Go.RowKit Go.Shelf
attribute [local go_sem] Oper.semAt_some
set_option maxRecDepth 100000 in
theorem parts1_nil (n l Bs Bp:Nat) (sv:Value) (pa:Option Addr) (pcap:Nat) (J:World->Prop) (W:World)
  (hcs:W.cell? ⟨Bs,0,none⟩=some sv) (hs:∃a n c,sv=.slice a n c) (hcp:W.cell? ⟨Bp,0,none⟩=some (.slice pa 0 pcap)) (h0:J W):
  CallsIn Fence.wide n prog 181 #[.func (.yield l) #[] #[],.pointer (some ⟨Bs,0,none⟩),.pointer (some ⟨Bp,0,none⟩)] W fun e W'=>(∃v,e=.returned v)/\J W':=by
 obtain ⟨a,m,c,rfl⟩:=hs;refine callsIn_of_wp func181 rfl trivial ?_ rfl;simp only [ntmps181,xT,qN,yG,Nat.reduceAdd,Nat.reduceSub,Array.replicate_succ,Array.replicate_zero,List.push_toArray,List.append_toArray,xN,List.cons_append]
 gi_wp2
 gi_loopw [10] (fun i wr=>i=.int .i64 0/\J wr) (fun _ _=>0)
 case atStart=>exact ⟨rfl,h0⟩
 case round=>
  obtain ⟨rfl,hJs⟩:=hrel
  gi_wp2
  go_end0
  exact ⟨⟨_,rfl⟩,hJs⟩
theorem parts_in (n:Nat) (a pa:Option Addr) (m cap pm pcap:Nat) (w:World):
  CallsIn Fence.wide n prog 140 #[.slice a m cap,.slice pa pm pcap] w fun e w'=>e=.returned (.func (.func 181) #[] #[.pointer (some ⟨w.heap.size,0,none⟩),.pointer (some ⟨w.heap.size+1,0,none⟩)])/\w'=(w.alloc (.cells #[.slice a m cap] 32)).alloc (.cells #[.slice pa pm pcap] 54):=by
 refine callsIn_of_wp func140 rfl trivial ?_ rfl;simp only [ntmps140,xT,qN,yG,Nat.reduceAdd,Nat.reduceSub,Array.replicate_succ,Array.replicate_zero,List.push_toArray,List.append_toArray,xN,List.cons_append]
 gi_wp2
 go_ret
 exact ⟨by simp,rfl⟩
theorem PgL.keepC {base:Nat} {W W':World} {v:Value} {L:List (List Int)} (h:PgL base W v L) (hk:∀(k:Nat) (cur:Array Value) (t:TypeId) (fr:Nat × Nat),W.heap[k]?=some (Obj.cells cur t fr)->(t=5\/t=32)->W'.heap[k]?=W.heap[k]?):PgL base W' v L:=by
 obtain ⟨vs,h1,h2⟩:=h
 have keep:∀{e:TypeId} {n:Nat} {u:Value} {xs:List Value},(e=5\/e=32)->W.ownsRow base e 1 u n xs->W'.ownsRow base e 1 u n xs:=fun he ho=>by
  refine yQ ho fun g hg=>?_
  rcases ho.2 with ⟨rfl,_⟩|⟨g',cap,cur,rfl,_,hgb,_⟩
  ·simp [Value.ownBlock] at hg
  ·obtain rfl:g'=g:=by simpa [Value.ownBlock] using hg
   exact hk _ _ _ _ hgb he
 refine ⟨vs,keep (.inr rfl) h1,fun i hi=>?_⟩;obtain ⟨g,c,e,ho,hn⟩:=h2 i hi;exact ⟨g,c,e,keep (.inl rfl) ho,hn⟩
theorem UB {w:World} {p q:Nat} {u v:Value} (hne:p≠q) (h4:(w.cell? ⟨p,0,none⟩).isSome=true) (h5:(w.cell? ⟨q,0,none⟩).isSome=true):
  ((w.setCell ⟨p,0,none⟩ u).setCell ⟨q,0,none⟩ v).cell? ⟨p,0,none⟩=some u/\((w.setCell ⟨p,0,none⟩ u).setCell ⟨q,0,none⟩ v).cell? ⟨q,0,none⟩=some v:=by
 refine ⟨?_,World.cell?_setCell_same' _ _ _ ?_⟩
 ·rw [World.cell?_setCell_other _ _ _ _ (fun e=>hne (by cases e;rfl))];exact World.cell?_setCell_same' _ _ _ h4
 ·rw [World.cell?_setCell_other _ _ _ _ (fun e=>hne (by cases e;rfl))];exact h5
set_option maxRecDepth 100000 in
theorem Cut_bad (a:Option Addr) (cap:Nat) (zs:List Int) (pa:Option Addr) (pcap:Nat) (pg:List Int) (w:World) (hp:RowI w pa pcap pg) (hz:zs.length<=1000000) (h:pg.length≠ned zs.length\/ctB pg=false):
  Calls prog 94 #[.slice a zs.length cap,.slice pa pg.length pcap] w (CtR w zs pg):=by
 have hnd:=fun w=>Need_v zs.length w (by omega) (by omega)
 rw [YJ] at hnd
 have HE:Hid (ctE zs pg=1):=by
  show ctE zs pg=1;unfold ctE;rcases h with h|h
  ·rw [if_neg h]
  ·rw [h];split<;>rfl
 have HN:Hid (∀w,Calls prog 90 #[.int .i64 zs.length] w fun e w'=>e=.returned (.int .i64 (ned zs.length))/\w=w'):=hnd;clear hnd;by_cases hlen:pg.length=ned zs.length
 ·have hb:ctB pg=false:=h.resolve_left (fun e=>e hlen);have hmh:=fun w hp=>vX pa pcap pg w hp false hb
  have HM:Hid _:=hmh;have HP:Hid (RowI w pa pcap pg):=hp;have hne:((pg.length:Int) !=(ned zs.length:Int))=false:=by simp;omega
  clear h hlen hb hmh hp;go_enter func94,ntmps94
  go_wp2_with (first|(go_at_call 90;refine (HN.out _).mono ?_;rintro e w1 ⟨rfl,rfl⟩)|(go_at_call 139;refine (HM.out _ (HP.out.below (((Below.refl _ w).alloc (jB _) _).alloc (by simp) _))).mono ?_;rintro e w1 ⟨rfl,hb1⟩;have hsz:((w.alloc (.cells #[.slice none 0 0] 51)).alloc (.cells #[.int .i64 0] 25)).heap.size=w.heap.size+2:=(by simp);have c4:w1.cell? ⟨w.heap.size,0,none⟩=some (.slice none 0 0):=(hb1.cell (p:=⟨w.heap.size,0,none⟩) (by show w.heap.size<_;omega)).trans (by simp);have c5:w1.cell? ⟨w.heap.size+1,0,none⟩=some (.int .i64 0):=(hb1.cell (p:=⟨w.heap.size+1,0,none⟩) (by show w.heap.size+1<_;omega)).trans (by simp);have f4:w1.frozen? ⟨w.heap.size,0,none⟩=false:=(hb1.frozen (p:=⟨w.heap.size,0,none⟩) (by show w.heap.size<_;omega)).trans (by simp);have f5:w1.frozen? ⟨w.heap.size+1,0,none⟩=false:=(hb1.frozen (p:=⟨w.heap.size+1,0,none⟩) (by show w.heap.size+1<_;omega)).trans (by simp);have HB1:Hid (Below w.heap.size w w1):=((((Below.refl _ w).alloc (jB _) _).alloc (by simp) _).trans (hb1.mono (by omega)));clear hb1 hsz))
  obtain ⟨q4,q5⟩:=UB (w:=w1) (p:=w.heap.size) (q:=w.heap.size+1) (u:=.slice none 0 0) (v:=.int .i64 1) (by omega) (by rw [c4];rfl) (by rw [c5];rfl);refine bodyPost_ret (v:=.tuple #[.slice none 0 0,.int .i64 1]) (by simp [results,Tryz.results94,go_sem,q4,q5]) rfl ?_;exact CtR.no HE.out (by omega) ((HB1.out.setCell (p:=⟨w.heap.size,0,none⟩) (jB _) _).setCell (p:=⟨w.heap.size+1,0,none⟩) (Nat.le_succ _) _)
 ·have hne:((pg.length:Int) !=(ned zs.length:Int))=true:=by simp;omega
  clear h hlen;go_enter func94,ntmps94
  go_wp2_with (go_at_call 90;refine (HN.out _).mono ?_;rintro e w1 ⟨rfl,rfl⟩)
  refine bodyPost_ret (v:=.tuple #[.slice none 0 0,.int .i64 1]) (by simp [results,Tryz.results94,go_sem]) rfl ?_;exact CtR.no HE.out (by omega) (((Below.refl _ w).alloc (jB _) _).alloc (by simp) _)
end Go.Proofs.YtaijfhadecennaaGreat.Oct.Chs
namespace Go.Proofs.YtaijfhadecennaaGreat.Oct.Chs
open Go.RowKit Go.Shelf
attribute [local go_sem] Oper.semAt_some
theorem prt_row {W:World} {b off cap:Nat} {zs:List Int} (h:Row W (some ⟨b,off,none⟩) cap zs) (k:Nat) (hk:k*244<=zs.length):Row W (some ⟨b,off+k*244,none⟩) (cap-k*244) (prt zs k):=by
 have hc:=h.2.1;by_cases h2:244<=zs.length-k*244
 ·exact (h.drop' (k*244) hk).take' 244 (cap-k*244) (by rw [qC];omega) (by omega) (jB _)
 ·unfold prt;rw [qR (by rw [qC];omega)];exact h.drop' (k*244) hk
def InvC (w0:World) (n₀ B4 B5 Bx Bp g0 n:Nat) (pv:Value) (L:List (List Int)) (W:World):Prop:=
 Boxed W Bx 51 (.slice (some ⟨g0,0,none⟩) L.length n)/\PgL n₀ W (.slice (some ⟨g0,0,none⟩) L.length n) L/\Boxed W B4 51 (.slice none 0 0)/\Boxed W B5 25 (.int .i64 0)/\Below n₀ w0 W/\Boxed W Bp 54 pv
theorem InvC.ownFrom {β:Type} {w0:World} {n₀ B4 B5 Bx Bp g0 n B:Nat} {pv:Value} (f:β->List (List Int)) (hn:n₀<=w0.heap.size) (hB:n₀<=B):OwnFrom B (fun s W=>InvC w0 n₀ B4 B5 Bx Bp g0 n pv (f s) W):=by
 rintro s X Y row ⟨h1,h2,h3,h4,h5,h6⟩ hg hr
 have kb:∀{Z:Nat} {t:TypeId} {v:Value},Boxed X Z t v->Boxed Y Z t v:=fun h=>h.kept hg fun e=>by
  obtain ⟨_,o,ho,hc⟩:=hr _ e.symm;rw [show X.heap[_]?=_ from h] at ho;cases ho;cases hc
 refine ⟨kb h1,PgL.keepC h2 fun k cur t fr hk _=>?_,kb h3,kb h4,h5.grown hg (jP hn h5.size) (fun k e=>jP hB (hr k e).1),kb h6⟩;refine hg.block k (yR hk) fun e=>?_
 obtain ⟨_,o,ho,hc⟩:=hr _ e.symm;rw [hk] at ho;cases ho;cases hc
theorem InvC.below {w0 W W2:World} {n₀ B4 B5 Bx Bp g0 n:Nat} {pv:Value} {L:List (List Int)} (h:InvC w0 n₀ B4 B5 Bx Bp g0 n pv L W) (hn:n₀<=w0.heap.size) (hb:Below W.heap.size W W2):InvC w0 n₀ B4 B5 Bx Bp g0 n pv L W2:=by
 obtain ⟨h1,h2,h3,h4,h5,h6⟩:=h;have kb:∀{Z:Nat} {t:TypeId} {v:Value},Boxed W Z t v->Boxed W2 Z t v:=fun h=>(hb.block _ h.lt).trans h
 exact ⟨kb h1,h2.below hb,kb h3,kb h4,h5.trans (hb.mono (jP hn h5.size)),kb h6⟩
theorem keeps_below {W W2:World} (h:Below W.heap.size W W2):KeepsOthers W W2:=⟨h.size,fun k _ hk _=>(h.block k (yR hk)).trans hk⟩
theorem InvC.more {w0 W2 w1:World} {n₀ B4 B5 Bx Bp g0 n q c k:Nat} {pv:Value} {L:List (List Int)} {Z:List Int} {tmp:Obj} {vs:List Value} (h1:Boxed W2 Bx 51 (.slice (some ⟨g0,0,none⟩) L.length n)) (hrow:W2.ownsRow n₀ 32 1 (.slice (some ⟨g0,0,none⟩) L.length n) L.length vs) (hin:∀i,i<L.length->∃g c,vs[i]?=some (.slice (some ⟨g,0,none⟩) (L.getD i []).length c)/\Own n₀ W2 (.slice (some ⟨g,0,none⟩) (L.getD i []).length c) (L.getD i [])/\(Value.slice (some ⟨g0,0,none⟩) L.length n).ownBlock≠some g)
  (h3:Boxed W2 B4 51 (.slice none 0 0)) (h4:Boxed W2 B5 25 (.int .i64 0)) (h5:Below n₀ w0 W2) (h6:Boxed W2 Bp 54 pv) (hn₀:n₀<=w0.heap.size) (hx:n₀<=Bx)
  (hd4:B4≠Bx) (hd6:Bp≠Bx) (hL:L.length=k) (hZ:Z.length=256) (ho:Own n₀ W2 (.slice (some ⟨q,0,none⟩) 256 c) Z) (hq:g0≠q)
  (hown':w1.ownsRow n₀ 32 1 (.slice (some ⟨g0,0,none⟩) (k+1) n) (k+1) (vs++[.slice (some ⟨q,0,none⟩) 256 c])) (hgrow:(W2.alloc tmp).grownBy w1 (some g0)):
  InvC w0 n₀ B4 B5 Bx Bp g0 n pv (L++[Z]) (w1.setCell ⟨Bx,0,none⟩ (.slice (some ⟨g0,0,none⟩) (k+1) n))/\KeepsOthers W2 (w1.setCell ⟨Bx,0,none⟩ (.slice (some ⟨g0,0,none⟩) (k+1) n))/\Kp n₀ Bp W2 (w1.setCell ⟨Bx,0,none⟩ (.slice (some ⟨g0,0,none⟩) (k+1) n))/\Boxed w1 Bx 51 (.slice (some ⟨g0,0,none⟩) k n):=by
 have hxl:vs.length=L.length:=by have:=hrow.1;simpa using this
 obtain ⟨e1,e2,e3,e4,e5⟩:=Boxed.appended h1 (by decide) hrow (jP hn₀ h5.size) hx hown' hgrow;subst hL
 have hk:∀{Z':Nat} {t:TypeId} {v:Value},Boxed W2 Z' t v->t≠32->Z'≠Bx->Boxed (w1.setCell ⟨Bx,0,none⟩ (.slice (some ⟨g0,0,none⟩) (L.length+1) n)) Z' t v:=fun h ht hne=>by
  have hb1:Boxed w1 _ _ _:=(h.alloc tmp).kept hgrow (h.not_row ht hrow);exact hb1.kept (grownBy_setCell' w1 Bx _) (fun e=>hne (by cases e;rfl))
 have hpg:PgL n₀ w1 (.slice (some ⟨g0,0,none⟩) (L.length+1) n) (L++[Z]):=PgL.grown hin hxl hZ ho (fun e=>hq (by simpa [Value.ownBlock] using e)) hown' hgrow (.inl rfl);have k6:=hk h6 (by decide) hd6;refine ⟨⟨by rw [jN];exact e2,?_,hk h3 (by decide) hd4,hk h4 (by decide) ?_,h5.trans e5,k6⟩,e4,⟨e5,k6.trans (show W2.heap[Bp]?=_ from h6).symm⟩,e1⟩
 ·rw [jN];refine PgL.keepC hpg fun k' cur t fr hk' ht=>Below.heap_setCell _ _ _ _ fun e=>?_
  subst e;rw [show w1.heap[_]?=_ from e1] at hk';cases hk';rcases ht with ht|ht<;>cases ht
 ·intro e;subst e;have:=(show W2.heap[B5]?=_ from h1).symm.trans h4;cases this
end Go.Proofs.YtaijfhadecennaaGreat.Oct.Chs
namespace Go.Proofs.YtaijfhadecennaaGreat.Oct.Chs
open Go.RowKit Go.Shelf
attribute [local go_sem] Oper.semAt_some
set_option maxRecDepth 100000 in
theorem Cut_some (b off cap:Nat) (zs:List Int) (pb po pcap:Nat) (pg:List Int) (w:World) (hr:Row w (some ⟨b,off,none⟩) cap zs) (hp:RowI w (some ⟨pb,po,none⟩) pcap pg) (hz:zs.length<=1000000) (hl:pg.length=ned zs.length) (hb:ctB pg=true) (h1:0<pg.length):
  Calls prog 94 #[.slice (some ⟨b,off,none⟩) zs.length cap,.slice (some ⟨pb,po,none⟩) pg.length pcap] w (CtR w zs pg):=by
 have hpl:pg.length<=1000000:=by unfold ned at hl;omega
 have hnd:=fun w=>Need_v zs.length w (by omega) (by omega)
 rw [YJ,<-hl] at hnd;have HN:Hid (∀w,Calls prog 90 #[.int .i64 zs.length] w fun e w'=>e=.returned (.int .i64 pg.length)/\w=w'):=hnd;have HE:Hid (ctE zs pg=0):=ctE_ok hl (ctB_iff.1 hb) (by omega);have HOK:Hid (CtOk pg):=ctB_iff.1 hb;have HM:Hid (∀w,RowI w (some ⟨pb,po,none⟩) pcap pg->Calls prog 139 #[.slice (some ⟨pb,po,none⟩) pg.length pcap] w fun e w'=>e=.returned (.bool true)/\Below w.heap.size w w'):=fun w hp=>vX _ pcap pg w hp true hb
 have HP:Hid (RowI w (some ⟨pb,po,none⟩) pcap pg):=hp;have HR:Hid (Row w (some ⟨b,off,none⟩) cap zs):=hr;have HL:Hid (pg.length=ned zs.length):=hl;obtain ⟨i0,hi0,hz0,hz1,hz2⟩:=info_parts infoPl;clear hnd hl hb hp hr;refine (callsIn_wide (n:=5)).1 ?_;refine callsIn_of_wp_marks func94 rfl trivial ?_ rfl;simp only [ntmps94,xT,qN,yG,Nat.reduceAdd,Nat.reduceSub,Array.replicate_succ,Array.replicate_zero,List.push_toArray,List.append_toArray,xN,List.cons_append]
 gi_wp2_with (first|(refine ⟨trivial,?_⟩;gi_at_call 90;refine (callsIn_wide.2 (HN.out _)).mono ?_;rintro e w1 ⟨rfl,rfl⟩)|(refine ⟨trivial,?_⟩;gi_at_call 139;refine (callsIn_wide.2 (HM.out _ (HP.out.below (((Below.refl _ w).alloc (jB _) _).alloc (by simp) _)))).mono ?_;rintro e w1 ⟨rfl,hb1⟩;have HB1:Hid (Below ((w.alloc (.cells #[.slice none 0 0] 51)).alloc (.cells #[.int .i64 0] 25)).heap.size ((w.alloc (.cells #[.slice none 0 0] 51)).alloc (.cells #[.int .i64 0] 25)) w1):=hb1;clear hb1)|(gi_at_make;refine wpListIn_make_own _ rfl _ _ 51 rfl w1.heap.size 32 i0 (.slice none 0 0) 1 underlying51 hi0 hz0 hz1 .i64 .i64 _ pg.length rfl rfl rfl (by rw [hz2];omega) (by unfold maxLen;omega) (jB _) ?_;intro w2 hown2 hgrow2;have HO2:Hid (w2.ownsRow w1.heap.size 32 1 (.slice (some ⟨w1.heap.size,0,none⟩) 0 pg.length) 0 []):=hown2;have HG2:Hid (w1.grownBy w2 none):=hgrow2;clear hown2 hgrow2)|(refine ⟨trivial,?_⟩;gi_at_call 140;refine (parts_in _ _ _ _ _ _ _ _).mono ?_;rintro e w3 ⟨rfl,rfl⟩))
 have hs0:w.heap.size+2<=w1.heap.size:=by have:=HB1.out.size;simpa using this
 have hs1:w1.heap.size<w2.heap.size:=by have:=(World.ownsRow.lt HO2.out w1.heap.size rfl).2;exact this
 have b4:Boxed w1 w.heap.size 51 (.slice none 0 0):=(HB1.out.block _ (by simp;omega)).trans ((Boxed.new w _ _).alloc _);have b5:Boxed w1 (w.heap.size+1) 25 (.int .i64 0):=(HB1.out.block _ (by simp)).trans (by have:=Boxed.new (w.alloc (.cells #[.slice none 0 0] 51)) 25 (.int .i64 0);rw [World.size_alloc] at this;exact this);have hB2:Below w.heap.size w w2:=((((Below.refl _ w).alloc (jB _) _).alloc (by simp) _).trans (HB1.out.mono (by simp;omega))).grown HG2.out (by omega) (fun k e=>by cases e);obtain ⟨W0,hW0⟩:∃W0,((w2.alloc (Obj.cells #[.slice (some ⟨w1.heap.size,0,none⟩) 0 pg.length] 51)).alloc (Obj.cells #[.slice (some ⟨b,off,none⟩) zs.length cap] 32)).alloc (Obj.cells #[.slice (some ⟨pb,po,none⟩) pg.length pcap] 54)=W0:=⟨_,rfl⟩;have hsz:W0.heap.size=w2.heap.size+3:=by rw [<-hW0];simp
 have B4:Boxed W0 w.heap.size 51 (.slice none 0 0):=by rw [<-hW0];exact (((b4.kept HG2.out (by simp)).alloc _).alloc _).alloc _
 have B5:Boxed W0 (w.heap.size+1) 25 (.int .i64 0):=by rw [<-hW0];exact (((b5.kept HG2.out (by simp)).alloc _).alloc _).alloc _
 have Bx:Boxed W0 w2.heap.size 51 (.slice (some ⟨w1.heap.size,0,none⟩) 0 pg.length):=by rw [<-hW0];exact ((Boxed.new w2 _ _).alloc _).alloc _
 have Bs:Boxed W0 (w2.heap.size+1) 32 (.slice (some ⟨b,off,none⟩) zs.length cap):=by
  rw [<-hW0];have:=Boxed.new (w2.alloc (Obj.cells #[.slice (some ⟨w1.heap.size,0,none⟩) 0 pg.length] 51)) 32 (.slice (some ⟨b,off,none⟩) zs.length cap);rw [World.size_alloc] at this;exact this.alloc _
 have Bp:Boxed W0 (w2.heap.size+1+1) 54 (.slice (some ⟨pb,po,none⟩) pg.length pcap):=by
  rw [<-hW0];have:=Boxed.new ((w2.alloc (Obj.cells #[.slice (some ⟨w1.heap.size,0,none⟩) 0 pg.length] 51)).alloc (Obj.cells #[.slice (some ⟨b,off,none⟩) zs.length cap] 32)) 54 (.slice (some ⟨pb,po,none⟩) pg.length pcap);rw [World.size_alloc,World.size_alloc] at this;exact this
 have hB0:Below w.heap.size w W0:=by rw [<-hW0];exact ((hB2.alloc (by omega) _).alloc (by simp;omega) _).alloc (by simp;omega) _
 have hpgl:PgL w.heap.size W0 (.slice (some ⟨w1.heap.size,0,none⟩) 0 pg.length) []:=by
  refine ⟨[],yX (base:=w1.heap.size) ?_ (fun g e=>by cases e;show w.heap.size<=w1.heap.size;omega),fun i hi=>by simp at hi⟩;rw [<-hW0];exact ((HO2.out.alloc _).alloc _).alloc _
 have hbz:b<w.heap.size:=block_lt_of_cell (HR.out.cells 0 (by have:=HL.out;unfold ned at this;omega))
 have hpbz:pb<w.heap.size:=by
  obtain ⟨pb',po',e,c⟩:=HP.out.at' 0 h1;cases e;exact block_lt_of_cell c
 rw [hW0];clear b4 b5 hB2 hW0 HB1 HO2 HG2 HN HM;have hK0:pg.length*24<=140737488355328:=by omega
 refine wpIn_rangeFunc_ownG (α:={k:Nat // k<pg.length}) (encs:=enc b off cap zs pg) (Kp:=Kp w.heap.size (w2.heap.size+1+1)) (S:=fun ys=>ys.map (·.1)=List.range pg.length) (Sp:=fun _=>True) (N:=pg.length) (w0:=W0) rfl (by omega) (gf:=181) (lb:= #[.pointer (some ⟨w2.heap.size+1,0,none⟩),.pointer (some ⟨w2.heap.size+1+1,0,none⟩)]) rfl trivial (enters_of func181 (by kernel_rfl) rfl)
  ?seq (fun h k=>⟨h.1.trans k.1,k.2.trans h.2⟩) ?kb (Below.refl _ _) (fun _=>rfl)
  (fun pre W=>InvC w w.heap.size w.heap.size (w.heap.size+1) w2.heap.size (w2.heap.size+1+1) w1.heap.size pg.length (.slice (some ⟨pb,po,none⟩) pg.length pcap) (pre.map fun k=>sealL (cpg zs pg k.1)) W)
  (fun _ _ _=>False)
  (InvC.ownFrom _ (jB _) (by omega))
  (fun _ _ _ _ _ hs _ _=>hs)
  ⟨Bx,hpgl,B4,B5,hB0,Bp⟩
  (fun x=>{tmps:= #[Value.slice (some ⟨b,off,none⟩) zs.length cap,Value.slice (some ⟨pb,po,none⟩) pg.length pcap,undef,undef,Value.pointer (some ⟨w.heap.size,0,none⟩),Value.pointer (some ⟨w.heap.size+1,0,none⟩),Value.pointer (some ⟨w2.heap.size,0,none⟩),
   .slice (some ⟨b,off+x.1*244,none⟩) (prt zs x.1).length (cap-x.1*244),.int .i64 (nxt pg x.1),undef,undef,
   Value.slice (some ⟨pb,po,none⟩) pg.length pcap,Value.int IntKind.i64 pg.length,Value.slice (some ⟨b,off,none⟩) zs.length cap,Value.int IntKind.i64 zs.length,Value.int IntKind.i64 pg.length,Value.bool false,Value.bool false,Value.slice (some ⟨pb,po,none⟩) pg.length pcap,Value.bool true,Value.bool false,Value.bool false,Value.slice (some ⟨b,off,none⟩) zs.length cap,Value.int IntKind.i64 zs.length,Value.bool (decide (1048576<(zs.length:Int))),Value.slice (some ⟨pb,po,none⟩) pg.length pcap,Value.int IntKind.i64 pg.length,Value.slice (some ⟨w1.heap.size,0,none⟩) 0 pg.length,Value.slice (some ⟨b,off,none⟩) zs.length cap,Value.slice (some ⟨pb,po,none⟩) pg.length pcap,
   Value.func (Fn.func 181) #[] #[Value.pointer (some ⟨w2.heap.size+1,0,none⟩),Value.pointer (some ⟨w2.heap.size+1+1,0,none⟩)],
   .slice (some ⟨b,off+x.1*244,none⟩) (prt zs x.1).length (cap-x.1*244),.int .i64 (nxt pg x.1),undef,undef,undef,undef,undef,undef,undef,undef,undef,undef,undef,undef,undef,undef],defers:=[]}) ?assign ?body ?done ?stop
 case seq=>
  intro l J Jx W hW hJa _ hY h0;have k1:W.cell? ⟨w2.heap.size+1,0,none⟩=_:=(hW.cell (p:=⟨w2.heap.size+1,0,none⟩) (by show w2.heap.size+1<_;omega)).trans Bs.cell;have k2:W.cell? ⟨w2.heap.size+1+1,0,none⟩=_:=(hW.cell (p:=⟨w2.heap.size+1+1,0,none⟩) (by show w2.heap.size+1+1<_;omega)).trans Bp.cell;have hBW:Below w.heap.size w W:=hB0.trans (hW.mono (by omega));refine (parts1_in 4 (by omega) l _ _ b off cap pb po pcap w.heap.size zs pg J Jx W hJa hY k1 k2 (HR.out.below hBW) (HP.out.below hBW) hpbz HL.out hz h0).mono ?_;rintro e W' ⟨he,hJ|⟨pre,hJx⟩⟩
  ·exact ⟨he,.inl hJ⟩
  ·exact ⟨he,.inr ⟨pre,trivial,hJx⟩⟩
 case kb=>
  exact fun W l o o' hl h hc hw=>⟨belowK_b (w:=W0) (by omega) W l o o' hl h hc hw,World.putObj_heap_other (by omega)⟩
 case assign=>
  intro l x W K hK;simp only [enc]
  gi_wp2
  exact hK
 case body=>
  rintro l pre ⟨k,hk⟩ W hI hlt;have hX:=nxt_in HOK.out k;have hBW:Below w.heap.size w W:=hI.2.2.2.2.1;have hkz:k*244<=zs.length:=by have:=HL.out;unfold ned at this;omega
  have hsc:=seal_c zs pg k _ _ _ _ W (prt_row (HR.out.below hBW) k hkz) (by intro e;cases e) rfl rfl hX.1 hX.2;have HI:Hid (InvC w w.heap.size w.heap.size (w.heap.size+1) w2.heap.size (w2.heap.size+1+1) w1.heap.size pg.length (.slice (some ⟨pb,po,none⟩) pg.length pcap) (pre.map fun k=>sealL (cpg zs pg k.1)) W):=hI;obtain ⟨L,hL⟩:∃L,(pre.map fun k=>sealL (cpg zs pg k.1))=L:=⟨_,rfl⟩;have HL':Hid ((pre.map fun k=>sealL (cpg zs pg k.1))=L):=hL;have hLl:L.length<pg.length:=by rw [<-hL,qU];exact hlt
  clear hlt;rw [hL] at HI;clear hI hX hBW hkz hL;clear B4 B5 Bx Bs Bp hB0 hpgl
  gi_wp2_with (first|(refine ⟨trivial,?_⟩;gi_at_call 141;refine (CallsIn.inRound l (callsIn_wide.2 hsc)).mono ?_;clear hsc;rintro e W2 ⟨q,c,rfl,ho,hb⟩;obtain ⟨h1',⟨vs,hrow,hin⟩,h3',h4',h5',h6'⟩:=HI.out.below (jB _) hb;have hn2:w.heap.size<=W2.heap.size:=h5'.size;have c6:=h1'.cell;have HIN:Hid _:=hin;have H1:Hid _:=h1';have H3:Hid _:=h3';have H4:Hid _:=h4';have H5:Hid _:=h5';have H6:Hid _:=h6';have HOW:Hid (Own w.heap.size W2 (.slice (some ⟨q,0,none⟩) 256 c) (sealL (cpg zs pg k))):=ho.weaken HI.out.2.2.2.2.1.size;have HQ:Hid (W.heap.size<=q):=ho.lt2.1;have HBW:Hid (Below W.heap.size W W2):=hb;clear h1' hin h3' h4' h5' h6' ho hb)|(gi_at_builtin;refine wpListIn_append_fits _ rfl _ _ 51 rfl w.heap.size 32 i0 1 underlying51 hi0 hz1 w1.heap.size L.length pg.length vs rfl (hrow.alloc _) ⟨W2.heap.size,0,none⟩ 1 1 [.slice (some ⟨q,0,none⟩) 256 c] rfl rfl (cell_one_new _ _ _) (by simp [Value.oneCell']) (by omega) ?_;intro w5 hown' hgrow;obtain ⟨n1,n2,n3,n4⟩:=InvC.more H1.out hrow HIN.out H3.out H4.out H5.out H6.out (jB _) (by omega) (by omega) (by omega) rfl (uU zs pg k) HOW.out (by have:=HQ.out;have:=(World.ownsRow.lt HI.out.2.1.choose_spec.1 w1.heap.size rfl).2;omega) hown' hgrow;have d6:=n4.cell;have f6:=n4.frozen;have N1:Hid _:=n1;have N2:Hid _:=n2;have N3:Hid _:=n3;clear n1 n2 n3 n4 hown' hgrow))
  refine ⟨((keeps_below HBW.out).trans N2.out).from _,⟨((HBW.out.mono HI.out.2.2.2.2.1.size).trans N3.out.1),N3.out.2.trans ?_⟩,?_⟩
  ·exact HBW.out.block _ HI.out.2.2.2.2.2.lt
  ·dsimp only;rw [qI,HL'.out];exact N1.out
 case done=>
  rintro D ys W hD hS hI hK;obtain ⟨h1',h2',h3',h4',h5',h6'⟩:=hI
  have hys:(ys.map fun k=>sealL (cpg zs pg k.1))=ctL zs pg:=by
   unfold ctL;rw [<-hS,List.map_map];rfl
  rw [hys] at h1' h2';rw [XB] at h1' h2';have c6:=h1'.cell;have c4:=h3'.cell;have c5:=h4'.cell;have f4:=h3'.frozen;have f5:=h4'.frozen;have H1:Hid _:=h1';have H2:Hid _:=h2';have H3:Hid _:=h3';have H4:Hid _:=h4';have H5:Hid _:=h5';clear h1' h2' h3' h4' h5' h6' hys hS B4 B5 Bx Bs Bp hB0 hpgl
  gi_wp2
  have hK':=((KeepsOthers.setCell W ⟨w.heap.size,0,none⟩ (.slice (some ⟨w1.heap.size,0,none⟩) pg.length pg.length)).trans (KeepsOthers.setCell _ ⟨w.heap.size+1,0,none⟩ (.int .i64 0))).same D _ hK rfl;refine ⟨by simp,.inl ⟨_,_,rfl,run_takeDeferred hK',?_⟩⟩;obtain ⟨q4,q5⟩:=UB (w:=W) (p:=w.heap.size) (q:=w.heap.size+1) (u:=.slice (some ⟨w1.heap.size,0,none⟩) pg.length pg.length) (v:=.int .i64 0) (by omega) (by rw [c4];rfl) (by rw [c5];rfl);have r4:=cell_kept q4 (grownBy_putObj' _ D (.deferred none)) (fun r e=>by cases e;exact ⟨_,hK',rfl⟩);have r5:=cell_kept q5 (grownBy_putObj' _ D (.deferred none)) (fun r e=>by cases e;exact ⟨_,hK',rfl⟩);refine ⟨.tuple #[.slice (some ⟨w1.heap.size,0,none⟩) pg.length pg.length,.int .i64 0],by simp [results,Tryz.results94,go_sem,r4,r5],_,by rw [HE.out],?_,?_⟩
  ·rw [show ctZ zs pg=ctL zs pg from if_pos HE.out];refine PgL.keepC (W:=W) H2.out fun k cur t fr hk ht=>?_
   have n1:w.heap.size≠k:=fun e=>by
    subst e;rw [H3.out] at hk;cases hk;rcases ht with ht|ht<;>cases ht
   have n2:w.heap.size+1≠k:=fun e=>by
    subst e;rw [H4.out] at hk;cases hk;rcases ht with ht|ht<;>cases ht
   have n3:D≠k:=fun e=>by
    subst e;rw [hK] at hk;cases hk
   rw [World.putObj_heap_other (fun e=>n3 e.symm),Below.heap_setCell _ _ _ _ (fun e=>n2 e.symm),Below.heap_setCell _ _ _ _ (fun e=>n1 e.symm)]
  ·exact ((H5.out.setCell (p:=⟨w.heap.size,0,none⟩) (jB _) _).setCell (p:=⟨w.heap.size+1,0,none⟩) (Nat.le_succ _) _).trans (belowK_b (w:=W0) (by omega) _ D _ _ hD hK' rfl rfl)
 case stop=>
  rintro D c pre W _ _ h _;exact h.elim
end Go.Proofs.YtaijfhadecennaaGreat.Oct.Chs
namespace Go.Proofs.YtaijfhadecennaaGreat.Oct.Chs
open Go.RowKit Go.Shelf
attribute [local go_sem] Oper.semAt_some
set_option maxRecDepth 100000 in
theorem Cut_nil (a:Option Addr) (cap:Nat) (pa:Option Addr) (pcap:Nat) (w:World) (hp:RowI w pa pcap []):
  Calls prog 94 #[.slice a 0 cap,.slice pa 0 pcap] w (CtR w [] []):=by
 have HN:Hid (∀w,Calls prog 90 #[.int .i64 0] w fun e w'=>e=.returned (.int .i64 0)/\w=w'):=fun w=>Need_v 0 w (by omega) (by omega)
 have HE:Hid (ctE [] []=0):=by show ctE [] []=0;decide
 have HM:Hid (∀w,RowI w pa pcap []->Calls prog 139 #[.slice pa 0 pcap] w fun e w'=>e=.returned (.bool true)/\Below w.heap.size w w'):=fun w hp=>vX _ pcap [] w hp true (by decide)
 have HP:Hid (RowI w pa pcap []):=hp;obtain ⟨i0,hi0,hz0,hz1,hz2⟩:=info_parts infoPl;clear hp;refine (callsIn_wide (n:=5)).1 ?_;refine callsIn_of_wp_marks func94 rfl trivial ?_ rfl;simp only [ntmps94,xT,qN,yG,Nat.reduceAdd,Nat.reduceSub,Array.replicate_succ,Array.replicate_zero,List.push_toArray,List.append_toArray,xN,List.cons_append]
 gi_wp2_with (first|(refine ⟨trivial,?_⟩;gi_at_call 90;refine (callsIn_wide.2 (HN.out _)).mono ?_;rintro e w1 ⟨rfl,rfl⟩)|(refine ⟨trivial,?_⟩;gi_at_call 139;refine (callsIn_wide.2 (HM.out _ (HP.out.below (((Below.refl _ w).alloc (jB _) _).alloc (by simp) _)))).mono ?_;rintro e w1 ⟨rfl,hb1⟩;have HB1:Hid (Below ((w.alloc (.cells #[.slice none 0 0] 51)).alloc (.cells #[.int .i64 0] 25)).heap.size ((w.alloc (.cells #[.slice none 0 0] 51)).alloc (.cells #[.int .i64 0] 25)) w1):=hb1;clear hb1)|(gi_at_make;refine wpListIn_make_own _ rfl _ _ 51 rfl w1.heap.size 32 i0 (.slice none 0 0) 1 underlying51 hi0 hz0 hz1 .i64 .i64 _ 0 rfl rfl rfl (by rw [hz2];omega) (by unfold maxLen;omega) (jB _) ?_;intro w2 hown2 hgrow2;have HO2:Hid (w2.ownsRow w1.heap.size 32 1 (.slice (some ⟨w1.heap.size,0,none⟩) 0 0) 0 []):=hown2;have HG2:Hid (w1.grownBy w2 none):=hgrow2;clear hown2 hgrow2)|(refine ⟨trivial,?_⟩;gi_at_call 140;refine (parts_in _ _ _ _ _ _ _ _).mono ?_;rintro e w3 ⟨rfl,rfl⟩))
 have hs0:w.heap.size+2<=w1.heap.size:=by have:=HB1.out.size;simpa using this
 have hs1:w1.heap.size<w2.heap.size:=by have:=(World.ownsRow.lt HO2.out w1.heap.size rfl).2;exact this
 have b4:Boxed w1 w.heap.size 51 (.slice none 0 0):=(HB1.out.block _ (by simp;omega)).trans ((Boxed.new w _ _).alloc _);have b5:Boxed w1 (w.heap.size+1) 25 (.int .i64 0):=(HB1.out.block _ (by simp)).trans (by have:=Boxed.new (w.alloc (.cells #[.slice none 0 0] 51)) 25 (.int .i64 0);rw [World.size_alloc] at this;exact this);have hB2:Below w.heap.size w w2:=((((Below.refl _ w).alloc (jB _) _).alloc (by simp) _).trans (HB1.out.mono (by simp;omega))).grown HG2.out (by omega) (fun k e=>by cases e);obtain ⟨W0,hW0⟩:∃W0,((w2.alloc (Obj.cells #[.slice (some ⟨w1.heap.size,0,none⟩) 0 0] 51)).alloc (Obj.cells #[.slice a 0 cap] 32)).alloc (Obj.cells #[.slice pa 0 pcap] 54)=W0:=⟨_,rfl⟩;have hsz:W0.heap.size=w2.heap.size+3:=by rw [<-hW0];simp
 have B4:Boxed W0 w.heap.size 51 (.slice none 0 0):=by rw [<-hW0];exact (((b4.kept HG2.out (by simp)).alloc _).alloc _).alloc _
 have B5:Boxed W0 (w.heap.size+1) 25 (.int .i64 0):=by rw [<-hW0];exact (((b5.kept HG2.out (by simp)).alloc _).alloc _).alloc _
 have Bx:Boxed W0 w2.heap.size 51 (.slice (some ⟨w1.heap.size,0,none⟩) 0 0):=by rw [<-hW0];exact ((Boxed.new w2 _ _).alloc _).alloc _
 have Bs:Boxed W0 (w2.heap.size+1) 32 (.slice a 0 cap):=by
  rw [<-hW0];have:=Boxed.new (w2.alloc (Obj.cells #[.slice (some ⟨w1.heap.size,0,none⟩) 0 0] 51)) 32 (.slice a 0 cap);rw [World.size_alloc] at this;exact this.alloc _
 have Bp:Boxed W0 (w2.heap.size+1+1) 54 (.slice pa 0 pcap):=by
  rw [<-hW0];have:=Boxed.new ((w2.alloc (Obj.cells #[.slice (some ⟨w1.heap.size,0,none⟩) 0 0] 51)).alloc (Obj.cells #[.slice a 0 cap] 32)) 54 (.slice pa 0 pcap);rw [World.size_alloc,World.size_alloc] at this;exact this
 have hB0:Below w.heap.size w W0:=by rw [<-hW0];exact ((hB2.alloc (by omega) _).alloc (by simp;omega) _).alloc (by simp;omega) _
 have hpgl:PgL w.heap.size W0 (.slice (some ⟨w1.heap.size,0,none⟩) 0 0) []:=by
  refine ⟨[],yX (base:=w1.heap.size) ?_ (fun g e=>by cases e;show w.heap.size<=w1.heap.size;omega),fun i hi=>by simp at hi⟩;rw [<-hW0];exact ((HO2.out.alloc _).alloc _).alloc _
 rw [hW0];clear b4 b5 hB2 hW0 HB1 HO2 HG2 HN HM
 refine wpIn_rangeFunc_ownG (α:=Unit) (encs:=fun _=> #[.int .i64 0,.int .i64 0]) (Kp:=Kp w.heap.size (w2.heap.size+1+1)) (S:=fun ys=>ys=[]) (Sp:=fun _=>True) (N:=0) (w0:=W0) rfl (by omega) (gf:=181) (lb:= #[.pointer (some ⟨w2.heap.size+1,0,none⟩),.pointer (some ⟨w2.heap.size+1+1,0,none⟩)]) rfl trivial (enters_of func181 (by kernel_rfl) rfl)
  ?seq (fun h k=>⟨h.1.trans k.1,k.2.trans h.2⟩) ?kb (Below.refl _ _) (fun _=>rfl)
  (fun pre W=>InvC w w.heap.size w.heap.size (w.heap.size+1) w2.heap.size (w2.heap.size+1+1) w1.heap.size 0 (.slice pa 0 pcap) (pre.map fun _=>[]) W)
  (fun _ _ _=>False)
  (InvC.ownFrom _ (jB _) (by omega))
  (fun _ _ _ _ _ hs _ _=>hs)
  ⟨Bx,hpgl,B4,B5,hB0,Bp⟩
  (fun _=>{tmps:= #[Value.slice a 0 cap,Value.slice pa 0 pcap,undef,undef,Value.pointer (some ⟨w.heap.size,0,none⟩),Value.pointer (some ⟨w.heap.size+1,0,none⟩),Value.pointer (some ⟨w2.heap.size,0,none⟩),
   .int .i64 0,.int .i64 0,undef,undef,
   Value.slice pa 0 pcap,Value.int IntKind.i64 0,Value.slice a 0 cap,Value.int IntKind.i64 0,Value.int IntKind.i64 0,Value.bool false,Value.bool false,Value.slice pa 0 pcap,Value.bool true,Value.bool false,Value.bool false,Value.slice a 0 cap,Value.int IntKind.i64 0,Value.bool false,Value.slice pa 0 pcap,Value.int IntKind.i64 0,Value.slice (some ⟨w1.heap.size,0,none⟩) 0 0,Value.slice a 0 cap,Value.slice pa 0 pcap,
   Value.func (Fn.func 181) #[] #[Value.pointer (some ⟨w2.heap.size+1,0,none⟩),Value.pointer (some ⟨w2.heap.size+1+1,0,none⟩)],
   .int .i64 0,.int .i64 0,undef,undef,undef,undef,undef,undef,undef,undef,undef,undef,undef,undef,undef,undef],defers:=[]}) ?assign ?body ?done ?stop
 case seq=>
  intro l J Jx W hW hJa _ hY h0;have k1:W.cell? ⟨w2.heap.size+1,0,none⟩=_:=(hW.cell (p:=⟨w2.heap.size+1,0,none⟩) (by show w2.heap.size+1<_;omega)).trans Bs.cell;have k2:W.cell? ⟨w2.heap.size+1+1,0,none⟩=_:=(hW.cell (p:=⟨w2.heap.size+1+1,0,none⟩) (by show w2.heap.size+1+1<_;omega)).trans Bp.cell;refine (parts1_nil 4 l _ _ _ pa pcap (J []) W k1 ⟨_,_,_,rfl⟩ k2 h0).mono ?_;rintro e W' ⟨he,hJ⟩;exact ⟨he,.inl ⟨_,rfl,hJ⟩⟩
 case kb=>
  exact fun W l o o' hl h hc hw=>⟨belowK_b (w:=W0) (by omega) W l o o' hl h hc hw,World.putObj_heap_other (by omega)⟩
 case assign=>
  intro l x W K hK
  gi_wp2
  exact hK
 case body=>
  intro l pre x W hI hlt;omega
 case done=>
  rintro D ys W hD hS hI hK;obtain ⟨h1',h2',h3',h4',h5',h6'⟩:=hI;subst hS;have h1':Boxed W w2.heap.size 51 (.slice (some ⟨w1.heap.size,0,none⟩) 0 0):=h1';have h2':PgL w.heap.size W (.slice (some ⟨w1.heap.size,0,none⟩) 0 0) []:=h2';have c6:=h1'.cell;have c4:=h3'.cell;have c5:=h4'.cell;have f4:=h3'.frozen;have f5:=h4'.frozen;have H1:Hid _:=h1';have H2:Hid _:=h2';have H3:Hid _:=h3';have H4:Hid _:=h4';have H5:Hid _:=h5';clear h1' h2' h3' h4' h5' h6' B4 B5 Bx Bs Bp hB0 hpgl
  gi_wp2
  have hK':=((KeepsOthers.setCell W ⟨w.heap.size,0,none⟩ (.slice (some ⟨w1.heap.size,0,none⟩) 0 0)).trans (KeepsOthers.setCell _ ⟨w.heap.size+1,0,none⟩ (.int .i64 0))).same D _ hK rfl;refine ⟨by simp,.inl ⟨_,_,rfl,run_takeDeferred hK',?_⟩⟩;obtain ⟨q4,q5⟩:=UB (w:=W) (p:=w.heap.size) (q:=w.heap.size+1) (u:=.slice (some ⟨w1.heap.size,0,none⟩) 0 0) (v:=.int .i64 0) (by omega) (by rw [c4];rfl) (by rw [c5];rfl);have r4:=cell_kept q4 (grownBy_putObj' _ D (.deferred none)) (fun r e=>by cases e;exact ⟨_,hK',rfl⟩);have r5:=cell_kept q5 (grownBy_putObj' _ D (.deferred none)) (fun r e=>by cases e;exact ⟨_,hK',rfl⟩);refine ⟨.tuple #[.slice (some ⟨w1.heap.size,0,none⟩) 0 0,.int .i64 0],by simp [results,Tryz.results94,go_sem,r4,r5],_,by rw [HE.out],?_,?_⟩
  ·rw [show ctZ [] []=[] from rfl];refine PgL.keepC (W:=W) H2.out fun k cur t fr hk ht=>?_
   have n1:w.heap.size≠k:=fun e=>by
    subst e;rw [H3.out] at hk;cases hk;rcases ht with ht|ht<;>cases ht
   have n2:w.heap.size+1≠k:=fun e=>by
    subst e;rw [H4.out] at hk;cases hk;rcases ht with ht|ht<;>cases ht
   have n3:D≠k:=fun e=>by
    subst e;rw [hK] at hk;cases hk
   rw [World.putObj_heap_other (fun e=>n3 e.symm),Below.heap_setCell _ _ _ _ (fun e=>n2 e.symm),Below.heap_setCell _ _ _ _ (fun e=>n1 e.symm)]
  ·exact ((H5.out.setCell (p:=⟨w.heap.size,0,none⟩) (jB _) _).setCell (p:=⟨w.heap.size+1,0,none⟩) (Nat.le_succ _) _).trans (belowK_b (w:=W0) (by omega) _ D _ _ hD hK' rfl rfl)
 case stop=>
  rintro D c pre W _ _ h _;exact h.elim
theorem Cut_v (a:Option Addr) (cap:Nat) (zs:List Int) (pa:Option Addr) (pcap:Nat) (pg:List Int) (w:World) (hr:Row w a cap zs) (hp:RowI w pa pcap pg) (hz:zs.length<=1000000):Calls prog 94 #[.slice a zs.length cap,.slice pa pg.length pcap] w (CtR w zs pg):=by
 by_cases hl:pg.length=ned zs.length
 ·cases hb:ctB pg
  ·exact Cut_bad a cap zs pa pcap pg w hp hz (.inr hb)
  ·by_cases h1:0<pg.length
   ·obtain ⟨b,off,rfl⟩:=hr.some' (by unfold ned at hl;omega);obtain ⟨pb,po,rfl,_⟩:=hp.at' 0 h1;exact Cut_some b off cap zs pb po pcap pg w hr hp hz hl hb h1
   ·have e1:pg=[]:=qE (by omega);have e2:zs=[]:=qE (by unfold ned at hl;omega);subst e1;subst e2;exact Cut_nil a cap pa pcap w hp
 ·exact Cut_bad a cap zs pa pcap pg w hp hz (.inl hl)
theorem chC:ChC where
 need:=fun n w h=>(Need_v n w h.1 h.2).mono fun e w' ⟨h1,h2⟩=>⟨h1,by rw [<-h2];exact Below.refl _ _⟩
 cut:=fun a cap zs pa pcap pg w hr _ hp _ hz _=>Cut_v a cap zs pa pcap pg w hr hp hz
 part:=fun a cap zs w hr _ _=>Part_v a cap zs w hr
end Go.Proofs.YtaijfhadecennaaGreat.Oct.Chs
