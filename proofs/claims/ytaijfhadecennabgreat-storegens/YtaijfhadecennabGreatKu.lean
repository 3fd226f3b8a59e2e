/- Part of a proof. -/
import Derived.Test.YtaijfhadecennabGreatKq
import Derived.Maps.AppendAt
import Derived.Test.YtaijfhadecennabGreatEmb
import Derived.Test.YtaijfhadecennabGreatKe
open Go.Proofs.Tryz
set_option maxHeartbeats 4000000
namespace Go.Proofs.YtaijfhadecennabGreat.Oct.Chs
open Go.RowKit Go.Shelf
attribute [local go_sem] Oper.semAt_some
theorem prt_row {W:World} {b off cap:Nat} {zs:List Int} (h:Row W (some ⟨b,off,none⟩) cap zs) (k:Nat) (hk:k*244<=zs.length):Row W (some ⟨b,off+k*244,none⟩) (cap-k*244) (prt zs k):=by
 have hc:=h.2.1;by_cases h2:244<=zs.length-k*244
 ·exact (h.drop' (k*244) hk).take' 244 (cap-k*244) (by rw [qE];omega) (by omega) (jB _)
 ·unfold prt;rw [qP (by rw [qE];omega)];exact h.drop' (k*244) hk
def InvC (w0:World) (n₀ B4 B5 Bx Bp g0 n:Nat) (pv:Value) (L:List (List Int)) (W:World):Prop:=
 Boxed W Bx 50 (.slice (some ⟨g0,0,none⟩) L.length n)/\PgL n₀ W (.slice (some ⟨g0,0,none⟩) L.length n) L/\Boxed W B4 50 (.slice none 0 0)/\Boxed W B5 31 (.int .i64 0)/\Below n₀ w0 W/\Boxed W Bp 38 pv
theorem InvC.ownFrom {β:Type} {w0:World} {n₀ B4 B5 Bx Bp g0 n B:Nat} {pv:Value} (f:β->List (List Int)) (hn:n₀<=w0.heap.size) (hB:n₀<=B):OwnFrom B (fun s W=>InvC w0 n₀ B4 B5 Bx Bp g0 n pv (f s) W):=by
 rintro s X Y row ⟨h1,h2,h3,h4,h5,h6⟩ hg hr
 have kb:∀{Z:Nat} {t:TypeId} {v:Value},Boxed X Z t v->Boxed Y Z t v:=fun h=>h.kept hg fun e=>by
  obtain ⟨_,o,ho,hc⟩:=hr _ e.symm;rw [show X.heap[_]?=_ from h] at ho;cases ho;cases hc
 refine ⟨kb h1,PgL.keepC h2 fun k cur t fr hk _=>?_,kb h3,kb h4,h5.grown hg (jR hn h5.size) (fun k e=>jR hB (hr k e).1),kb h6⟩;refine hg.block k (yO hk) fun e=>?_
 obtain ⟨_,o,ho,hc⟩:=hr _ e.symm;rw [hk] at ho;cases ho;cases hc
theorem InvC.below {w0 W W2:World} {n₀ B4 B5 Bx Bp g0 n:Nat} {pv:Value} {L:List (List Int)} (h:InvC w0 n₀ B4 B5 Bx Bp g0 n pv L W) (hn:n₀<=w0.heap.size) (hb:Below W.heap.size W W2):InvC w0 n₀ B4 B5 Bx Bp g0 n pv L W2:=by
 obtain ⟨h1,h2,h3,h4,h5,h6⟩:=h;have kb:∀{Z:Nat} {t:TypeId} {v:Value},Boxed W Z t v->Boxed W2 Z t v:=fun h=>(hb.block _ h.lt).trans h
 exact ⟨kb h1,h2.below hb,kb h3,kb h4,h5.trans (hb.mono (jR hn h5.size)),kb h6⟩
theorem GJ {W W2:World} (h:Below W.heap.size W W2):KeepsOthers W W2:=⟨h.size,fun k _ hk _=>(h.block k (yO hk)).trans hk⟩
theorem InvC.more {w0 W2 w1:World} {n₀ B4 B5 Bx Bp g0 n q c k:Nat} {pv:Value} {L:List (List Int)} {Z:List Int} {tmp:Obj} {vs:List Value} (h1:Boxed W2 Bx 50 (.slice (some ⟨g0,0,none⟩) L.length n)) (hrow:W2.ownsRow n₀ 22 1 (.slice (some ⟨g0,0,none⟩) L.length n) L.length vs) (hin:∀i,i<L.length->∃g c,vs[i]?=some (.slice (some ⟨g,0,none⟩) (L.getD i []).length c)/\Own n₀ W2 (.slice (some ⟨g,0,none⟩) (L.getD i []).length c) (L.getD i [])/\(Value.slice (some ⟨g0,0,none⟩) L.length n).ownBlock≠some g)
  (h3:Boxed W2 B4 50 (.slice none 0 0)) (h4:Boxed W2 B5 31 (.int .i64 0)) (h5:Below n₀ w0 W2) (h6:Boxed W2 Bp 38 pv) (hn₀:n₀<=w0.heap.size) (hx:n₀<=Bx)
  (hd4:B4≠Bx) (hd6:Bp≠Bx) (hL:L.length=k) (hZ:Z.length=256) (ho:Own n₀ W2 (.slice (some ⟨q,0,none⟩) 256 c) Z) (hq:g0≠q)
  (hown':w1.ownsRow n₀ 22 1 (.slice (some ⟨g0,0,none⟩) (k+1) n) (k+1) (vs++[.slice (some ⟨q,0,none⟩) 256 c])) (hgrow:(W2.alloc tmp).grownBy w1 (some g0)):
  InvC w0 n₀ B4 B5 Bx Bp g0 n pv (L++[Z]) (w1.setCell ⟨Bx,0,none⟩ (.slice (some ⟨g0,0,none⟩) (k+1) n))/\KeepsOthers W2 (w1.setCell ⟨Bx,0,none⟩ (.slice (some ⟨g0,0,none⟩) (k+1) n))/\Kp n₀ Bp W2 (w1.setCell ⟨Bx,0,none⟩ (.slice (some ⟨g0,0,none⟩) (k+1) n))/\Boxed w1 Bx 50 (.slice (some ⟨g0,0,none⟩) k n):=by
 have hxl:vs.length=L.length:=by have:=hrow.1;simpa using this
 obtain ⟨e1,e2,e3,e4,e5⟩:=Boxed.appended h1 (by decide) hrow (jR hn₀ h5.size) hx hown' hgrow;subst hL
 have hk:∀{Z':Nat} {t:TypeId} {v:Value},Boxed W2 Z' t v->t≠22->Z'≠Bx->Boxed (w1.setCell ⟨Bx,0,none⟩ (.slice (some ⟨g0,0,none⟩) (L.length+1) n)) Z' t v:=fun h ht hne=>by
  have hb1:Boxed w1 _ _ _:=(h.alloc tmp).kept hgrow (h.not_row ht hrow);exact hb1.kept (grownBy_setCell' w1 Bx _) (fun e=>hne (by cases e;rfl))
 have hpg:PgL n₀ w1 (.slice (some ⟨g0,0,none⟩) (L.length+1) n) (L++[Z]):=PgL.grown hin hxl hZ ho (fun e=>hq (by simpa [Value.ownBlock] using e)) hown' hgrow (.inl rfl);have k6:=hk h6 (by decide) hd6;refine ⟨⟨by rw [jO];exact e2,?_,hk h3 (by decide) hd4,hk h4 (by decide) ?_,h5.trans e5,k6⟩,e4,⟨e5,k6.trans (show W2.heap[Bp]?=_ from h6).symm⟩,e1⟩
 ·rw [jO];refine PgL.keepC hpg fun k' cur t fr hk' ht=>Below.heap_setCell _ _ _ _ fun e=>?_
  subst e;rw [show w1.heap[_]?=_ from e1] at hk';cases hk';rcases ht with ht|ht<;>cases ht
 ·intro e;subst e;have:=(show W2.heap[B5]?=_ from h1).symm.trans h4;cases this
end Go.Proofs.YtaijfhadecennabGreat.Oct.Chs
namespace Go.Proofs.YtaijfhadecennabGreat.Oct.Chs
open Go.RowKit Go.Shelf
attribute [local go_sem] Oper.semAt_some
set_option maxRecDepth 100000 in
theorem Cut_some (b off cap:Nat) (zs:List Int) (pb po pcap:Nat) (pg:List Int) (w:World) (hr:Row w (some ⟨b,off,none⟩) cap zs) (hp:RowI w (some ⟨pb,po,none⟩) pcap pg) (hz:zs.length<=1000000) (hl:pg.length=ned zs.length) (hb:ctB pg=true) (h1:0<pg.length):
  Calls prog 126 #[.slice (some ⟨b,off,none⟩) zs.length cap,.slice (some ⟨pb,po,none⟩) pg.length pcap] w (CtR w zs pg):=by
 have hpl:pg.length<=1000000:=by unfold ned at hl;omega
 have hnd:=fun w=>Need_v zs.length w (by omega) (by omega)
 rw [XP,<-hl] at hnd;have HN:Hid (∀w,Calls prog 124 #[.int .i64 zs.length] w fun e w'=>e=.returned (.int .i64 pg.length)/\w=w'):=hnd;have HE:Hid (ctE zs pg=0):=ctE_ok hl (ctB_iff.1 hb) (by omega);have HOK:Hid (CtOk pg):=ctB_iff.1 hb;have HM:Hid (∀w,RowI w (some ⟨pb,po,none⟩) pcap pg->Calls prog 167 #[.slice (some ⟨pb,po,none⟩) pg.length pcap] w fun e w'=>e=.returned (.bool true)/\Below w.heap.size w w'):=fun w hp=>uK _ pcap pg w hp true hb
 have HP:Hid (RowI w (some ⟨pb,po,none⟩) pcap pg):=hp;have HR:Hid (Row w (some ⟨b,off,none⟩) cap zs):=hr;have HL:Hid (pg.length=ned zs.length):=hl;obtain ⟨i0,hi0,hz0,hz1,hz2⟩:=info_parts infoPl;clear hnd hl hb hp hr;refine (callsIn_wide (n:=5)).1 ?_;refine callsIn_of_wp_marks func126 rfl trivial ?_ rfl;simp only [ntmps126,xP,qL,yB,Nat.reduceAdd,Nat.reduceSub,Array.replicate_succ,Array.replicate_zero,List.push_toArray,List.append_toArray,xL,List.cons_append]
 gi_wp2_with (first|(refine ⟨trivial,?_⟩;gi_at_call 124;refine (callsIn_wide.2 (HN.out _)).mono ?_;rintro e w1 ⟨rfl,rfl⟩)|(refine ⟨trivial,?_⟩;gi_at_call 167;refine (callsIn_wide.2 (HM.out _ (HP.out.below (((Below.refl _ w).alloc (jB _) _).alloc (by simp) _)))).mono ?_;rintro e w1 ⟨rfl,hb1⟩;have HB1:Hid (Below ((w.alloc (.cells #[.slice none 0 0] 50)).alloc (.cells #[.int .i64 0] 31)).heap.size ((w.alloc (.cells #[.slice none 0 0] 50)).alloc (.cells #[.int .i64 0] 31)) w1):=hb1;clear hb1)|(gi_at_make;refine wpListIn_make_own _ rfl _ _ 50 rfl w1.heap.size 22 i0 (.slice none 0 0) 1 underlying50 hi0 hz0 hz1 .i64 .i64 _ pg.length rfl rfl rfl (by rw [hz2];omega) (by unfold maxLen;omega) (jB _) ?_;intro w2 hown2 hgrow2;have HO2:Hid (w2.ownsRow w1.heap.size 22 1 (.slice (some ⟨w1.heap.size,0,none⟩) 0 pg.length) 0 []):=hown2;have HG2:Hid (w1.grownBy w2 none):=hgrow2;clear hown2 hgrow2)|(refine ⟨trivial,?_⟩;gi_at_call 168;refine (gP _ _ _ _ _ _ _ _).mono ?_;rintro e w3 ⟨rfl,rfl⟩))
 have hs0:w.heap.size+2<=w1.heap.size:=by have:=HB1.out.size;simpa using this
 have hs1:w1.heap.size<w2.heap.size:=by have:=(World.ownsRow.lt HO2.out w1.heap.size rfl).2;exact this
 have b4:Boxed w1 w.heap.size 50 (.slice none 0 0):=(HB1.out.block _ (by simp;omega)).trans ((Boxed.new w _ _).alloc _);have b5:Boxed w1 (w.heap.size+1) 31 (.int .i64 0):=(HB1.out.block _ (by simp)).trans (by have:=Boxed.new (w.alloc (.cells #[.slice none 0 0] 50)) 31 (.int .i64 0);rw [World.size_alloc] at this;exact this);have hB2:Below w.heap.size w w2:=((((Below.refl _ w).alloc (jB _) _).alloc (by simp) _).trans (HB1.out.mono (by simp;omega))).grown HG2.out (by omega) (fun k e=>by cases e);obtain ⟨W0,hW0⟩:∃W0,((w2.alloc (Obj.cells #[.slice (some ⟨w1.heap.size,0,none⟩) 0 pg.length] 50)).alloc (Obj.cells #[.slice (some ⟨b,off,none⟩) zs.length cap] 22)).alloc (Obj.cells #[.slice (some ⟨pb,po,none⟩) pg.length pcap] 38)=W0:=⟨_,rfl⟩;have hsz:W0.heap.size=w2.heap.size+3:=by rw [<-hW0];simp
 have B4:Boxed W0 w.heap.size 50 (.slice none 0 0):=by rw [<-hW0];exact (((b4.kept HG2.out (by simp)).alloc _).alloc _).alloc _
 have B5:Boxed W0 (w.heap.size+1) 31 (.int .i64 0):=by rw [<-hW0];exact (((b5.kept HG2.out (by simp)).alloc _).alloc _).alloc _
 have Bx:Boxed W0 w2.heap.size 50 (.slice (some ⟨w1.heap.size,0,none⟩) 0 pg.length):=by rw [<-hW0];exact ((Boxed.new w2 _ _).alloc _).alloc _
 have Bs:Boxed W0 (w2.heap.size+1) 22 (.slice (some ⟨b,off,none⟩) zs.length cap):=by
  rw [<-hW0];have:=Boxed.new (w2.alloc (Obj.cells #[.slice (some ⟨w1.heap.size,0,none⟩) 0 pg.length] 50)) 22 (.slice (some ⟨b,off,none⟩) zs.length cap);rw [World.size_alloc] at this;exact this.alloc _
 have Bp:Boxed W0 (w2.heap.size+1+1) 38 (.slice (some ⟨pb,po,none⟩) pg.length pcap):=by
  rw [<-hW0];have:=Boxed.new ((w2.alloc (Obj.cells #[.slice (some ⟨w1.heap.size,0,none⟩) 0 pg.length] 50)).alloc (Obj.cells #[.slice (some ⟨b,off,none⟩) zs.length cap] 22)) 38 (.slice (some ⟨pb,po,none⟩) pg.length pcap);rw [World.size_alloc,World.size_alloc] at this;exact this
 have hB0:Below w.heap.size w W0:=by rw [<-hW0];exact ((hB2.alloc (by omega) _).alloc (by simp;omega) _).alloc (by simp;omega) _
 have hpgl:PgL w.heap.size W0 (.slice (some ⟨w1.heap.size,0,none⟩) 0 pg.length) []:=by
  refine ⟨[],yS (base:=w1.heap.size) ?_ (fun g e=>by cases e;show w.heap.size<=w1.heap.size;omega),fun i hi=>by simp at hi⟩;rw [<-hW0];exact ((HO2.out.alloc _).alloc _).alloc _
 have hbz:b<w.heap.size:=block_lt_of_cell (HR.out.cells 0 (by have:=HL.out;unfold ned at this;omega))
 have hpbz:pb<w.heap.size:=by
  obtain ⟨pb',po',e,c⟩:=HP.out.at' 0 h1;cases e;exact block_lt_of_cell c
 rw [hW0];clear b4 b5 hB2 hW0 HB1 HO2 HG2 HN HM;have hK0:pg.length*24<=140737488355328:=by omega
 refine wpIn_rangeFunc_ownG (α:={k:Nat // k<pg.length}) (encs:=enc b off cap zs pg) (Kp:=Kp w.heap.size (w2.heap.size+1+1)) (S:=fun ys=>ys.map (·.1)=List.range pg.length) (Sp:=fun _=>True) (N:=pg.length) (w0:=W0) rfl (by omega) (gf:=202) (lb:= #[.pointer (some ⟨w2.heap.size+1,0,none⟩),.pointer (some ⟨w2.heap.size+1+1,0,none⟩)]) rfl trivial (enters_of func202 (by kernel_rfl) rfl)
  ?seq (fun h k=>⟨h.1.trans k.1,k.2.trans h.2⟩) ?kb (Below.refl _ _) (fun _=>rfl)
  (fun pre W=>InvC w w.heap.size w.heap.size (w.heap.size+1) w2.heap.size (w2.heap.size+1+1) w1.heap.size pg.length (.slice (some ⟨pb,po,none⟩) pg.length pcap) (pre.map fun k=>sealL (cpg zs pg k.1)) W)
  (fun _ _ _=>False)
  (InvC.ownFrom _ (jB _) (by omega))
  (fun _ _ _ _ _ hs _ _=>hs)
  ⟨Bx,hpgl,B4,B5,hB0,Bp⟩
  (fun x=>{tmps:= #[Value.slice (some ⟨b,off,none⟩) zs.length cap,Value.slice (some ⟨pb,po,none⟩) pg.length pcap,undef,undef,Value.pointer (some ⟨w.heap.size,0,none⟩),Value.pointer (some ⟨w.heap.size+1,0,none⟩),Value.pointer (some ⟨w2.heap.size,0,none⟩),
   .slice (some ⟨b,off+x.1*244,none⟩) (prt zs x.1).length (cap-x.1*244),.int .i64 (nxt pg x.1),undef,undef,
   Value.slice (some ⟨pb,po,none⟩) pg.length pcap,Value.int IntKind.i64 pg.length,Value.slice (some ⟨b,off,none⟩) zs.length cap,Value.int IntKind.i64 zs.length,Value.int IntKind.i64 pg.length,Value.bool false,Value.bool false,Value.slice (some ⟨pb,po,none⟩) pg.length pcap,Value.bool true,Value.bool false,Value.bool false,Value.slice (some ⟨b,off,none⟩) zs.length cap,Value.int IntKind.i64 zs.length,Value.bool (decide (1048576<(zs.length:Int))),Value.slice (some ⟨pb,po,none⟩) pg.length pcap,Value.int IntKind.i64 pg.length,Value.slice (some ⟨w1.heap.size,0,none⟩) 0 pg.length,Value.slice (some ⟨b,off,none⟩) zs.length cap,Value.slice (some ⟨pb,po,none⟩) pg.length pcap,
   Value.func (Fn.func 202) #[] #[Value.pointer (some ⟨w2.heap.size+1,0,none⟩),Value.pointer (some ⟨w2.heap.size+1+1,0,none⟩)],
   .slice (some ⟨b,off+x.1*244,none⟩) (prt zs x.1).length (cap-x.1*244),.int .i64 (nxt pg x.1),undef,undef,undef,undef,undef,undef,undef,undef,undef,undef,undef,undef,undef,undef],defers:=[]}) ?assign ?body ?done ?stop
 case seq=>
  intro l J Jx W hW hJa _ hY h0;have k1:W.cell? ⟨w2.heap.size+1,0,none⟩=_:=(hW.cell (p:=⟨w2.heap.size+1,0,none⟩) (by show w2.heap.size+1<_;omega)).trans Bs.cell;have k2:W.cell? ⟨w2.heap.size+1+1,0,none⟩=_:=(hW.cell (p:=⟨w2.heap.size+1+1,0,none⟩) (by show w2.heap.size+1+1<_;omega)).trans Bp.cell;have hBW:Below w.heap.size w W:=hB0.trans (hW.mono (by omega));refine (parts1_in 4 (by omega) l _ _ b off cap pb po pcap w.heap.size zs pg J Jx W hJa hY k1 k2 (HR.out.below hBW) (HP.out.below hBW) hpbz HL.out hz h0).mono ?_;rintro e W' ⟨he,hJ|⟨pre,hJx⟩⟩
  ·exact ⟨he,.inl hJ⟩
  ·exact ⟨he,.inr ⟨pre,trivial,hJx⟩⟩
 case kb=>
  exact fun W l o o' hl h hc hw=>⟨belowK_b (w:=W0) (by omega) W l o o' hl h hc hw,World.putObj_heap_other (by omega)⟩
 case assign=>
  intro l x W K hK;simp only [enc]
  gi_wp2
  exact hK
 case body=>
  rintro l pre ⟨k,hk⟩ W hI hlt;have hX:=nxt_in HOK.out k;have hBW:Below w.heap.size w W:=hI.2.2.2.2.1;have hkz:k*244<=zs.length:=by have:=HL.out;unfold ned at this;omega
  have hsc:=seal_c zs pg k _ _ _ _ W (prt_row (HR.out.below hBW) k hkz) (by intro e;cases e) rfl rfl hX.1 hX.2;have HI:Hid (InvC w w.heap.size w.heap.size (w.heap.size+1) w2.heap.size (w2.heap.size+1+1) w1.heap.size pg.length (.slice (some ⟨pb,po,none⟩) pg.length pcap) (pre.map fun k=>sealL (cpg zs pg k.1)) W):=hI;obtain ⟨L,hL⟩:∃L,(pre.map fun k=>sealL (cpg zs pg k.1))=L:=⟨_,rfl⟩;have HL':Hid ((pre.map fun k=>sealL (cpg zs pg k.1))=L):=hL;have hLl:L.length<pg.length:=by rw [<-hL,qQ];exact hlt
  clear hlt;rw [hL] at HI;clear hI hX hBW hkz hL;clear B4 B5 Bx Bs Bp hB0 hpgl
  gi_wp2_with (first|(refine ⟨trivial,?_⟩;gi_at_call 169;refine (CallsIn.inRound l (callsIn_wide.2 hsc)).mono ?_;clear hsc;rintro e W2 ⟨q,c,rfl,ho,hb⟩;obtain ⟨h1',⟨vs,hrow,hin⟩,h3',h4',h5',h6'⟩:=HI.out.below (jB _) hb;have hn2:w.heap.size<=W2.heap.size:=h5'.size;have c6:=h1'.cell;have HIN:Hid _:=hin;have H1:Hid _:=h1';have H3:Hid _:=h3';have H4:Hid _:=h4';have H5:Hid _:=h5';have H6:Hid _:=h6';have HOW:Hid (Own w.heap.size W2 (.slice (some ⟨q,0,none⟩) 256 c) (sealL (cpg zs pg k))):=ho.weaken HI.out.2.2.2.2.1.size;have HQ:Hid (W.heap.size<=q):=ho.lt2.1;have HBW:Hid (Below W.heap.size W W2):=hb;clear h1' hin h3' h4' h5' h6' ho hb)|(gi_at_builtin;refine wpListIn_append_fits _ rfl _ _ 50 rfl w.heap.size 22 i0 1 underlying50 hi0 hz1 w1.heap.size L.length pg.length vs rfl (hrow.alloc _) ⟨W2.heap.size,0,none⟩ 1 1 [.slice (some ⟨q,0,none⟩) 256 c] rfl rfl (cell_one_new _ _ _) (by simp [Value.oneCell']) (by omega) ?_;intro w5 hown' hgrow;obtain ⟨n1,n2,n3,n4⟩:=InvC.more H1.out hrow HIN.out H3.out H4.out H5.out H6.out (jB _) (by omega) (by omega) (by omega) rfl (ZV zs pg k) HOW.out (by have:=HQ.out;have:=(World.ownsRow.lt HI.out.2.1.choose_spec.1 w1.heap.size rfl).2;omega) hown' hgrow;have d6:=n4.cell;have f6:=n4.frozen;have N1:Hid _:=n1;have N2:Hid _:=n2;have N3:Hid _:=n3;clear n1 n2 n3 n4 hown' hgrow))
  refine ⟨((GJ HBW.out).trans N2.out).from _,⟨((HBW.out.mono HI.out.2.2.2.2.1.size).trans N3.out.1),N3.out.2.trans ?_⟩,?_⟩
  ·exact HBW.out.block _ HI.out.2.2.2.2.2.lt
  ·dsimp only;rw [qM,HL'.out];exact N1.out
 case done=>
  rintro D ys W hD hS hI hK;obtain ⟨h1',h2',h3',h4',h5',h6'⟩:=hI
  have hys:(ys.map fun k=>sealL (cpg zs pg k.1))=ctL zs pg:=by
   unfold ctL;rw [<-hS,List.map_map];rfl
  rw [hys] at h1' h2';rw [QJ] at h1' h2';have c6:=h1'.cell;have c4:=h3'.cell;have c5:=h4'.cell;have f4:=h3'.frozen;have f5:=h4'.frozen;have H1:Hid _:=h1';have H2:Hid _:=h2';have H3:Hid _:=h3';have H4:Hid _:=h4';have H5:Hid _:=h5';clear h1' h2' h3' h4' h5' h6' hys hS B4 B5 Bx Bs Bp hB0 hpgl
  gi_wp2
  have hK':=((KeepsOthers.setCell W ⟨w.heap.size,0,none⟩ (.slice (some ⟨w1.heap.size,0,none⟩) pg.length pg.length)).trans (KeepsOthers.setCell _ ⟨w.heap.size+1,0,none⟩ (.int .i64 0))).same D _ hK rfl;refine ⟨by simp,.inl ⟨_,_,rfl,run_takeDeferred hK',?_⟩⟩;obtain ⟨q4,q5⟩:=uO (w:=W) (p:=w.heap.size) (q:=w.heap.size+1) (u:=.slice (some ⟨w1.heap.size,0,none⟩) pg.length pg.length) (v:=.int .i64 0) (by omega) (by rw [c4];rfl) (by rw [c5];rfl);have r4:=cell_kept q4 (grownBy_putObj' _ D (.deferred none)) (fun r e=>by cases e;exact ⟨_,hK',rfl⟩);have r5:=cell_kept q5 (grownBy_putObj' _ D (.deferred none)) (fun r e=>by cases e;exact ⟨_,hK',rfl⟩);refine ⟨.tuple #[.slice (some ⟨w1.heap.size,0,none⟩) pg.length pg.length,.int .i64 0],by simp [results,Tryz.results126,go_sem,r4,r5],_,by rw [HE.out],?_,?_⟩
  ·rw [show ctZ zs pg=ctL zs pg from if_pos HE.out];refine PgL.keepC (W:=W) H2.out fun k cur t fr hk ht=>?_
   have n1:w.heap.size≠k:=fun e=>by
    subst e;rw [H3.out] at hk;cases hk;rcases ht with ht|ht<;>cases ht
   have n2:w.heap.size+1≠k:=fun e=>by
    subst e;rw [H4.out] at hk;cases hk;rcases ht with ht|ht<;>cases ht
   have n3:D≠k:=fun e=>by
    subst e;rw [hK] at hk;cases hk
   rw [World.putObj_heap_other (fun e=>n3 e.symm),Below.heap_setCell _ _ _ _ (fun e=>n2 e.symm),Below.heap_setCell _ _ _ _ (fun e=>n1 e.symm)]
  ·exact ((H5.out.setCell (p:=⟨w.heap.size,0,none⟩) (jB _) _).setCell (p:=⟨w.heap.size+1,0,none⟩) (Nat.le_succ _) _).trans (belowK_b (w:=W0) (by omega) _ D _ _ hD hK' rfl rfl)
 case stop=>
  rintro D c pre W _ _ h _;exact h.elim
end Go.Proofs.YtaijfhadecennabGreat.Oct.Chs
namespace Go.Proofs.YtaijfhadecennabGreat.Oct.Chs
open Go.RowKit Go.Shelf
attribute [local go_sem] Oper.semAt_some
set_option maxRecDepth 100000 in
theorem Cut_nil (a:Option Addr) (cap:Nat) (pa:Option Addr) (pcap:Nat) (w:World) (hp:RowI w pa pcap []):
  Calls prog 126 #[.slice a 0 cap,.slice pa 0 pcap] w (CtR w [] []):=by
 have HN:Hid (∀w,Calls prog 124 #[.int .i64 0] w fun e w'=>e=.returned (.int .i64 0)/\w=w'):=fun w=>Need_v 0 w (by omega) (by omega)
 have HE:Hid (ctE [] []=0):=by show ctE [] []=0;decide
 have HM:Hid (∀w,RowI w pa pcap []->Calls prog 167 #[.slice pa 0 pcap] w fun e w'=>e=.returned (.bool true)/\Below w.heap.size w w'):=fun w hp=>uK _ pcap [] w hp true (by decide)
 have HP:Hid (RowI w pa pcap []):=hp;obtain ⟨i0,hi0,hz0,hz1,hz2⟩:=info_parts infoPl;clear hp;refine (callsIn_wide (n:=5)).1 ?_;refine callsIn_of_wp_marks func126 rfl trivial ?_ rfl;simp only [ntmps126,xP,qL,yB,Nat.reduceAdd,Nat.reduceSub,Array.replicate_succ,Array.replicate_zero,List.push_toArray,List.append_toArray,xL,List.cons_append]
 gi_wp2_with (first|(refine ⟨trivial,?_⟩;gi_at_call 124;refine (callsIn_wide.2 (HN.out _)).mono ?_;rintro e w1 ⟨rfl,rfl⟩)|(refine ⟨trivial,?_⟩;gi_at_call 167;refine (callsIn_wide.2 (HM.out _ (HP.out.below (((Below.refl _ w).alloc (jB _) _).alloc (by simp) _)))).mono ?_;rintro e w1 ⟨rfl,hb1⟩;have HB1:Hid (Below ((w.alloc (.cells #[.slice none 0 0] 50)).alloc (.cells #[.int .i64 0] 31)).heap.size ((w.alloc (.cells #[.slice none 0 0] 50)).alloc (.cells #[.int .i64 0] 31)) w1):=hb1;clear hb1)|(gi_at_make;refine wpListIn_make_own _ rfl _ _ 50 rfl w1.heap.size 22 i0 (.slice none 0 0) 1 underlying50 hi0 hz0 hz1 .i64 .i64 _ 0 rfl rfl rfl (by rw [hz2];omega) (by unfold maxLen;omega) (jB _) ?_;intro w2 hown2 hgrow2;have HO2:Hid (w2.ownsRow w1.heap.size 22 1 (.slice (some ⟨w1.heap.size,0,none⟩) 0 0) 0 []):=hown2;have HG2:Hid (w1.grownBy w2 none):=hgrow2;clear hown2 hgrow2)|(refine ⟨trivial,?_⟩;gi_at_call 168;refine (gP _ _ _ _ _ _ _ _).mono ?_;rintro e w3 ⟨rfl,rfl⟩))
 have hs0:w.heap.size+2<=w1.heap.size:=by have:=HB1.out.size;simpa using this
 have hs1:w1.heap.size<w2.heap.size:=by have:=(World.ownsRow.lt HO2.out w1.heap.size rfl).2;exact this
 have b4:Boxed w1 w.heap.size 50 (.slice none 0 0):=(HB1.out.block _ (by simp;omega)).trans ((Boxed.new w _ _).alloc _);have b5:Boxed w1 (w.heap.size+1) 31 (.int .i64 0):=(HB1.out.block _ (by simp)).trans (by have:=Boxed.new (w.alloc (.cells #[.slice none 0 0] 50)) 31 (.int .i64 0);rw [World.size_alloc] at this;exact this);have hB2:Below w.heap.size w w2:=((((Below.refl _ w).alloc (jB _) _).alloc (by simp) _).trans (HB1.out.mono (by simp;omega))).grown HG2.out (by omega) (fun k e=>by cases e);obtain ⟨W0,hW0⟩:∃W0,((w2.alloc (Obj.cells #[.slice (some ⟨w1.heap.size,0,none⟩) 0 0] 50)).alloc (Obj.cells #[.slice a 0 cap] 22)).alloc (Obj.cells #[.slice pa 0 pcap] 38)=W0:=⟨_,rfl⟩;have hsz:W0.heap.size=w2.heap.size+3:=by rw [<-hW0];simp
 have B4:Boxed W0 w.heap.size 50 (.slice none 0 0):=by rw [<-hW0];exact (((b4.kept HG2.out (by simp)).alloc _).alloc _).alloc _
 have B5:Boxed W0 (w.heap.size+1) 31 (.int .i64 0):=by rw [<-hW0];exact (((b5.kept HG2.out (by simp)).alloc _).alloc _).alloc _
 have Bx:Boxed W0 w2.heap.size 50 (.slice (some ⟨w1.heap.size,0,none⟩) 0 0):=by rw [<-hW0];exact ((Boxed.new w2 _ _).alloc _).alloc _
 have Bs:Boxed W0 (w2.heap.size+1) 22 (.slice a 0 cap):=by
  rw [<-hW0];have:=Boxed.new (w2.alloc (Obj.cells #[.slice (some ⟨w1.heap.size,0,none⟩) 0 0] 50)) 22 (.slice a 0 cap);rw [World.size_alloc] at this;exact this.alloc _
 have Bp:Boxed W0 (w2.heap.size+1+1) 38 (.slice pa 0 pcap):=by
  rw [<-hW0];have:=Boxed.new ((w2.alloc (Obj.cells #[.slice (some ⟨w1.heap.size,0,none⟩) 0 0] 50)).alloc (Obj.cells #[.slice a 0 cap] 22)) 38 (.slice pa 0 pcap);rw [World.size_alloc,World.size_alloc] at this;exact this
 have hB0:Below w.heap.size w W0:=by rw [<-hW0];exact ((hB2.alloc (by omega) _).alloc (by simp;omega) _).alloc (by simp;omega) _
 have hpgl:PgL w.heap.size W0 (.slice (some ⟨w1.heap.size,0,none⟩) 0 0) []:=by
  refine ⟨[],yS (base:=w1.heap.size) ?_ (fun g e=>by cases e;show w.heap.size<=w1.heap.size;omega),fun i hi=>by simp at hi⟩;rw [<-hW0];exact ((HO2.out.alloc _).alloc _).alloc _
 rw [hW0];clear b4 b5 hB2 hW0 HB1 HO2 HG2 HN HM
 refine wpIn_rangeFunc_ownG (α:=Unit) (encs:=fun _=> #[.int .i64 0,.int .i64 0]) (Kp:=Kp w.heap.size (w2.heap.size+1+1)) (S:=fun ys=>ys=[]) (Sp:=fun _=>True) (N:=0) (w0:=W0) rfl (by omega) (gf:=202) (lb:= #[.pointer (some ⟨w2.heap.size+1,0,none⟩),.pointer (some ⟨w2.heap.size+1+1,0,none⟩)]) rfl trivial (enters_of func202 (by kernel_rfl) rfl)
  ?seq (fun h k=>⟨h.1.trans k.1,k.2.trans h.2⟩) ?kb (Below.refl _ _) (fun _=>rfl)
  (fun pre W=>InvC w w.heap.size w.heap.size (w.heap.size+1) w2.heap.size (w2.heap.size+1+1) w1.heap.size 0 (.slice pa 0 pcap) (pre.map fun _=>[]) W)
  (fun _ _ _=>False)
  (InvC.ownFrom _ (jB _) (by omega))
  (fun _ _ _ _ _ hs _ _=>hs)
  ⟨Bx,hpgl,B4,B5,hB0,Bp⟩
  (fun _=>{tmps:= #[Value.slice a 0 cap,Value.slice pa 0 pcap,undef,undef,Value.pointer (some ⟨w.heap.size,0,none⟩),Value.pointer (some ⟨w.heap.size+1,0,none⟩),Value.pointer (some ⟨w2.heap.size,0,none⟩),
   .int .i64 0,.int .i64 0,undef,undef,
   Value.slice pa 0 pcap,Value.int IntKind.i64 0,Value.slice a 0 cap,Value.int IntKind.i64 0,Value.int IntKind.i64 0,Value.bool false,Value.bool false,Value.slice pa 0 pcap,Value.bool true,Value.bool false,Value.bool false,Value.slice a 0 cap,Value.int IntKind.i64 0,Value.bool false,Value.slice pa 0 pcap,Value.int IntKind.i64 0,Value.slice (some ⟨w1.heap.size,0,none⟩) 0 0,Value.slice a 0 cap,Value.slice pa 0 pcap,
   Value.func (Fn.func 202) #[] #[Value.pointer (some ⟨w2.heap.size+1,0,none⟩),Value.pointer (some ⟨w2.heap.size+1+1,0,none⟩)],
   .int .i64 0,.int .i64 0,undef,undef,undef,undef,undef,undef,undef,undef,undef,undef,undef,undef,undef,undef],defers:=[]}) ?assign ?body ?done ?stop
 case seq=>
  intro l J Jx W hW hJa _ hY h0;have k1:W.cell? ⟨w2.heap.size+1,0,none⟩=_:=(hW.cell (p:=⟨w2.heap.size+1,0,none⟩) (by show w2.heap.size+1<_;omega)).trans Bs.cell;have k2:W.cell? ⟨w2.heap.size+1+1,0,none⟩=_:=(hW.cell (p:=⟨w2.heap.size+1+1,0,none⟩) (by show w2.heap.size+1+1<_;omega)).trans Bp.cell;refine (parts1_nil 4 l _ _ _ pa pcap (J []) W k1 ⟨_,_,_,rfl⟩ k2 h0).mono ?_;rintro e W' ⟨he,hJ⟩;exact ⟨he,.inl ⟨_,rfl,hJ⟩⟩
 case kb=>
  exact fun W l o o' hl h hc hw=>⟨belowK_b (w:=W0) (by omega) W l o o' hl h hc hw,World.putObj_heap_other (by omega)⟩
 case assign=>
  intro l x W K hK
  gi_wp2
  exact hK
 case body=>
  intro l pre x W hI hlt;omega
 case done=>
  rintro D ys W hD hS hI hK;obtain ⟨h1',h2',h3',h4',h5',h6'⟩:=hI;subst hS;have h1':Boxed W w2.heap.size 50 (.slice (some ⟨w1.heap.size,0,none⟩) 0 0):=h1';have h2':PgL w.heap.size W (.slice (some ⟨w1.heap.size,0,none⟩) 0 0) []:=h2';have c6:=h1'.cell;have c4:=h3'.cell;have c5:=h4'.cell;have f4:=h3'.frozen;have f5:=h4'.frozen;have H1:Hid _:=h1';have H2:Hid _:=h2';have H3:Hid _:=h3';have H4:Hid _:=h4';have H5:Hid _:=h5';clear h1' h2' h3' h4' h5' h6' B4 B5 Bx Bs Bp hB0 hpgl
  gi_wp2
  have hK':=((KeepsOthers.setCell W ⟨w.heap.size,0,none⟩ (.slice (some ⟨w1.heap.size,0,none⟩) 0 0)).trans (KeepsOthers.setCell _ ⟨w.heap.size+1,0,none⟩ (.int .i64 0))).same D _ hK rfl;refine ⟨by simp,.inl ⟨_,_,rfl,run_takeDeferred hK',?_⟩⟩;obtain ⟨q4,q5⟩:=uO (w:=W) (p:=w.heap.size) (q:=w.heap.size+1) (u:=.slice (some ⟨w1.heap.size,0,none⟩) 0 0) (v:=.int .i64 0) (by omega) (by rw [c4];rfl) (by rw [c5];rfl);have r4:=cell_kept q4 (grownBy_putObj' _ D (.deferred none)) (fun r e=>by cases e;exact ⟨_,hK',rfl⟩);have r5:=cell_kept q5 (grownBy_putObj' _ D (.deferred none)) (fun r e=>by cases e;exact ⟨_,hK',rfl⟩);refine ⟨.tuple #[.slice (some ⟨w1.heap.size,0,none⟩) 0 0,.int .i64 0],by simp [results,Tryz.results126,go_sem,r4,r5],_,by rw [HE.out],?_,?_⟩
  ·rw [show ctZ [] []=[] from rfl];refine PgL.keepC (W:=W) H2.out fun k cur t fr hk ht=>?_
   have n1:w.heap.size≠k:=fun e=>by
    subst e;rw [H3.out] at hk;cases hk;rcases ht with ht|ht<;>cases ht
   have n2:w.heap.size+1≠k:=fun e=>by
    subst e;rw [H4.out] at hk;cases hk;rcases ht with ht|ht<;>cases ht
   have n3:D≠k:=fun e=>by
    subst e;rw [hK] at hk;cases hk
   rw [World.putObj_heap_other (fun e=>n3 e.symm),Below.heap_setCell _ _ _ _ (fun e=>n2 e.symm),Below.heap_setCell _ _ _ _ (fun e=>n1 e.symm)]
  ·exact ((H5.out.setCell (p:=⟨w.heap.size,0,none⟩) (jB _) _).setCell (p:=⟨w.heap.size+1,0,none⟩) (Nat.le_succ _) _).trans (belowK_b (w:=W0) (by omega) _ D _ _ hD hK' rfl rfl)
 case stop=>
  rintro D c pre W _ _ h _;exact h.elim
theorem Cut_v (a:Option Addr) (cap:Nat) (zs:List Int) (pa:Option Addr) (pcap:Nat) (pg:List Int) (w:World) (hr:Row w a cap zs) (hp:RowI w pa pcap pg) (hz:zs.length<=1000000):Calls prog 126 #[.slice a zs.length cap,.slice pa pg.length pcap] w (CtR w zs pg):=by
 by_cases hl:pg.length=ned zs.length
 ·cases hb:ctB pg
  ·exact Cut_bad a cap zs pa pcap pg w hp hz (.inr hb)
  ·by_cases h1:0<pg.length
   ·obtain ⟨b,off,rfl⟩:=hr.some' (by unfold ned at hl;omega);obtain ⟨pb,po,rfl,_⟩:=hp.at' 0 h1;exact Cut_some b off cap zs pb po pcap pg w hr hp hz hl hb h1
   ·have e1:pg=[]:=qF (by omega);have e2:zs=[]:=qF (by unfold ned at hl;omega);subst e1;subst e2;exact Cut_nil a cap pa pcap w hp
 ·exact Cut_bad a cap zs pa pcap pg w hp hz (.inl hl)
theorem chC:ChC where
 need:=fun n w h=>(Need_v n w h.1 h.2).mono fun e w' ⟨h1,h2⟩=>⟨h1,by rw [<-h2];exact Below.refl _ _⟩
 cut:=fun a cap zs pa pcap pg w hr _ hp _ hz _=>Cut_v a cap zs pa pcap pg w hr hp hz
 part:=fun a cap zs w hr _ _=>Part_v a cap zs w hr
end Go.Proofs.YtaijfhadecennabGreat.Oct.Chs
namespace Go.Proofs.YtaijfhadecennabGreat.Oct.Sx
open Go.RowKit
theorem PgL.keepB {base:Nat} {w w':World} {v:Value} {L:List (List Int)} (h:PgL base w v L) (k:∀g,base<=g->g<w.heap.size->w'.heap[g]?=w.heap[g]?):PgL base w' v L:=by
 obtain ⟨vs,h1,h2⟩:=h;refine ⟨vs,yN h1 (fun g hg=>by have:=World.ownsRow.lt h1 g hg;exact k g this.1 this.2),fun i hi=>?_⟩;obtain ⟨g,c,e,ho,hn⟩:=h2 i hi;exact ⟨g,c,e,yN ho (fun x hx=>by have:=World.ownsRow.lt ho x hx;exact k x this.1 this.2),hn⟩
theorem PgL.atB {base:Nat} {w:World} {v:Value} {L:List (List Int)} (h:PgL base w v L) (i:Nat) (hi:i<L.length):
  ∃q cap g c,v=.slice (some ⟨q,0,none⟩) L.length cap/\(base<=q/\q<w.heap.size)/\w.cell? ⟨q,i,none⟩=some (.slice (some ⟨g,0,none⟩) (L.getD i []).length c)/\Own base w (.slice (some ⟨g,0,none⟩) (L.getD i []).length c) (L.getD i []):=by
 obtain ⟨q,cap,g,c,hv,_,_,h3,h4,_⟩:=h.at i hi;obtain ⟨vs,h1,_⟩:=h;exact ⟨q,cap,g,c,hv,World.ownsRow.lt h1 q (by rw [hv];rfl),h3,h4⟩
theorem ctL_at (zs pg:List Int) (i:Nat) (hi:i<pg.length):(ctL zs pg).getD i []=sealL (cpg zs pg i):=by
 unfold ctL;rw [jA,qN,List.getElem?_range hi];rfl
theorem ctE_ok {zs pg:List Int} (h1:pg.length=ned zs.length) (h2:CtOk pg) (h3:zs.length<=1048576):ctE zs pg=0:=by
 unfold ctE;rw [if_pos h1,if_pos (ctB_iff.2 h2),if_pos h3]
section
variable {w0 w w':World} {F0:Nat->Prop} {s d p sp c cC cS:Nat} {aC aS:Option Addr} {X:St} {zs:List Int} {lab lab':Nat->Nat} {S:Sp} {vC vT vB:Value} {bg:Bool} {q1 q2 cP:Nat} {P1 P2 pgs:List Int} {aP:Option Addr}
theorem CmC.pool (h:CmC w0 w F0 s d p sp c aC cC lab X aS cS zs S vC vT vB bg) {F F':Nat->Prop} {D':Dv} {L':List Fr} (hF:∀k,F k->lab k=1) (hl:∀k,F k->k<w.heap.size) (hp:Pool w' p d F' D' X.N L') (st:Step F F' w w'):
  CmC w0 w' F0 s d p sp c aC cC (relab lab w.heap.size 1) {X with D:=D',L:=L'} aS cS zs S vC vT vB bg:=by
 have t:=Trn.of st hF;have hlc:=yO h.cm;exact ⟨h.sto.pool' hF hl hp st,h.lb.turn t (by decide) (Agr.relab _ 1 _),h.us.keep t (by decide) (Agr.relab _ 1 _),(t.block hlc (by rw [h.lc];decide)).trans h.cm,by rw [yW hlc];exact h.lc⟩
theorem CmT.pool (h:CmT w0 w F0 s d p sp c aC cC lab X aS cS zs S bg q1 P1 q2 P2 aP cP pgs) {F F':Nat->Prop} {D':Dv} {L':List Fr} (hF:∀k,F k->lab k=1) (hl:∀k,F k->k<w.heap.size) (hp:Pool w' p d F' D' X.N L') (st:Step F F' w w'):
  CmT w0 w' F0 s d p sp c aC cC (relab lab w.heap.size 1) {X with D:=D',L:=L'} aS cS zs S bg q1 P1 q2 P2 aP cP pgs:=by
 have t:=Trn.of st hF;exact ⟨h.cm.pool hF hl hp st,h.tk.keep t (by decide) (Agr.relab _ 1 _),h.bh.keep t (by decide) (Agr.relab _ 1 _),h.pg.keep t (by decide) (Agr.relab _ 1 _)⟩
theorem CmT.keep (h:CmT w0 w F0 s d p sp c aC cC lab X aS cS zs S bg q1 P1 q2 P2 aP cP pgs) {i:Nat} (h8:8<=i) (h9:i<=9) (t:Trn lab i w w') (g:Agr w.heap.size lab lab'):CmT w0 w' F0 s d p sp c aC cC lab' X aS cS zs S bg q1 P1 q2 P2 aP cP pgs:=
 ⟨h.cm.keep (by omega) h9 t g,h.tk.keep t (by omega) g,h.bh.keep t (by omega) g,h.pg.keep t (by omega) g⟩
theorem RowL.cellI {gp n c i:Nat} {zs:List Int} (h:RowL w (some ⟨gp,0,none⟩) n c zs lab i) (hn:zs.length=n) (k:Nat) (hk:k<zs.length):w.cell? ⟨gp,k,none⟩=some (.int .i64 (zs.getD k 0)):=by
 subst hn;obtain ⟨a',c',e,hr⟩:=h.1.row;simp only [Value.slice.injEq,true_and] at e;obtain ⟨rfl,rfl⟩:=e;obtain ⟨b',off',e2,hc⟩:=hr.at' k hk;simp only [jP,Addr.mk.injEq,and_true] at e2;obtain ⟨rfl,rfl⟩:=e2;rw [xE] at hc;exact hc
theorem pool_n {d N:Nat} {F:Nat->Prop} {D:Dv} {L:List Fr} (h:Pool w p d F D N L):8<=N/\N<=4096:=by
 obtain ⟨Fd,m,e,bs,fr,ol,nw,h,rfl⟩:=h;exact ⟨h.pool.n8,h.pool.n4⟩
def PtI (w0 w w1 wr:World) (F0:Nat->Prop) (s d p sp c:Nat) (aC:Option Addr) (cC:Nat) (X:St) (aS:Option Addr) (cS:Nat) (zs:List Int) (S:Sp) (bg:Bool) (q1:Nat) (P1:List Int) (q2:Nat) (P2:List Int) (aP:Option Addr) (cP:Nat) (pgs:List Int) (D':Dv) (L':List Fr):Prop:=
 ∃labr,CmT w0 wr F0 s d p sp c aC cC labr {X with D:=D',L:=L'} aS cS zs S bg q1 P1 q2 P2 aP cP pgs/\∀j,w.heap.size<=j->j<w1.heap.size->wr.heap[j]?=w1.heap[j]?/\labr j=9
def PutE (w0:World) (F0:Nat->Prop) (s d p sp c:Nat) (aC:Option Addr) (cC:Nat) (X:St) (aS:Option Addr) (cS:Nat) (zs:List Int) (S:Sp) (bg:Bool) (q1:Nat) (P1:List Int) (q2:Nat) (P2:List Int) (aP:Option Addr) (cP:Nat) (pgs bz pz:List Int) (Q:Nat->Prop) (e:Ending) (w':World):Prop:=
 ∃D' L',(∃lab,CmT w0 w' F0 s d p sp c aC cC lab {X with D:=D',L:=L'} aS cS zs S bg q1 P1 q2 P2 aP cP pgs)/\
  ((e=.returned (.int .i64 0)/\PutI X.N X.D X.L pz (ctL bz pz) Q pz.length D' L')\/
   (e=.returned (.int .i64 7)/\Bad X.D D'/\FI D' X.N L'/\(∃n,n<=pz.length/\Acts Q n X.D D')/\(∀k,DP L' k->DP X.L k\/∃j,j<pz.length/\pz.getD j 0=(k:Int))/\∀k b,k<X.D.n->(∀j,j<pz.length->pz.getD j 0≠(k:Int))->Tl X.D X.L k b->Tl D' L' k b))
theorem ptI_step {w1 wr w2:World} {labr:Nat->Nat} {D' D2:Dv} {L' L2:List Fr} {F1 F2:Nat->Prop} (hT:CmT w0 wr F0 s d p sp c aC cC labr {X with D:=D',L:=L'} aS cS zs S bg q1 P1 q2 P2 aP cP pgs) (hold:∀j,w.heap.size<=j->j<w1.heap.size->wr.heap[j]?=w1.heap[j]?/\labr j=9)
  (hF:∀k,F1 k->labr k=1) (hl:∀k,F1 k->k<wr.heap.size) (hp:Pool w2 p d F2 D2 X.N L2) (st:Step F1 F2 wr w2):PtI w0 w w1 w2 F0 s d p sp c aC cC X aS cS zs S bg q1 P1 q2 P2 aP cP pgs D2 L2:=by
 refine ⟨_,hT.pool hF hl hp st,fun j h1 h2=>?_⟩;obtain ⟨e1,e2⟩:=hold j h1 h2;have hlt:j<wr.heap.size:=yO (e1.trans (qX h2));exact ⟨(st.1.block j hlt (fun e=>by have:=hF j e;omega)).trans e1,by rw [yW hlt];exact e2⟩
set_option maxRecDepth 20000 in
theorem put_any (h:CmT w0 w F0 s d p sp c aC cC lab X aS cS zs S bg q1 P1 q2 P2 aP cP pgs) (ab:Option Addr) (cb:Nat) (bz:List Int) (hb:Row w ab cb bz) (hbl:bz.length<=1000000) (hbb:Bys bz)
  (gp o cp:Nat) (pz:List Int) (haP:aP=some ⟨gp,0,none⟩) (hcp:pz.length<=cp/\cp<=maxLen) (hwin:∀i,i<pz.length->pgs.getD (o+i) 0=pz.getD i 0/\o+i<pgs.length) (hpo:CtOk pz) (hpl:pz.length=ned bz.length) (hpn:∀z∈pz,z<(X.D.n:Int)) (fi:FI X.D X.N X.L) {Q:Nat->Prop} (hQ:∀k,DP X.L k->Q k) (hQp:∀z∈pz,Q z.toNat) (hops:X.D.ops+5000<=1000000000) (hsi:X.D.since.length+5000<=1000000):
  Calls prog 131 #[.pointer (some ⟨c,0,none⟩),.slice ab bz.length cb,.slice (some ⟨gp,o,none⟩) pz.length cp] w (PutE w0 F0 s d p sp c aC cC X aS cS zs S bg q1 P1 q2 P2 aP cP pgs bz pz Q):=by
 have hE0:=ctE_ok hpl hpo (by omega)
 have hpr:RowI w (some ⟨gp,o,none⟩) cp pz:=⟨hcp.1,hcp.2,.inr ⟨gp,o,rfl,fun i hi=>by
  have h2:=h.pg;rw [haP] at h2;rw [h2.cellI rfl (o+i) (hwin i hi).2,(hwin i hi).1]⟩⟩
 have hct:=Chs.Cut_v ab cb bz (some ⟨gp,o,none⟩) cp pz w hb hpr hbl;have hcp2:=hcp.2;have hcp1:=hcp.1;unfold maxLen at hcp2;have HK:Hid ((∀i,i<pz.length->pgs.getD (o+i) 0=pz.getD i 0/\o+i<pgs.length)/\CtOk pz/\(∀z∈pz,z<(X.D.n:Int))/\Bys bz/\(∀k,DP X.L k->Q k)/\(∀z∈pz,Q z.toNat)/\X.D.ops+5000<=1000000000/\X.D.since.length+5000<=1000000/\aP=some ⟨gp,0,none⟩/\pz.length<=4300/\FI X.D X.N X.L):=⟨hwin,hpo,hpn,hbb,hQ,hQp,hops,hsi,haP,by rw [hpl];unfold ned;omega,fi⟩;have H0:Hid (CmT w0 w F0 s d p sp c aC cC lab X aS cS zs S bg q1 P1 q2 P2 aP cP pgs):=h;have HE:Hid (ctE bz pz=0):=hE0;obtain ⟨n,hn⟩:∃n,pz.length=n:=⟨_,rfl⟩;have HN:Hid (pz.length=n/\n<=4300):=⟨hn,by rw [<-hn];exact HK.out.2.2.2.2.2.2.2.2.2.1⟩;have hn4:=HN.out.2;rw [hn] at hct hcp1 ⊢;clear h hb hbl hbb hcp hwin hpo hpl hpn fi hQ hQp hops hsi hE0 hpr hn haP;go_enter func131,ntmps131
 go_wp2_with (first
  |(go_at_call 126;refine hct.mono ?_;rintro e w1 ⟨v,rfl,k1,k2⟩
    rw [HE.out];unfold ctZ at k1;rw [if_pos HE.out] at k1;obtain ⟨va,vc,rfl,hvc,hvm⟩:=k1.slice;rw [QJ,HN.out.1] at hvc;unfold maxLen at hvm;have HS1:Hid (PgL w.heap.size w1 (.slice va (ctL bz pz).length vc) (ctL bz pz)):=k1;rw [show (ctL bz pz).length=n from (QJ bz pz).trans HN.out.1];have HI1:Hid (PtI w0 w w1 w1 F0 s d p sp c aC cC X aS cS zs S bg q1 P1 q2 P2 aP cP pgs X.D X.L):=⟨relab lab w.heap.size 9,H0.out.keep (i:=9) (by decide) (by decide) (Trn.below k2) (Agr.relab _ 9 _),fun j h1 h2=>⟨rfl,zY h1⟩⟩;clear hct k1 k2))
 go_loopg [23] n (fun gh i wr=>∃(k:Nat) (D':Dv) (L':List Fr),k<=n/\gh=n-k/\i=.int .i64 (k:Int)/\Hid (PutI X.N X.D X.L pz (ctL bz pz) Q k D' L'/\PtI w0 w w1 wr F0 s d p sp c aC cC X aS cS zs S bg q1 P1 q2 P2 aP cP pgs D' L'))
 case atStart=>exact ⟨0,X.D,X.L,jW _,rfl,rfl,PutI.zero HK.out.2.2.2.2.2.2.2.2.2.2 _ _ _,HI1.out⟩
 case round=>
  clear HI1 H0;obtain ⟨k,D',L',hk,hgk,rfl,HI⟩:=hrel;have HGK:Hid (gk=n-k):=hgk;clear hgk;by_cases hlt:k<n
  ·obtain ⟨hpi,labr,hT,hold⟩:=HI.out;obtain ⟨F1,hpo,hpF⟩:=hT.cm.sto.pool;have c0:=hT.cm.at.1;have s1:=hT.cm.sto.at.2.1;have hkp:k<pz.length:=by rw [HN.out.1];exact hlt
   have hgc:wr.cell? ⟨gp,o+k,none⟩=some (.int .i64 (pz.getD k 0)):=by
    have h2:=hT.pg;have h3:=HK.out.1 k hkp;rw [HK.out.2.2.2.2.2.2.2.2.1] at h2;rw [h2.cellI rfl (o+k) h3.2,h3.1]
   obtain ⟨qs,vcap,gs,gc,hv,hql,hsc0,hso0⟩:=PgL.atB HS1.out k (by rw [QJ];exact hkp);have hgs:=World.ownsRow.lt hso0 gs rfl;have hsc:=(World.cell?_of_block (w:=w1) (a:=⟨qs,k,none⟩) (hold qs hql.1 hql.2).1).trans hsc0;have hso:Own w.heap.size wr (.slice (some ⟨gs,0,none⟩) ((ctL bz pz).getD k []).length gc) ((ctL bz pz).getD k []):=yN hso0 (w':=wr) (fun j hj=>by have:=World.ownsRow.lt hso0 j hj;exact (hold j this.1 this.2).1);have hz256:((ctL bz pz).getD k []).length=256:=by rw [ctL_at _ _ _ hkp];exact ZV ..
   have hzB:Bys ((ctL bz pz).getD k []):=by rw [ctL_at _ _ _ hkp];exact ZF (FK HK.out.2.2.2.1 k)
   rw [hz256] at hsc;simp only [Value.slice.injEq] at hv;obtain ⟨rfl,_,rfl⟩:=hv;have hrow:=(Own.row' hso hzB).2
   have hgpl:gp<wr.heap.size/\¬F1 gp:=by
    have h2:=hT.pg;rw [HK.out.2.2.2.2.2.2.2.2.1] at h2;exact ⟨(World.ownsRow.lt h2.1 gp rfl).2,fun e=>by have h3:=hpF gp e;have h4:=h2.2 gp ⟨_,rfl,rfl⟩;omega⟩
   have HG:Hid (gp<wr.heap.size/\¬F1 gp):=hgpl;clear hgpl;have hz2:=HK.out.2.1 k hkp;obtain ⟨pg,hpg⟩:∃pg:Nat,pz.getD k 0=(pg:Int):=⟨(pz.getD k 0).toNat,(qD (by omega)).symm⟩;have hpt:(pz.getD k 0).toNat=pg:=by rw [hpg];rfl
   have hmem:∀j,j<pz.length->pz.getD j 0∈pz:=fun j hj=>by rw [jA,jC hj];exact qA _
   have hpgn:(pz.getD k 0)<(X.D.n:Int):=HK.out.2.2.1 _ (hmem k hkp);have hpgd:pg<D'.n:=by rw [hpi.acts.n];omega
   obtain ⟨o1,o2⟩:=hpi.acts.ops;obtain ⟨b1,b2⟩:X.D.ops+5000<=1000000000/\X.D.since.length+5000<=1000000:=⟨HK.out.2.2.2.2.2.2.1,HK.out.2.2.2.2.2.2.2.1⟩;have hpd:Pool wr.drew p d F1 D' X.N L':=Pool.keep hpo (jB _) (fun _ _=>rfl);have hput:=Put_any hpd (by omega) (by omega) pg hpgd gs 0 gc ((ctL bz pz).getD k []) hz256 hrow (fun e=>by have h1:=hpF gs e;have h2:=(hold gs hgs.1 hgs.2).2;omega);have HT:Hid (CmT w0 wr F0 s d p sp c aC cC labr {X with D:=D',L:=L'} aS cS zs S bg q1 P1 q2 P2 aP cP pgs/\(∀j,w.heap.size<=j->j<w1.heap.size->wr.heap[j]?=w1.heap[j]?/\labr j=9)/\(∀k,F1 k->labr k=1)/\∀k,F1 k->k<wr.heap.size):=⟨hT,hold,hpF,hpo.lt⟩;obtain ⟨E,hE⟩:∃E,usE D' X.N L' pg false=E:=⟨_,rfl⟩;obtain ⟨D2,hD2⟩:∃D2,usD D' X.N L' pg false=D2:=⟨_,rfl⟩;obtain ⟨L2,hL2⟩:∃L2,ptF D' X.N L' pg ((ctL bz pz).getD k [])=L2:=⟨_,rfl⟩;have hnx:=hpi.next (E:=E) (D2:=D2) (L2:=L2) (by have:=(pool_n hpo).1;exact jV (by decide) this) hz2.2 (by omega) hpgn (fun j hj=>⟨by have:=(HK.out.2.1 j (by omega)).1;omega,HK.out.2.2.1 _ (hmem j (by omega))⟩) HK.out.2.2.2.2.1 (fun j hj=>HK.out.2.2.2.2.2.1 _ (hmem j (by omega))) hz256 hzB (by rw [hpt];exact hE) (by rw [hpt];exact hD2) (by rw [hpt];exact hL2);rw [hE,hD2,hL2] at hput;rw [hpg] at hgc;have HNX:Hid _:=hnx;clear hnx HI hpi hT hold hpo hpF hpd hE hD2 hL2 hz2 hpg hpt hmem hpgn o1 o2 b1 b2 hrow hso hso0 hsc0 hzB hz256 hpgd hgs;go_wp2_with fail
   go_region_held3 (fun w'=>w'.cell? ⟨c,0,none⟩=some (.pointer (some ⟨s,0,none⟩))/\w'.cell? ⟨s,1,none⟩=some (.pointer (some ⟨p,0,none⟩))/\w'.cell? ⟨gp,o+k,none⟩=some (.int .i64 (pg:Int))) (first|go_keep|exact ⟨by assumption,by assumption,by assumption⟩) (first
    |(go_at_call 173;refine hput.mono ?_;rintro e w2 ⟨rfl,F2,h2,st2'⟩
      have st2:=st2'.undrew;have HP2:Hid (PtI w0 w w1 w2 F0 s d p sp c aC cC X aS cS zs S bg q1 P1 q2 P2 aP cP pgs D2 L2):=ptI_step HT.out.1 HT.out.2.1 HT.out.2.2.1 HT.out.2.2.2 h2 st2;have x0:w2.cell? ⟨c,0,none⟩=some (.pointer (some ⟨s,0,none⟩)):=by obtain ⟨l,hl,_⟩:=HP2.out;exact hl.cm.at.1
      have x1:w2.cell? ⟨s,1,none⟩=some (.pointer (some ⟨p,0,none⟩)):=by obtain ⟨l,hl,_⟩:=HP2.out;exact hl.cm.sto.at.2.1
      have x2:w2.cell? ⟨gp,o+k,none⟩=some (.int .i64 (pg:Int)):=by
       refine (World.cell?_of_block (w:=wr) (a:=⟨gp,o+k,none⟩) (st2.1.block gp HG.out.1 HG.out.2)).trans hgc
      clear hput h2 st2 st2'))
   clear hsc c0 s1 hgc;rcases HNX.out with ⟨rfl,hnext⟩|⟨rfl,hbad,hfi,hac,hdp,htl⟩
   ·have HQ:Hid (PutI X.N X.D X.L pz (ctL bz pz) Q (k+1) D2 L2):=hnext;clear HNX hnext;go_wp2_with fail
    go_roundg (n-(k+1))
    case rel=>exact ⟨k+1,D2,L2,by omega,rfl,by go_num,HQ.out,HP2.out⟩
    case measure=>have:=HGK.out;omega
   ·have HF:Hid (PutE w0 F0 s d p sp c aC cC X aS cS zs S bg q1 P1 q2 P2 aP cP pgs bz pz Q (.returned (.int .i64 7)) w2):=by
     obtain ⟨l2,h2,_⟩:=HP2.out
     exact ⟨D2,L2,⟨l2,h2⟩,.inr ⟨rfl,hbad,hfi,⟨k+1,by omega,hac⟩,fun x hx=>by
      rcases hdp x hx with h|⟨j,hj,h⟩
      ·exact .inl h
      ·exact .inr ⟨j,by omega,h⟩,fun x b hx hj ht=>htl x b hx (fun j hj2=>hj j (by omega)) ht⟩⟩
    clear HNX hbad hfi hac hdp htl;go_wp2_with fail
    go_ret
    exact HF.out
  ·obtain rfl:k=n:=by omega
   obtain ⟨hpi,labr,hT,hold⟩:=HI.out;have HF:Hid (PutE w0 F0 s d p sp c aC cC X aS cS zs S bg q1 P1 q2 P2 aP cP pgs bz pz Q (.returned (.int .i64 0)) wr):=⟨D',L',⟨labr,hT⟩,.inl ⟨rfl,by rw [HN.out.1];exact hpi⟩⟩;clear HI hpi hT hold;go_wp2_with fail
   go_ret
   exact HF.out
end
end Go.Proofs.YtaijfhadecennabGreat.Oct.Sx
