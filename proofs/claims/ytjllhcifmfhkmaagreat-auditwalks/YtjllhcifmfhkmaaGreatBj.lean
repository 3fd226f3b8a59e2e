/- Part of a proof. -/
import Derived.Test.YtjllhcifmfhkmaaGreatBg
import Derived.BigRegion
set_option maxHeartbeats 4000000
namespace Go.Proofs.YtjllhcifmfhkmaaGreat.Oct
open Go.RowKit
def LfI (w wr:World) (p:Nat) (F F':Nat→Prop) (ia:Option Addr) (ic:Nat) (L:List Int) (q:Nat→Value) (W:Wk) (l:List C4) (g:Option Addr) (rb sb k:Nat) (W':Wk) (s':S3) (fin:Wk × S3):Prop:=
 RWA wr p F' ia ic L q W'∧WkOk W'∧W'.kd.length=W.kd.length∧lfGo L (l.drop k) (W',s')=fin∧At3 wr sb s'∧At3 wr rb s30∧(∀j,j<l.length→∃b off,g=some ⟨b,off,none⟩∧¬F' b∧¬b=sb∧At4 wr b (off+j*4) (l.getD j c40))∧(¬F' sb∧¬obl ia sb∧w.heap.size≤sb)∧¬F' rb∧¬obl ia rb∧Step F F' w wr∧(0≤s'.p∧s'.p≤k)∧(0≤s'.b∧s'.b≤248*k)∧(0≤s'.l∧s'.l≤248*k)
section
variable {w wr w2 w5:World} {p ic rb sb k:Nat} {F F' F2:Nat→Prop} {ia g:Option Addr} {L:List Int} {q:Nat→Value} {W W':Wk} {l:List C4} {s':S3} {fin:Wk × S3}
theorem RWA.other (h:RWA w p F ia ic L q W) (hc:Ch w.heap.size (fun x=>x=sb) w w2) (hn:¬F sb) (hi:¬obl ia sb) (hk:0<W.kd.length):RWA w2 p F ia ic L q W:=by
 obtain ⟨gk,ck,aP,aT,cP,cT,h⟩:=h;exact ⟨gk,ck,aP,aT,cP,cT,h.keep hc.size (fun g hg=>hc.block g (h.lt g hg) (fun e=>hn (e▸hg))) (fun g hg=>hc.block g (h.ilt hk g hg) (fun e=>hi (e▸hg)))⟩
theorem Step.notin (h:Step F F2 w w2) {b:Nat} (hb:b<w.heap.size) (hn:¬F b):¬F2 b:=fun e=>by
 rcases h.2 b e with h|h
 ·exact hn h
 ·omega
theorem LfI.next (h:LfI w wr p F F' ia ic L q W l g rb sb k W' s' fin) (hk:k<l.length) (hb:W'.bad=false) (hW:0<W.kd.length) (hx:okC false (l.getD k c40)=true) (h2:RWA w2 p F2 ia ic L q (wpc L W' (l.getD k c40))) (st:Step F' F2 wr w2) (hrs:¬rb=sb):
  (At3 w2 sb s'∧∀b off,g=some ⟨b,off,none⟩→At4 w2 b (off+k*4) (l.getD k c40))∧∀w5,Ch w2.heap.size (fun x=>x=sb) w2 w5→At3 w5 sb ⟨s'.p+1,s'.b+(l.getD k c40).c,s'.l+(l.getD k c40).d⟩→LfI w w5 p F F2 ia ic L q W l g rb sb (k+1) (wpc L W' (l.getD k c40)) ⟨s'.p+1,s'.b+(l.getD k c40).c,s'.l+(l.getD k c40).d⟩ fin:=by
 obtain ⟨hrw,hwk,hkl,hfin,h3,h3r,hrow,⟨hn1,hi1,hsw⟩,hn2,hi2,hst,b1,b2,b3⟩:=h;have hob:=okC_bd hx;have hob5:=hob.2.2.2.2 rfl;have hsb:sb<wr.heap.size:=h3.lt;have hrb:rb<wr.heap.size:=h3r.lt;refine ⟨⟨h3.keep (st.1.block sb hsb hn1),fun b off hg=>?_⟩,fun w5 hc h35=>?_⟩
 ·obtain ⟨b',off',hg',hnb,-,a4⟩:=hrow k hk;rw [hg] at hg';cases hg';exact a4.same (st.1.block b a4.lt hnb)
 ·have hl2:(wpc L W' (l.getD k c40)).kd.length=W.kd.length:=(wpc_len _ _ _).trans hkl;refine ⟨h2.other hc (st.notin hsb hn1) hi1 (by omega),wpc_ok hwk hx,hl2,(lfGo_step hk hb).symm.trans hfin,h35,?_,fun j hj=>?_,⟨st.notin hsb hn1,hi1,hsw⟩,st.notin hrb hn2,hi2,?_,?_,?_,?_⟩
  ·exact (h3r.keep (st.1.block rb hrb hn2)).keep (hc.block rb (Nat.lt_of_lt_of_le hrb st.1.size) hrs)
  ·obtain ⟨b,off,hg,hnb,hbs,a4⟩:=hrow j hj;exact ⟨b,off,hg,st.notin a4.lt hnb,hbs,(a4.same (st.1.block b a4.lt hnb)).same (hc.block b (Nat.lt_of_lt_of_le a4.lt st.1.size) hbs)⟩
  ·have h1:Step F F2 w w2:=hst.trans st;exact ⟨h1.1.trans (hc.mono h1.1.size (fun k hk e=>by omega)),h1.2⟩
  ·simp only;omega
  ·simp only;omega
  ·simp only;omega
end
section
variable {w w':World} {p ic:Nat} {F:Nat→Prop} {ia:Option Addr} {L:List Int} {q:Nat→Value} {W:Wk}
set_option maxRecDepth 20000 in
theorem leaf_r (h:RWA w p F ia ic L q W) (hbad:W.bad=false) (hok:WkOk W) (hk0:0<W.kd.length) (a':Addr) (c':Nat) (z:List Int) (hz:Row w (some a') c' z) (hl:z.length=256) (hE:reE false z=0):
  Calls Tryz.prog 71 #[.pointer (some ⟨p,0,none⟩),.slice (some a') 256 c',.bool true] w fun e w'=>e=.returned (s3V (wlf L z true W).2)∧∃F',RWA w' p F' ia ic L q (wlf L z true W).1∧Step F F' w w':=by
 obtain ⟨gk,ck,aP,aT,cP,cT,h⟩:=h;obtain ⟨l,hL⟩:∃l,reL false z=l:=⟨_,rfl⟩;have hlb:=reL_bd (t:=false) hz.1;rw [hL] at hlb;obtain ⟨E,hEE⟩:∃E,reE false z=E:=⟨_,rfl⟩;have hpc:=rpieces_v (some a') c' 256 z (w.alloc (.cells #[.int .i64 0,.int .i64 0,.int .i64 0] 98)) (hz.below ((Below.refl _ w).alloc (Nat.le_refl _) _)) hl E hEE l hL _ rfl
 have HFB:Hid (lfB z true=false):=by
  show lfB z _=_;unfold lfB;rw [hL];rw [hE];rfl
 have HX:Hid (RW w p F ia ic L gk ck aP aT cP cT q W):=h
 have HR0:Hid (∀w1,Below (w.alloc (.cells #[.int .i64 0,.int .i64 0,.int .i64 0] 98)).heap.size (w.alloc (.cells #[.int .i64 0,.int .i64 0,.int .i64 0] 98)) w1→Below w.heap.size w w1∧At3 w1 w.heap.size s30∧w.heap.size<w1.heap.size):=fun w1 hb=>by
  refine ⟨((Below.refl _ w).alloc (Nat.le_refl _) _).trans (hb.mono (by simp)),?_,by have:=hb.size;simp at this;omega⟩;show w1.heap[w.heap.size]?=_;rw [hb.block w.heap.size (by simp)];exact heap_alloc_new w _
 have HIL:Hid (∀k,obl ia k→k<w.heap.size):=h.ilt hk0;have HOK:Hid (WkOk W∧W.bad=false∧0<W.kd.length∧reL false z=l):=⟨hok,hbad,hk0,hL⟩;have HLB:Hid (∀x∈l,okC false x=true):=hlb.2;have HFL:Hid (∀k,F k→k<w.heap.size):=h.lt;obtain ⟨m,hm⟩:∃m,l.length=m:=⟨_,rfl⟩;have hm20:m≤20:=by omega
 rw [hm] at hpc;have HM:Hid (l.length=m):=hm;obtain ⟨rb,hrb⟩:∃rb,w.heap.size=rb:=⟨_,rfl⟩;have HRB:Hid (w.heap.size=rb):=hrb;have HP:Hid (p<w.heap.size):=h.lt p h.fp;have hE0:E=0:=hEE.symm.trans hE;subst hE0;clear h hz hl hE hL hlb hm hbad hok hk0 hrb hEE;go_enter Tryz.func71,Tryz.ntmps71
 go_wp2_with fail
 refine hpc.mono ?_;clear hpc;rintro e w1 ⟨g,c,rfl,hown,hb1⟩;obtain ⟨hb,h3r,hsz⟩:=HR0.out w1 hb1;rw [HRB.out] at h3r ⊢
 have HLO:Hid (∀k,obl g k→rb<k∧k<w1.heap.size):=fun k hk=>by
  have:=World.ownsRow.lt hown k (own_obl hk);simp at this;have:=HRB.out;omega
 have HRC:Hid (RowC w1 g c l):=(OwnC.row' hown (fun x hx=>wfC_ok (HLB.out x hx))).2.1;have HB:Hid (Below w.heap.size w w1∧rb<w1.heap.size):=⟨hb,by have:=HRB.out;omega⟩;have H1:Hid (RW w1 p F ia ic L gk ck aP aT cP cT q W):=HX.out.below HOK.out.2.2.1 hb;have H3R:Hid (At3 w1 rb s30):=h3r;obtain ⟨-,-,-,-,c16⟩:=H1.out.at;have z16:=H1.out.frz 16;rw [HOK.out.2.1] at c16;clear hown hb1 hb h3r hsz HR0;have hlp:p<w1.heap.size:=H1.out.lt p H1.out.fp;have HS:Hid (RW w1 p F ia ic L gk ck aP aT cP cT q W∧Ch w.heap.size F w w1∧At3 w1 rb s30∧RowC w1 g c l∧w1.heap.size=w1.heap.size):=⟨H1.out,Ch.of F HB.out.1,H3R.out,HRC.out,rfl⟩;go_wp2
 have HI0:Hid (LfI w (w1.alloc (.cells #[.int .i64 0,.int .i64 0,.int .i64 0] 98)) p F F ia ic L q W l g rb w1.heap.size 0 W s30 (wlf L z true W)):=by
  obtain ⟨k1,k2,k3,k4,k5⟩:=HS.out;have hbl:=(Below.refl w1.heap.size w1).alloc (Nat.le_refl _) (.cells #[.int .i64 0,.int .i64 0,.int .i64 0] 98);have hsz:rb<w1.heap.size:=by have:=HB.out.2;omega
  refine ⟨⟨_,_,_,_,_,_,k1.below HOK.out.2.2.1 hbl⟩,HOK.out.1,rfl,?_,heap_alloc_new w1 _,k3.keep (hbl.block rb hsz),fun j hj=>?_,⟨fun e=>?_,fun e=>?_,by have:=HRB.out;omega⟩,fun e=>?_,fun e=>?_,⟨k2.trans (Ch.of F (hbl.mono k2.size)),fun k hk=>.inl hk⟩,⟨Int.le_refl _,Int.le_refl _⟩,⟨Int.le_refl _,Int.le_refl _⟩,⟨Int.le_refl _,Int.le_refl _⟩⟩
  ·unfold wlf;rw [HOK.out.2.2.2,HFB.out,HOK.out.2.1,List.drop_zero];have:({W with bad:=false||false}:Wk)=W:=by cases W;simp only [Bool.or_false];congr 1;exact HOK.out.2.1.symm
   rw [this]
  ·obtain ⟨b,off,hg⟩:=k4.some' (by omega);have hlo:=HLO.out b ⟨_,hg,rfl⟩;refine ⟨b,off,hg,fun e=>?_,by omega,?_⟩
   ·have:=HFL.out b e;have:=HRB.out;omega
   ·subst hg;exact (k4.cells j hj).below hbl
  ·have:=HFL.out _ e;have:=HRB.out;omega
  ·have:=HIL.out _ e;have:=HRB.out;omega
  ·have:=HFL.out _ e;have:=HRB.out;omega
  ·have:=HIL.out _ e;have:=HRB.out;omega
 obtain ⟨sb,hsb⟩:∃sb,w1.heap.size=sb:=⟨_,rfl⟩;have HRS:Hid (rb<sb):=by show _<_;rw [←hsb];exact HB.out.2
 rw [hsb] at HI0 ⊢;clear HS HRC H3R c16 z16 HB HLO;obtain ⟨w3,hw3⟩:∃w3,w1.alloc (.cells #[.int .i64 0,.int .i64 0,.int .i64 0] 98)=w3:=⟨_,rfl⟩;rw [hw3] at HI0 ⊢;clear hw3 hsb;go_loopw [10] (fun i wr=>∃(k:Nat) (W':Wk) (s':S3) (F':Nat→Prop),k≤m∧i=.int .i64 k∧Hid (LfI w wr p F F' ia ic L q W l g rb sb k W' s' (wlf L z true W))) (fun i _=>m-(intOf i).toNat)
 case atStart=>exact ⟨0,_,_,_,Nat.zero_le _,rfl,HI0.out⟩
 case round=>
  clear HI0;obtain ⟨k,W',s',F',hk,rfl,HI⟩:=hrel;obtain ⟨hrw,hwk,hkl,hfin,h3,h3r,hrow,⟨hn1,hi1,hsw⟩,hn2,hi2,hst,hbd⟩:=id HI.out;obtain ⟨gk,ck,aP,aT,cP,cT,hR⟩:=id hrw;obtain ⟨-,-,-,-,c16⟩:=hR.at;have HRW:Hid (RWA wr p F' ia ic L q W'):=hrw;obtain ⟨e0,e1,e2⟩:=h3.at;obtain ⟨r0,r1,r2⟩:=h3r.at;have t0:=h3r.frz 0;have t1:=h3r.frz 1;have t2:=h3r.frz 2
  have HEX:Hid ((∀W1 s1,wlf L z true W=(W1,s1)→W1=W'→s1=s'→At3 (((wr.setCell ⟨rb,0,none⟩ (.int .i64 s'.p)).setCell ⟨rb,1,none⟩ (.int .i64 s'.b)).setCell ⟨rb,2,none⟩ (.int .i64 s'.l)) rb s'∧∃F',RWA (((wr.setCell ⟨rb,0,none⟩ (.int .i64 s'.p)).setCell ⟨rb,1,none⟩ (.int .i64 s'.b)).setCell ⟨rb,2,none⟩ (.int .i64 s'.l)) p F' ia ic L q W'∧Step F F' w (((wr.setCell ⟨rb,0,none⟩ (.int .i64 s'.p)).setCell ⟨rb,1,none⟩ (.int .i64 s'.b)).setCell ⟨rb,2,none⟩ (.int .i64 s'.l)))):=by
   intro W1 s1 _ _ _;have hch:Ch wr.heap.size (fun x=>x=rb) wr (((wr.setCell ⟨rb,0,none⟩ (.int .i64 s'.p)).setCell ⟨rb,1,none⟩ (.int .i64 s'.b)).setCell ⟨rb,2,none⟩ (.int .i64 s'.l)):=(((Ch.refl _ (fun x=>x=rb) wr).setCell (p:=⟨rb,0,none⟩) (.inr rfl) _).setCell (p:=⟨rb,1,none⟩) (.inr rfl) _).setCell (p:=⟨rb,2,none⟩) (.inr rfl) _;refine ⟨((h3r.set0 _).set1 _).set2 _,F',hrw.other hch hn2 hi2 (by have:=HOK.out.2.2.1;omega),⟨hst.1.trans (hch.mono hst.1.size (fun k hk e=>by have:=HRB.out;omega)),hst.2⟩⟩
  have hrs:¬rb=sb:=by have:=HRS.out;omega
  cases hbad':W'.bad with
  |true=>
   rw [hbad'] at c16;have HFI:Hid (wlf L z true W=(W',s')):=hfin.symm.trans (lfGo_bad hbad');clear hrw hR hwk hkl hfin h3 h3r hrow hn1 hi1 hsw hn2 hi2 hst hbd hbad' HI;by_cases hlt:k<m
   ·go_wp2;obtain ⟨x3,F3,x1,x2⟩:=HEX.out W' s' HFI.out rfl rfl;refine bodyPost_ret (results_cell_row rfl _ _ rb _ #[.int .i64 s'.p,.int .i64 s'.b,.int .i64 s'.l] (0,0) _ rfl x3 Tryz.underlying98 rfl (by kernel_rfl)) rfl ?_;rw [HFI.out];exact ⟨rfl,F3,x1,x2⟩
   ·go_wp2;obtain ⟨x3,F3,x1,x2⟩:=HEX.out W' s' HFI.out rfl rfl;refine bodyPost_ret (results_cell_row rfl _ _ rb _ #[.int .i64 s'.p,.int .i64 s'.b,.int .i64 s'.l] (0,0) _ rfl x3 Tryz.underlying98 rfl (by kernel_rfl)) rfl ?_;rw [HFI.out];exact ⟨rfl,F3,x1,x2⟩
  |false=>
   rw [hbad'] at c16;by_cases hlt:k<m
   ·have hkl':k<l.length:=by rw [HM.out];exact hlt
    obtain ⟨b,off,hg,-,hbs,a4⟩:=hrow k hkl';subst hg;have hxo:=HLB.out _ (getD_mem hkl');have hp:=piece_any hrw hbad' hwk (by have:=HOK.out.2.2.1;omega) _ hxo;have HNX:Hid (∀w2 F2,RWA w2 p F2 ia ic L q (wpc L W' (l.getD k c40))→Step F' F2 wr w2→_):=fun w2 F2 h2 st=>HI.out.next hkl' hbad' HOK.out.2.2.1 hxo h2 st hrs
    have hob:=okC_bd hxo;have hob5:=hob.2.2.2.2 rfl;obtain ⟨b1,b2,b3⟩:=hbd;obtain ⟨x,hx⟩:∃x,l.getD k c40=x:=⟨_,rfl⟩;rw [hx] at hp HNX a4 hob hob5;obtain ⟨xa,xb,xc,xd⟩:=x;obtain ⟨a40,a41,a42,a43⟩:=a4;unfold c4V at hp;simp only at hp HNX a40 a41 a42 a43 hob hob5;clear hrw hR hwk hkl hfin h3 h3r hrow hn1 hi1 hsw hn2 hi2 hst hbad' HI HEX hx hxo hkl' e0 e1 e2 r0 r1 r2 t0 t1 t2;go_wp2_with (go_at_call 99;refine hp.mono ?_;clear hp;rintro e w2 ⟨rfl,F2,h2,st2⟩;obtain ⟨⟨h3',a4'⟩,hnx⟩:=HNX.out w2 F2 h2 st2;obtain ⟨v40,v41,v42,v43⟩:=a4' b off rfl;simp only at v40 v41 v42 v43;obtain ⟨e0,e1,e2⟩:=h3'.at;have y0:=h3'.frz 0;have y1:=h3'.frz 1;have y2:=h3'.frz 2;have HNX2:Hid _:=hnx;have H3P:Hid (At3 w2 sb s'):=h3';clear h2 st2 h3' a4' hnx HNX c16 a40 a41 a42 a43)
    obtain ⟨sp,sbb,sl⟩:=s';simp only at e0 e1 e2 b1 b2 b3;go_region
    go_wp2;go_region
    go_wp2;go_roundw
    case rel=>exact ⟨k+1,_,_,F2,by omega,by go_num,HNX2.out _ ((((((Ch.refl _ (fun x=>x=sb) w2).setCell (p:=⟨sb,0,none⟩) (.inr rfl) _).drew).setCell (p:=⟨sb,1,none⟩) (.inr rfl) _).drew).setCell (p:=⟨sb,2,none⟩) (.inr rfl) _) (((H3P.out.set0 _).set1 _).set2 _)⟩
    case measure=>simp [intOf];omega
   ·have hk':k=m:=by omega
    have HFI:Hid (wlf L z true W=(W',s')):=by
     have:=hfin.symm;rw [hk',←HM.out,List.drop_length] at this;exact this
    clear hrw hR hwk hkl hfin h3 h3r hrow hn1 hi1 hsw hn2 hi2 hst hbd hbad' HI;go_wp2;obtain ⟨x3,F3,x1,x2⟩:=HEX.out W' s' HFI.out rfl rfl;refine bodyPost_ret (results_cell_row rfl _ _ rb _ #[.int .i64 s'.p,.int .i64 s'.b,.int .i64 s'.l] (0,0) _ rfl x3 Tryz.underlying98 rfl (by kernel_rfl)) rfl ?_;rw [HFI.out];exact ⟨rfl,F3,x1,x2⟩
set_option maxRecDepth 20000 in
theorem leaf_n (h:RWA w p F ia ic L q W) (hbad:W.bad=false) (hok:WkOk W) (hk0:0<W.kd.length) (a':Addr) (c':Nat) (z:List Int) (hz:Row w (some a') c' z) (hl:z.length=256) (hE:reE false z=0) (hmm:10≤(reL false z).length):
  Calls Tryz.prog 71 #[.pointer (some ⟨p,0,none⟩),.slice (some a') 256 c',.bool false] w fun e w'=>e=.returned (s3V (wlf L z false W).2)∧∃F',RWA w' p F' ia ic L q (wlf L z false W).1∧Step F F' w w':=by
 obtain ⟨gk,ck,aP,aT,cP,cT,h⟩:=h;obtain ⟨l,hL⟩:∃l,reL false z=l:=⟨_,rfl⟩;have hlb:=reL_bd (t:=false) hz.1;rw [hL] at hlb hmm;obtain ⟨E,hEE⟩:∃E,reE false z=E:=⟨_,rfl⟩;have hpc:=rpieces_v (some a') c' 256 z (w.alloc (.cells #[.int .i64 0,.int .i64 0,.int .i64 0] 98)) (hz.below ((Below.refl _ w).alloc (Nat.le_refl _) _)) hl E hEE l hL _ rfl
 have HFB:Hid (lfB z false=false):=by
  show lfB z _=_;unfold lfB;rw [hL];rw [hE,decide_eq_false (by omega)];rfl
 have HX:Hid (RW w p F ia ic L gk ck aP aT cP cT q W):=h
 have HR0:Hid (∀w1,Below (w.alloc (.cells #[.int .i64 0,.int .i64 0,.int .i64 0] 98)).heap.size (w.alloc (.cells #[.int .i64 0,.int .i64 0,.int .i64 0] 98)) w1→Below w.heap.size w w1∧At3 w1 w.heap.size s30∧w.heap.size<w1.heap.size):=fun w1 hb=>by
  refine ⟨((Below.refl _ w).alloc (Nat.le_refl _) _).trans (hb.mono (by simp)),?_,by have:=hb.size;simp at this;omega⟩;show w1.heap[w.heap.size]?=_;rw [hb.block w.heap.size (by simp)];exact heap_alloc_new w _
 have HIL:Hid (∀k,obl ia k→k<w.heap.size):=h.ilt hk0;have HOK:Hid (WkOk W∧W.bad=false∧0<W.kd.length∧reL false z=l):=⟨hok,hbad,hk0,hL⟩;have HLB:Hid (∀x∈l,okC false x=true):=hlb.2;have HFL:Hid (∀k,F k→k<w.heap.size):=h.lt;obtain ⟨m,hm⟩:∃m,l.length=m:=⟨_,rfl⟩;have hm20:m≤20:=by omega
 rw [hm] at hpc hmm;have HM:Hid (l.length=m):=hm;obtain ⟨rb,hrb⟩:∃rb,w.heap.size=rb:=⟨_,rfl⟩;have HRB:Hid (w.heap.size=rb):=hrb;have HP:Hid (p<w.heap.size):=h.lt p h.fp;have hE0:E=0:=hEE.symm.trans hE;subst hE0;clear h hz hl hE hL hlb hm hbad hok hk0 hrb hEE;go_enter Tryz.func71,Tryz.ntmps71
 go_wp2_with fail
 refine hpc.mono ?_;clear hpc;rintro e w1 ⟨g,c,rfl,hown,hb1⟩;obtain ⟨hb,h3r,hsz⟩:=HR0.out w1 hb1;rw [HRB.out] at h3r ⊢
 have HLO:Hid (∀k,obl g k→rb<k∧k<w1.heap.size):=fun k hk=>by
  have:=World.ownsRow.lt hown k (own_obl hk);simp at this;have:=HRB.out;omega
 have HRC:Hid (RowC w1 g c l):=(OwnC.row' hown (fun x hx=>wfC_ok (HLB.out x hx))).2.1;have HB:Hid (Below w.heap.size w w1∧rb<w1.heap.size):=⟨hb,by have:=HRB.out;omega⟩;have H1:Hid (RW w1 p F ia ic L gk ck aP aT cP cT q W):=HX.out.below HOK.out.2.2.1 hb;have H3R:Hid (At3 w1 rb s30):=h3r;obtain ⟨-,-,-,-,c16⟩:=H1.out.at;have z16:=H1.out.frz 16;rw [HOK.out.2.1] at c16;clear hown hb1 hb h3r hsz HR0;have hlp:p<w1.heap.size:=H1.out.lt p H1.out.fp;have HS:Hid (RW w1 p F ia ic L gk ck aP aT cP cT q W∧Ch w.heap.size F w w1∧At3 w1 rb s30∧RowC w1 g c l∧w1.heap.size=w1.heap.size):=⟨H1.out,Ch.of F HB.out.1,H3R.out,HRC.out,rfl⟩;go_wp2
 have HI0:Hid (LfI w (w1.alloc (.cells #[.int .i64 0,.int .i64 0,.int .i64 0] 98)) p F F ia ic L q W l g rb w1.heap.size 0 W s30 (wlf L z false W)):=by
  obtain ⟨k1,k2,k3,k4,k5⟩:=HS.out;have hbl:=(Below.refl w1.heap.size w1).alloc (Nat.le_refl _) (.cells #[.int .i64 0,.int .i64 0,.int .i64 0] 98);have hsz:rb<w1.heap.size:=by have:=HB.out.2;omega
  refine ⟨⟨_,_,_,_,_,_,k1.below HOK.out.2.2.1 hbl⟩,HOK.out.1,rfl,?_,heap_alloc_new w1 _,k3.keep (hbl.block rb hsz),fun j hj=>?_,⟨fun e=>?_,fun e=>?_,by have:=HRB.out;omega⟩,fun e=>?_,fun e=>?_,⟨k2.trans (Ch.of F (hbl.mono k2.size)),fun k hk=>.inl hk⟩,⟨Int.le_refl _,Int.le_refl _⟩,⟨Int.le_refl _,Int.le_refl _⟩,⟨Int.le_refl _,Int.le_refl _⟩⟩
  ·unfold wlf;rw [HOK.out.2.2.2,HFB.out,HOK.out.2.1,List.drop_zero];have:({W with bad:=false||false}:Wk)=W:=by cases W;simp only [Bool.or_false];congr 1;exact HOK.out.2.1.symm
   rw [this]
  ·obtain ⟨b,off,hg⟩:=k4.some' (by omega);have hlo:=HLO.out b ⟨_,hg,rfl⟩;refine ⟨b,off,hg,fun e=>?_,by omega,?_⟩
   ·have:=HFL.out b e;have:=HRB.out;omega
   ·subst hg;exact (k4.cells j hj).below hbl
  ·have:=HFL.out _ e;have:=HRB.out;omega
  ·have:=HIL.out _ e;have:=HRB.out;omega
  ·have:=HFL.out _ e;have:=HRB.out;omega
  ·have:=HIL.out _ e;have:=HRB.out;omega
 obtain ⟨sb,hsb⟩:∃sb,w1.heap.size=sb:=⟨_,rfl⟩;have HRS:Hid (rb<sb):=by show _<_;rw [←hsb];exact HB.out.2
 rw [hsb] at HI0 ⊢;clear HS HRC H3R c16 z16 HB HLO hmm;obtain ⟨w3,hw3⟩:∃w3,w1.alloc (.cells #[.int .i64 0,.int .i64 0,.int .i64 0] 98)=w3:=⟨_,rfl⟩;rw [hw3] at HI0 ⊢;clear hw3 hsb;go_loopw [10] (fun i wr=>∃(k:Nat) (W':Wk) (s':S3) (F':Nat→Prop),k≤m∧i=.int .i64 k∧Hid (LfI w wr p F F' ia ic L q W l g rb sb k W' s' (wlf L z false W))) (fun i _=>m-(intOf i).toNat)
 case atStart=>exact ⟨0,_,_,_,Nat.zero_le _,rfl,HI0.out⟩
 case round=>
  clear HI0;obtain ⟨k,W',s',F',hk,rfl,HI⟩:=hrel;obtain ⟨hrw,hwk,hkl,hfin,h3,h3r,hrow,⟨hn1,hi1,hsw⟩,hn2,hi2,hst,hbd⟩:=id HI.out;obtain ⟨gk,ck,aP,aT,cP,cT,hR⟩:=id hrw;obtain ⟨-,-,-,-,c16⟩:=hR.at;have HRW:Hid (RWA wr p F' ia ic L q W'):=hrw;obtain ⟨e0,e1,e2⟩:=h3.at;obtain ⟨r0,r1,r2⟩:=h3r.at;have t0:=h3r.frz 0;have t1:=h3r.frz 1;have t2:=h3r.frz 2
  have HEX:Hid ((∀W1 s1,wlf L z false W=(W1,s1)→W1=W'→s1=s'→At3 (((wr.setCell ⟨rb,0,none⟩ (.int .i64 s'.p)).setCell ⟨rb,1,none⟩ (.int .i64 s'.b)).setCell ⟨rb,2,none⟩ (.int .i64 s'.l)) rb s'∧∃F',RWA (((wr.setCell ⟨rb,0,none⟩ (.int .i64 s'.p)).setCell ⟨rb,1,none⟩ (.int .i64 s'.b)).setCell ⟨rb,2,none⟩ (.int .i64 s'.l)) p F' ia ic L q W'∧Step F F' w (((wr.setCell ⟨rb,0,none⟩ (.int .i64 s'.p)).setCell ⟨rb,1,none⟩ (.int .i64 s'.b)).setCell ⟨rb,2,none⟩ (.int .i64 s'.l)))):=by
   intro W1 s1 _ _ _;have hch:Ch wr.heap.size (fun x=>x=rb) wr (((wr.setCell ⟨rb,0,none⟩ (.int .i64 s'.p)).setCell ⟨rb,1,none⟩ (.int .i64 s'.b)).setCell ⟨rb,2,none⟩ (.int .i64 s'.l)):=(((Ch.refl _ (fun x=>x=rb) wr).setCell (p:=⟨rb,0,none⟩) (.inr rfl) _).setCell (p:=⟨rb,1,none⟩) (.inr rfl) _).setCell (p:=⟨rb,2,none⟩) (.inr rfl) _;refine ⟨((h3r.set0 _).set1 _).set2 _,F',hrw.other hch hn2 hi2 (by have:=HOK.out.2.2.1;omega),⟨hst.1.trans (hch.mono hst.1.size (fun k hk e=>by have:=HRB.out;omega)),hst.2⟩⟩
  have hrs:¬rb=sb:=by have:=HRS.out;omega
  cases hbad':W'.bad with
  |true=>
   rw [hbad'] at c16;have HFI:Hid (wlf L z false W=(W',s')):=hfin.symm.trans (lfGo_bad hbad');clear hrw hR hwk hkl hfin h3 h3r hrow hn1 hi1 hsw hn2 hi2 hst hbd hbad' HI;by_cases hlt:k<m
   ·go_wp2;obtain ⟨x3,F3,x1,x2⟩:=HEX.out W' s' HFI.out rfl rfl;refine bodyPost_ret (results_cell_row rfl _ _ rb _ #[.int .i64 s'.p,.int .i64 s'.b,.int .i64 s'.l] (0,0) _ rfl x3 Tryz.underlying98 rfl (by kernel_rfl)) rfl ?_;rw [HFI.out];exact ⟨rfl,F3,x1,x2⟩
   ·go_wp2;obtain ⟨x3,F3,x1,x2⟩:=HEX.out W' s' HFI.out rfl rfl;refine bodyPost_ret (results_cell_row rfl _ _ rb _ #[.int .i64 s'.p,.int .i64 s'.b,.int .i64 s'.l] (0,0) _ rfl x3 Tryz.underlying98 rfl (by kernel_rfl)) rfl ?_;rw [HFI.out];exact ⟨rfl,F3,x1,x2⟩
  |false=>
   rw [hbad'] at c16;by_cases hlt:k<m
   ·have hkl':k<l.length:=by rw [HM.out];exact hlt
    obtain ⟨b,off,hg,-,hbs,a4⟩:=hrow k hkl';subst hg;have hxo:=HLB.out _ (getD_mem hkl');have hp:=piece_any hrw hbad' hwk (by have:=HOK.out.2.2.1;omega) _ hxo;have HNX:Hid (∀w2 F2,RWA w2 p F2 ia ic L q (wpc L W' (l.getD k c40))→Step F' F2 wr w2→_):=fun w2 F2 h2 st=>HI.out.next hkl' hbad' HOK.out.2.2.1 hxo h2 st hrs
    have hob:=okC_bd hxo;have hob5:=hob.2.2.2.2 rfl;obtain ⟨b1,b2,b3⟩:=hbd;obtain ⟨x,hx⟩:∃x,l.getD k c40=x:=⟨_,rfl⟩;rw [hx] at hp HNX a4 hob hob5;obtain ⟨xa,xb,xc,xd⟩:=x;obtain ⟨a40,a41,a42,a43⟩:=a4;unfold c4V at hp;simp only at hp HNX a40 a41 a42 a43 hob hob5;clear hrw hR hwk hkl hfin h3 h3r hrow hn1 hi1 hsw hn2 hi2 hst hbad' HI HEX hx hxo hkl' e0 e1 e2 r0 r1 r2 t0 t1 t2;go_wp2_with (go_at_call 99;refine hp.mono ?_;clear hp;rintro e w2 ⟨rfl,F2,h2,st2⟩;obtain ⟨⟨h3',a4'⟩,hnx⟩:=HNX.out w2 F2 h2 st2;obtain ⟨v40,v41,v42,v43⟩:=a4' b off rfl;simp only at v40 v41 v42 v43;obtain ⟨e0,e1,e2⟩:=h3'.at;have y0:=h3'.frz 0;have y1:=h3'.frz 1;have y2:=h3'.frz 2;have HNX2:Hid _:=hnx;have H3P:Hid (At3 w2 sb s'):=h3';clear h2 st2 h3' a4' hnx HNX c16 a40 a41 a42 a43)
    obtain ⟨sp,sbb,sl⟩:=s';simp only at e0 e1 e2 b1 b2 b3;go_region
    go_wp2;go_region
    go_wp2;go_roundw
    case rel=>exact ⟨k+1,_,_,F2,by omega,by go_num,HNX2.out _ ((((((Ch.refl _ (fun x=>x=sb) w2).setCell (p:=⟨sb,0,none⟩) (.inr rfl) _).drew).setCell (p:=⟨sb,1,none⟩) (.inr rfl) _).drew).setCell (p:=⟨sb,2,none⟩) (.inr rfl) _) (((H3P.out.set0 _).set1 _).set2 _)⟩
    case measure=>simp [intOf];omega
   ·have hk':k=m:=by omega
    have HFI:Hid (wlf L z false W=(W',s')):=by
     have:=hfin.symm;rw [hk',←HM.out,List.drop_length] at this;exact this
    clear hrw hR hwk hkl hfin h3 h3r hrow hn1 hi1 hsw hn2 hi2 hst hbd hbad' HI;go_wp2;obtain ⟨x3,F3,x1,x2⟩:=HEX.out W' s' HFI.out rfl rfl;refine bodyPost_ret (results_cell_row rfl _ _ rb _ #[.int .i64 s'.p,.int .i64 s'.b,.int .i64 s'.l] (0,0) _ rfl x3 Tryz.underlying98 rfl (by kernel_rfl)) rfl ?_;rw [HFI.out];exact ⟨rfl,F3,x1,x2⟩
set_option maxRecDepth 20000 in
theorem leaf_s (h:RWA w p F ia ic L q W) (hbad:W.bad=false) (hok:WkOk W) (hk0:0<W.kd.length) (a':Addr) (c':Nat) (z:List Int) (hz:Row w (some a') c' z) (hl:z.length=256) (hE:reE false z=0) (hmm:(reL false z).length<10):
  Calls Tryz.prog 71 #[.pointer (some ⟨p,0,none⟩),.slice (some a') 256 c',.bool false] w fun e w'=>e=.returned (s3V (wlf L z false W).2)∧∃F',RWA w' p F' ia ic L q (wlf L z false W).1∧Step F F' w w':=by
 obtain ⟨gk,ck,aP,aT,cP,cT,h⟩:=h;obtain ⟨l,hL⟩:∃l,reL false z=l:=⟨_,rfl⟩;have hlb:=reL_bd (t:=false) hz.1;rw [hL] at hlb hmm;obtain ⟨E,hEE⟩:∃E,reE false z=E:=⟨_,rfl⟩;have hpc:=rpieces_v (some a') c' 256 z (w.alloc (.cells #[.int .i64 0,.int .i64 0,.int .i64 0] 98)) (hz.below ((Below.refl _ w).alloc (Nat.le_refl _) _)) hl E hEE l hL _ rfl
 have HFB:Hid (lfB z false=true):=by
  show lfB z _=_;unfold lfB;rw [hL];rw [hE,decide_eq_true (by omega)];rfl
 have HX:Hid (RW w p F ia ic L gk ck aP aT cP cT q W):=h
 have HR0:Hid (∀w1,Below (w.alloc (.cells #[.int .i64 0,.int .i64 0,.int .i64 0] 98)).heap.size (w.alloc (.cells #[.int .i64 0,.int .i64 0,.int .i64 0] 98)) w1→Below w.heap.size w w1∧At3 w1 w.heap.size s30∧w.heap.size<w1.heap.size):=fun w1 hb=>by
  refine ⟨((Below.refl _ w).alloc (Nat.le_refl _) _).trans (hb.mono (by simp)),?_,by have:=hb.size;simp at this;omega⟩;show w1.heap[w.heap.size]?=_;rw [hb.block w.heap.size (by simp)];exact heap_alloc_new w _
 have HIL:Hid (∀k,obl ia k→k<w.heap.size):=h.ilt hk0;have HOK:Hid (WkOk W∧W.bad=false∧0<W.kd.length∧reL false z=l):=⟨hok,hbad,hk0,hL⟩;have HLB:Hid (∀x∈l,okC false x=true):=hlb.2;have HFL:Hid (∀k,F k→k<w.heap.size):=h.lt;obtain ⟨m,hm⟩:∃m,l.length=m:=⟨_,rfl⟩;have hm20:m≤20:=by omega
 rw [hm] at hpc hmm;have HM:Hid (l.length=m):=hm;obtain ⟨rb,hrb⟩:∃rb,w.heap.size=rb:=⟨_,rfl⟩;have HRB:Hid (w.heap.size=rb):=hrb;have HP:Hid (p<w.heap.size):=h.lt p h.fp;have hE0:E=0:=hEE.symm.trans hE;subst hE0;clear h hz hl hE hL hlb hm hbad hok hk0 hrb hEE;go_enter Tryz.func71,Tryz.ntmps71
 go_wp2_with fail
 refine hpc.mono ?_;clear hpc;rintro e w1 ⟨g,c,rfl,hown,hb1⟩;obtain ⟨hb,h3r,hsz⟩:=HR0.out w1 hb1;rw [HRB.out] at h3r ⊢
 have HLO:Hid (∀k,obl g k→rb<k∧k<w1.heap.size):=fun k hk=>by
  have:=World.ownsRow.lt hown k (own_obl hk);simp at this;have:=HRB.out;omega
 have HRC:Hid (RowC w1 g c l):=(OwnC.row' hown (fun x hx=>wfC_ok (HLB.out x hx))).2.1;have HB:Hid (Below w.heap.size w w1∧rb<w1.heap.size):=⟨hb,by have:=HRB.out;omega⟩;have H1:Hid (RW w1 p F ia ic L gk ck aP aT cP cT q W):=HX.out.below HOK.out.2.2.1 hb;have H3R:Hid (At3 w1 rb s30):=h3r;obtain ⟨-,-,-,-,c16⟩:=H1.out.at;have z16:=H1.out.frz 16;rw [HOK.out.2.1] at c16;clear hown hb1 hb h3r hsz HR0;have hlp:p<w1.heap.size:=H1.out.lt p H1.out.fp
 have HS:Hid (RW (w1.setCell ⟨p,16,none⟩ (.bool true)) p F ia ic L gk ck aP aT cP cT q {W with bad:=true}∧Ch w.heap.size F w (w1.setCell ⟨p,16,none⟩ (.bool true))∧At3 (w1.setCell ⟨p,16,none⟩ (.bool true)) rb s30∧RowC (w1.setCell ⟨p,16,none⟩ (.bool true)) g c l∧(w1.setCell ⟨p,16,none⟩ (.bool true)).heap.size=w1.heap.size):=by
  have hk:∀k,rb≤k→(w1.setCell ⟨p,16,none⟩ (.bool true)).heap[k]?=w1.heap[k]?:=fun k hk=>Below.heap_setCell w1 ⟨p,16,none⟩ _ k (by show ¬k=p;have:=HP.out;have:=HRB.out;omega)
  refine ⟨H1.out.setBad true,(Ch.of F HB.out.1).setCell (p:=⟨p,16,none⟩) (.inr H1.out.fp) _,H3R.out.keep (hk rb (Nat.le_refl _)),?_,size_setCell _ _ _⟩;obtain ⟨r1,r2,r3,r4⟩:=HRC.out;refine ⟨r1,r2,r3,?_⟩;rcases r4 with r4|⟨b,off,ha,hc⟩
  ·exact .inl r4
  ·exact .inr ⟨b,off,ha,fun i hi=>(hc i hi).same (hk b (by have:=(HLO.out b ⟨_,ha,rfl⟩).1;omega))⟩
 go_wp2;obtain ⟨w2,hw2⟩:∃w2,w1.setCell ⟨p,16,none⟩ (.bool true)=w2:=⟨_,rfl⟩;simp only [hw2] at HS ⊢
 have HI0:Hid (LfI w (w2.alloc (.cells #[.int .i64 0,.int .i64 0,.int .i64 0] 98)) p F F ia ic L q W l g rb w1.heap.size 0 {W with bad:=true} s30 (wlf L z false W)):=by
  obtain ⟨k1,k2,k3,k4,k5⟩:=HS.out;show LfI _ _ _ _ _ _ _ _ _ _ _ _ _ _ _ _ _ _;rw [←k5];have hbl:=(Below.refl w2.heap.size w2).alloc (Nat.le_refl _) (.cells #[.int .i64 0,.int .i64 0,.int .i64 0] 98);have hsz:rb<w2.heap.size:=by have:=HB.out.2;omega
  refine ⟨⟨_,_,_,_,_,_,k1.below HOK.out.2.2.1 hbl⟩,⟨HOK.out.1.1,fun e=>by cases e⟩,rfl,?_,heap_alloc_new w2 _,k3.keep (hbl.block rb hsz),fun j hj=>?_,⟨fun e=>?_,fun e=>?_,by have:=HRB.out;omega⟩,fun e=>?_,fun e=>?_,⟨k2.trans (Ch.of F (hbl.mono k2.size)),fun k hk=>.inl hk⟩,⟨Int.le_refl _,Int.le_refl _⟩,⟨Int.le_refl _,Int.le_refl _⟩,⟨Int.le_refl _,Int.le_refl _⟩⟩
  ·unfold wlf;rw [HOK.out.2.2.2,HFB.out,HOK.out.2.1,List.drop_zero];rfl
  ·obtain ⟨b,off,hg⟩:=k4.some' (by omega);have hlo:=HLO.out b ⟨_,hg,rfl⟩;refine ⟨b,off,hg,fun e=>?_,by omega,?_⟩
   ·have:=HFL.out b e;have:=HRB.out;omega
   ·subst hg;exact (k4.cells j hj).below hbl
  ·have:=HFL.out _ e;have:=HRB.out;omega
  ·have:=HIL.out _ e;have:=HRB.out;omega
  ·have:=HFL.out _ e;have:=HRB.out;omega
  ·have:=HIL.out _ e;have:=HRB.out;omega
 obtain ⟨sb,hsb⟩:∃sb,w1.heap.size=sb:=⟨_,rfl⟩;have HRS:Hid (rb<sb):=by show _<_;rw [←hsb];exact HB.out.2
 rw [hsb] at HI0 ⊢;clear HS HRC H3R c16 z16 HB HLO hw2 hmm;obtain ⟨w3,hw3⟩:∃w3,w2.alloc (.cells #[.int .i64 0,.int .i64 0,.int .i64 0] 98)=w3:=⟨_,rfl⟩;rw [hw3] at HI0 ⊢;clear hw3 hsb;go_loopw [10] (fun i wr=>i=.int .i64 0∧w3=wr) (fun _ _=>0)
 case atStart=>exact ⟨rfl,rfl⟩
 case round=>
  obtain ⟨rfl,rfl⟩:=hrel;obtain ⟨hrw,hwk,hkl,hfin,h3,h3r,hrow,⟨hn1,hi1,hsw⟩,hn2,hi2,hst,hbd⟩:=id HI0.out;obtain ⟨gk,ck,aP,aT,cP,cT,hR⟩:=id hrw;obtain ⟨-,-,-,-,c16⟩:=hR.at;have HRW:Hid (RWA w3 p F ia ic L q {W with bad:=true}):=hrw;obtain ⟨e0,e1,e2⟩:=h3.at;obtain ⟨r0,r1,r2⟩:=h3r.at;have t0:=h3r.frz 0;have t1:=h3r.frz 1;have t2:=h3r.frz 2
  have HEX:Hid ((∀W1 s1,wlf L z false W=(W1,s1)→W1={W with bad:=true}→s1=s30→At3 (((w3.setCell ⟨rb,0,none⟩ (.int .i64 0)).setCell ⟨rb,1,none⟩ (.int .i64 0)).setCell ⟨rb,2,none⟩ (.int .i64 0)) rb s30∧∃G',RWA (((w3.setCell ⟨rb,0,none⟩ (.int .i64 0)).setCell ⟨rb,1,none⟩ (.int .i64 0)).setCell ⟨rb,2,none⟩ (.int .i64 0)) p G' ia ic L q {W with bad:=true}∧Step F G' w (((w3.setCell ⟨rb,0,none⟩ (.int .i64 0)).setCell ⟨rb,1,none⟩ (.int .i64 0)).setCell ⟨rb,2,none⟩ (.int .i64 0)))):=by
   intro W1 s1 _ _ _;have hch:Ch w3.heap.size (fun x=>x=rb) w3 (((w3.setCell ⟨rb,0,none⟩ (.int .i64 0)).setCell ⟨rb,1,none⟩ (.int .i64 0)).setCell ⟨rb,2,none⟩ (.int .i64 0)):=(((Ch.refl _ (fun x=>x=rb) w3).setCell (p:=⟨rb,0,none⟩) (.inr rfl) _).setCell (p:=⟨rb,1,none⟩) (.inr rfl) _).setCell (p:=⟨rb,2,none⟩) (.inr rfl) _;refine ⟨((h3r.set0 _).set1 _).set2 _,F,hrw.other hch hn2 hi2 (by have:=HOK.out.2.2.1;omega),⟨hst.1.trans (hch.mono hst.1.size (fun k hk e=>by have:=HRB.out;omega)),hst.2⟩⟩
  have hrs:¬rb=sb:=by have:=HRS.out;omega
  have HFI:Hid (wlf L z false W=(({W with bad:=true}:Wk),s30)):=hfin.symm.trans (lfGo_bad rfl);clear hrw hR hwk hkl hfin h3 h3r hrow hn1 hi1 hsw hn2 hi2 hst hbd HI0;by_cases hlt:0<m
  ·go_wp2;obtain ⟨x3,F3,x1,x2⟩:=HEX.out ({W with bad:=true}:Wk) s30 HFI.out rfl rfl;refine bodyPost_ret (results_cell_row rfl _ _ rb _ #[.int .i64 0,.int .i64 0,.int .i64 0] (0,0) _ rfl x3 Tryz.underlying98 rfl (by kernel_rfl)) rfl ?_;rw [HFI.out];exact ⟨rfl,F3,x1,x2⟩
  ·go_wp2;obtain ⟨x3,F3,x1,x2⟩:=HEX.out ({W with bad:=true}:Wk) s30 HFI.out rfl rfl;refine bodyPost_ret (results_cell_row rfl _ _ rb _ #[.int .i64 0,.int .i64 0,.int .i64 0] (0,0) _ rfl x3 Tryz.underlying98 rfl (by kernel_rfl)) rfl ?_;rw [HFI.out];exact ⟨rfl,F3,x1,x2⟩
set_option maxRecDepth 20000 in
theorem leaf_e (h:RWA w p F ia ic L q W) (hbad:W.bad=false) (hok:WkOk W) (hk0:0<W.kd.length) (a':Addr) (c':Nat) (z:List Int) (hz:Row w (some a') c' z) (hl:z.length=256) (root:Bool) (hE:¬reE false z=0):
  Calls Tryz.prog 71 #[.pointer (some ⟨p,0,none⟩),.slice (some a') 256 c',.bool root] w fun e w'=>e=.returned (s3V (wlf L z root W).2)∧∃F',RWA w' p F' ia ic L q (wlf L z root W).1∧Step F F' w w':=by
 obtain ⟨gk,ck,aP,aT,cP,cT,h⟩:=h;obtain ⟨l,hL⟩:∃l,reL false z=l:=⟨_,rfl⟩;have hlb:=reL_bd (t:=false) hz.1;rw [hL] at hlb;obtain ⟨E,hEE⟩:∃E,reE false z=E:=⟨_,rfl⟩;have hpc:=rpieces_v (some a') c' 256 z (w.alloc (.cells #[.int .i64 0,.int .i64 0,.int .i64 0] 98)) (hz.below ((Below.refl _ w).alloc (Nat.le_refl _) _)) hl E hEE l hL _ rfl
 have HFB:Hid (lfB z root=true):=by
  show lfB z _=_;unfold lfB;rw [hL];rw [show (reE false z==0)=false by simpa using hE];rfl
 have HX:Hid (RW w p F ia ic L gk ck aP aT cP cT q W):=h
 have HR0:Hid (∀w1,Below (w.alloc (.cells #[.int .i64 0,.int .i64 0,.int .i64 0] 98)).heap.size (w.alloc (.cells #[.int .i64 0,.int .i64 0,.int .i64 0] 98)) w1→Below w.heap.size w w1∧At3 w1 w.heap.size s30∧w.heap.size<w1.heap.size):=fun w1 hb=>by
  refine ⟨((Below.refl _ w).alloc (Nat.le_refl _) _).trans (hb.mono (by simp)),?_,by have:=hb.size;simp at this;omega⟩;show w1.heap[w.heap.size]?=_;rw [hb.block w.heap.size (by simp)];exact heap_alloc_new w _
 have HIL:Hid (∀k,obl ia k→k<w.heap.size):=h.ilt hk0;have HOK:Hid (WkOk W∧W.bad=false∧0<W.kd.length∧reL false z=l):=⟨hok,hbad,hk0,hL⟩;have HLB:Hid (∀x∈l,okC false x=true):=hlb.2;have HFL:Hid (∀k,F k→k<w.heap.size):=h.lt;obtain ⟨m,hm⟩:∃m,l.length=m:=⟨_,rfl⟩;have hm20:m≤20:=by omega
 rw [hm] at hpc;have HM:Hid (l.length=m):=hm;obtain ⟨rb,hrb⟩:∃rb,w.heap.size=rb:=⟨_,rfl⟩;have HRB:Hid (w.heap.size=rb):=hrb;have HP:Hid (p<w.heap.size):=h.lt p h.fp;have hE1:(E==0)=false:=by rw [←hEE];simpa using hE
 have hE2:(E !=0)=true:=by rw [←hEE];simpa using hE
 clear h hz hl hE hL hlb hm hbad hok hk0 hrb hEE;go_enter Tryz.func71,Tryz.ntmps71
 go_wp2_with fail
 refine hpc.mono ?_;clear hpc;rintro e w1 ⟨g,c,rfl,hown,hb1⟩;obtain ⟨hb,h3r,hsz⟩:=HR0.out w1 hb1;rw [HRB.out] at h3r ⊢
 have HLO:Hid (∀k,obl g k→rb<k∧k<w1.heap.size):=fun k hk=>by
  have:=World.ownsRow.lt hown k (own_obl hk);simp at this;have:=HRB.out;omega
 have HRC:Hid (RowC w1 g c l):=(OwnC.row' hown (fun x hx=>wfC_ok (HLB.out x hx))).2.1;have HB:Hid (Below w.heap.size w w1∧rb<w1.heap.size):=⟨hb,by have:=HRB.out;omega⟩;have H1:Hid (RW w1 p F ia ic L gk ck aP aT cP cT q W):=HX.out.below HOK.out.2.2.1 hb;have H3R:Hid (At3 w1 rb s30):=h3r;obtain ⟨-,-,-,-,c16⟩:=H1.out.at;have z16:=H1.out.frz 16;rw [HOK.out.2.1] at c16;clear hown hb1 hb h3r hsz HR0;have hlp:p<w1.heap.size:=H1.out.lt p H1.out.fp
 have HS:Hid (RW (w1.setCell ⟨p,16,none⟩ (.bool true)) p F ia ic L gk ck aP aT cP cT q {W with bad:=true}∧Ch w.heap.size F w (w1.setCell ⟨p,16,none⟩ (.bool true))∧At3 (w1.setCell ⟨p,16,none⟩ (.bool true)) rb s30∧RowC (w1.setCell ⟨p,16,none⟩ (.bool true)) g c l∧(w1.setCell ⟨p,16,none⟩ (.bool true)).heap.size=w1.heap.size):=by
  have hk:∀k,rb≤k→(w1.setCell ⟨p,16,none⟩ (.bool true)).heap[k]?=w1.heap[k]?:=fun k hk=>Below.heap_setCell w1 ⟨p,16,none⟩ _ k (by show ¬k=p;have:=HP.out;have:=HRB.out;omega)
  refine ⟨H1.out.setBad true,(Ch.of F HB.out.1).setCell (p:=⟨p,16,none⟩) (.inr H1.out.fp) _,H3R.out.keep (hk rb (Nat.le_refl _)),?_,size_setCell _ _ _⟩;obtain ⟨r1,r2,r3,r4⟩:=HRC.out;refine ⟨r1,r2,r3,?_⟩;rcases r4 with r4|⟨b,off,ha,hc⟩
  ·exact .inl r4
  ·exact .inr ⟨b,off,ha,fun i hi=>(hc i hi).same (hk b (by have:=(HLO.out b ⟨_,ha,rfl⟩).1;omega))⟩
 go_wp2;obtain ⟨w2,hw2⟩:∃w2,w1.setCell ⟨p,16,none⟩ (.bool true)=w2:=⟨_,rfl⟩;simp only [hw2] at HS ⊢
 have HI0:Hid (LfI w (w2.alloc (.cells #[.int .i64 0,.int .i64 0,.int .i64 0] 98)) p F F ia ic L q W l g rb w1.heap.size 0 {W with bad:=true} s30 (wlf L z root W)):=by
  obtain ⟨k1,k2,k3,k4,k5⟩:=HS.out;show LfI _ _ _ _ _ _ _ _ _ _ _ _ _ _ _ _ _ _;rw [←k5];have hbl:=(Below.refl w2.heap.size w2).alloc (Nat.le_refl _) (.cells #[.int .i64 0,.int .i64 0,.int .i64 0] 98);have hsz:rb<w2.heap.size:=by have:=HB.out.2;omega
  refine ⟨⟨_,_,_,_,_,_,k1.below HOK.out.2.2.1 hbl⟩,⟨HOK.out.1.1,fun e=>by cases e⟩,rfl,?_,heap_alloc_new w2 _,k3.keep (hbl.block rb hsz),fun j hj=>?_,⟨fun e=>?_,fun e=>?_,by have:=HRB.out;omega⟩,fun e=>?_,fun e=>?_,⟨k2.trans (Ch.of F (hbl.mono k2.size)),fun k hk=>.inl hk⟩,⟨Int.le_refl _,Int.le_refl _⟩,⟨Int.le_refl _,Int.le_refl _⟩,⟨Int.le_refl _,Int.le_refl _⟩⟩
  ·unfold wlf;rw [HOK.out.2.2.2,HFB.out,HOK.out.2.1,List.drop_zero];rfl
  ·obtain ⟨b,off,hg⟩:=k4.some' (by omega);have hlo:=HLO.out b ⟨_,hg,rfl⟩;refine ⟨b,off,hg,fun e=>?_,by omega,?_⟩
   ·have:=HFL.out b e;have:=HRB.out;omega
   ·subst hg;exact (k4.cells j hj).below hbl
  ·have:=HFL.out _ e;have:=HRB.out;omega
  ·have:=HIL.out _ e;have:=HRB.out;omega
  ·have:=HFL.out _ e;have:=HRB.out;omega
  ·have:=HIL.out _ e;have:=HRB.out;omega
 obtain ⟨sb,hsb⟩:∃sb,w1.heap.size=sb:=⟨_,rfl⟩;have HRS:Hid (rb<sb):=by show _<_;rw [←hsb];exact HB.out.2
 rw [hsb] at HI0 ⊢;clear HS HRC H3R c16 z16 HB HLO hw2;obtain ⟨w3,hw3⟩:∃w3,w2.alloc (.cells #[.int .i64 0,.int .i64 0,.int .i64 0] 98)=w3:=⟨_,rfl⟩;rw [hw3] at HI0 ⊢;clear hw3 hsb;go_loopw [10] (fun i wr=>i=.int .i64 0∧w3=wr) (fun _ _=>0)
 case atStart=>exact ⟨rfl,rfl⟩
 case round=>
  obtain ⟨rfl,rfl⟩:=hrel;obtain ⟨hrw,hwk,hkl,hfin,h3,h3r,hrow,⟨hn1,hi1,hsw⟩,hn2,hi2,hst,hbd⟩:=id HI0.out;obtain ⟨gk,ck,aP,aT,cP,cT,hR⟩:=id hrw;obtain ⟨-,-,-,-,c16⟩:=hR.at;have HRW:Hid (RWA w3 p F ia ic L q {W with bad:=true}):=hrw;obtain ⟨e0,e1,e2⟩:=h3.at;obtain ⟨r0,r1,r2⟩:=h3r.at;have t0:=h3r.frz 0;have t1:=h3r.frz 1;have t2:=h3r.frz 2
  have HEX:Hid ((∀W1 s1,wlf L z root W=(W1,s1)→W1={W with bad:=true}→s1=s30→At3 (((w3.setCell ⟨rb,0,none⟩ (.int .i64 0)).setCell ⟨rb,1,none⟩ (.int .i64 0)).setCell ⟨rb,2,none⟩ (.int .i64 0)) rb s30∧∃G',RWA (((w3.setCell ⟨rb,0,none⟩ (.int .i64 0)).setCell ⟨rb,1,none⟩ (.int .i64 0)).setCell ⟨rb,2,none⟩ (.int .i64 0)) p G' ia ic L q {W with bad:=true}∧Step F G' w (((w3.setCell ⟨rb,0,none⟩ (.int .i64 0)).setCell ⟨rb,1,none⟩ (.int .i64 0)).setCell ⟨rb,2,none⟩ (.int .i64 0)))):=by
   intro W1 s1 _ _ _;have hch:Ch w3.heap.size (fun x=>x=rb) w3 (((w3.setCell ⟨rb,0,none⟩ (.int .i64 0)).setCell ⟨rb,1,none⟩ (.int .i64 0)).setCell ⟨rb,2,none⟩ (.int .i64 0)):=(((Ch.refl _ (fun x=>x=rb) w3).setCell (p:=⟨rb,0,none⟩) (.inr rfl) _).setCell (p:=⟨rb,1,none⟩) (.inr rfl) _).setCell (p:=⟨rb,2,none⟩) (.inr rfl) _;refine ⟨((h3r.set0 _).set1 _).set2 _,F,hrw.other hch hn2 hi2 (by have:=HOK.out.2.2.1;omega),⟨hst.1.trans (hch.mono hst.1.size (fun k hk e=>by have:=HRB.out;omega)),hst.2⟩⟩
  have hrs:¬rb=sb:=by have:=HRS.out;omega
  have HFI:Hid (wlf L z root W=(({W with bad:=true}:Wk),s30)):=hfin.symm.trans (lfGo_bad rfl);clear hrw hR hwk hkl hfin h3 h3r hrow hn1 hi1 hsw hn2 hi2 hst hbd HI0;by_cases hlt:0<m
  ·go_wp2;obtain ⟨x3,F3,x1,x2⟩:=HEX.out ({W with bad:=true}:Wk) s30 HFI.out rfl rfl;refine bodyPost_ret (results_cell_row rfl _ _ rb _ #[.int .i64 0,.int .i64 0,.int .i64 0] (0,0) _ rfl x3 Tryz.underlying98 rfl (by kernel_rfl)) rfl ?_;rw [HFI.out];exact ⟨rfl,F3,x1,x2⟩
  ·go_wp2;obtain ⟨x3,F3,x1,x2⟩:=HEX.out ({W with bad:=true}:Wk) s30 HFI.out rfl rfl;refine bodyPost_ret (results_cell_row rfl _ _ rb _ #[.int .i64 0,.int .i64 0,.int .i64 0] (0,0) _ rfl x3 Tryz.underlying98 rfl (by kernel_rfl)) rfl ?_;rw [HFI.out];exact ⟨rfl,F3,x1,x2⟩
end
section
variable {w w':World} {p ic:Nat} {F:Nat→Prop} {ia:Option Addr} {L:List Int} {q:Nat→Value} {W:Wk}
theorem leaf_any (h:RWA w p F ia ic L q W) (hbad:W.bad=false) (hok:WkOk W) (hk0:0<W.kd.length) (a':Addr) (c':Nat) (z:List Int) (hz:Row w (some a') c' z) (hl:z.length=256) (root:Bool):
  Calls Tryz.prog 71 #[.pointer (some ⟨p,0,none⟩),.slice (some a') 256 c',.bool root] w fun e w'=>e=.returned (s3V (wlf L z root W).2)∧∃F',RWA w' p F' ia ic L q (wlf L z root W).1∧Step F F' w w':=by
 by_cases hE:reE false z=0
 ·cases root with
  |true=>exact leaf_r h hbad hok hk0 a' c' z hz hl hE
  |false=>
   by_cases hm:10≤(reL false z).length
   ·exact leaf_n h hbad hok hk0 a' c' z hz hl hE hm
   ·exact leaf_s h hbad hok hk0 a' c' z hz hl hE (by omega)
 ·exact leaf_e h hbad hok hk0 a' c' z hz hl root hE
end
def S3b (s:S3) (B:Int):Prop:=(0≤s.p∧s.p≤B)∧(0≤s.b∧s.b≤B)∧(0≤s.l∧s.l≤B)
theorem lfGo_bd {L:List Int}:∀(l:List C4) (x:Wk × S3) (B:Int),(∀y∈l,okC false y=true)→S3b x.2 B→S3b (lfGo L l x).2 (B+248*l.length):=by
 intro l
 induction l with
 |nil=>intro x B _ h;simpa [lfGo] using h
 |cons y l ih=>
  intro x B hl h;have hy:=okC_bd (hl y (List.mem_cons_self ..));have hy5:=hy.2.2.2.2 rfl;obtain ⟨h1,h2,h3⟩:=h;unfold lfGo;split
  ·refine ⟨?_,?_,?_⟩<;>simp only [List.length_cons]<;>omega
  ·have:=ih (wpc L x.1 y,⟨x.2.p+1,x.2.b+y.c,x.2.l+y.d⟩) (B+248) (fun y hy=>hl y (List.mem_cons_of_mem _ hy)) ⟨by simp only;omega,by simp only;omega,by simp only;omega⟩;obtain ⟨k1,k2,k3⟩:=this;refine ⟨?_,?_,?_⟩<;>simp only [List.length_cons]<;>omega
theorem lfGo_ok {L:List Int}:∀(l:List C4) (x:Wk × S3),(∀y∈l,okC false y=true)→WkOk x.1→WkOk (lfGo L l x).1:=by
 intro l
 induction l with
 |nil=>intro x _ h;exact h
 |cons y l ih=>
  intro x hl h;unfold lfGo;split
  ·exact h
  ·exact ih _ (fun y hy=>hl y (List.mem_cons_of_mem _ hy)) (wpc_ok h (hl y (List.mem_cons_self ..)))
theorem wk_bad {W:Wk} (h:WkOk W) (b:Bool):WkOk {W with bad:=W.bad||b}:=⟨h.1,fun e=>h.2 (by simp only [Bool.or_eq_false_iff] at e;exact e.1)⟩
theorem wlf_ok {L z:List Int} (hz:Bys z) {root:Bool} {W:Wk} (h:WkOk W):WkOk (wlf L z root W).1∧S3b (wlf L z root W).2 4960:=by
 have hb:=reL_bd (t:=false) hz;refine ⟨lfGo_ok _ _ hb.2 (wk_bad h _),?_⟩;have:=lfGo_bd (L:=L) (reL false z) ({W with bad:=W.bad||lfB z root},s30) 0 hb.2 ⟨⟨Int.le_refl _,Int.le_refl _⟩,⟨Int.le_refl _,Int.le_refl _⟩,⟨Int.le_refl _,Int.le_refl _⟩⟩;obtain ⟨k1,k2,k3⟩:=this;refine ⟨⟨k1.1,?_⟩,⟨k2.1,?_⟩,⟨k3.1,?_⟩⟩<;>(unfold wlf;omega)
theorem wpg_ok {W:Wk} (h:WkOk W) (n kd:Int):WkOk (wpg W n kd):=by
 unfold wpg;split
 ·exact h
 ·exact ⟨h.1,fun e=>by cases e⟩
section
variable {w w':World} {p ic:Nat} {F:Nat→Prop} {ia:Option Addr} {L:List Int} {q:Nat→Value} {W:Wk}
theorem RWA.lt (h:RWA w p F ia ic L q W):∀k,F k→k<w.heap.size:=by
 obtain ⟨_,_,_,_,_,_,h⟩:=h;exact h.lt
theorem RWA.fp (h:RWA w p F ia ic L q W):F p:=by
 obtain ⟨_,_,_,_,_,_,h⟩:=h;exact h.fp
theorem RWA.ilt (h:RWA w p F ia ic L q W) (hn:0<W.kd.length):∀k,obl ia k→k<w.heap.size:=by
 obtain ⟨_,_,_,_,_,_,h⟩:=h;exact h.ilt hn
theorem RWA.c16 (h:RWA w p F ia ic L q W):w.cell? ⟨p,16,none⟩=some (.bool W.bad)∧w.frozen? ⟨p,16,none⟩=false:=by
 obtain ⟨_,_,_,_,_,_,h⟩:=h;exact ⟨h.at.2.2.2.2,h.frz 16⟩
theorem RWA.below (h:RWA w p F ia ic L q W) (hn:0<W.kd.length) (hb:Below w.heap.size w w'):RWA w' p F ia ic L q W:=by
 obtain ⟨_,_,_,_,_,_,h⟩:=h;exact ⟨_,_,_,_,_,_,h.below hn hb⟩
def put3 (w:World) (b:Nat) (s:S3):World:=((w.setCell ⟨b,0,none⟩ (.int .i64 s.p)).setCell ⟨b,1,none⟩ (.int .i64 s.b)).setCell ⟨b,2,none⟩ (.int .i64 s.l)
theorem At3.put (h:At3 w w'.heap.size s30) (s:S3):At3 (put3 w w'.heap.size s) w'.heap.size s:=((h.set0 _).set1 _).set2 _
theorem put3_ch (w:World) (b:Nat) (s:S3):Ch w.heap.size (fun x=>x=b) w (put3 w b s):=
 (((Ch.refl _ (fun x=>x=b) w).setCell (p:=⟨b,0,none⟩) (.inr rfl) _).setCell (p:=⟨b,1,none⟩) (.inr rfl) _).setCell (p:=⟨b,2,none⟩) (.inr rfl) _
theorem RWA.fin {w2:World} {F2:Nat→Prop} {W2:Wk} (h:RWA w2 p F2 ia ic L q W2) (hk:0<W2.kd.length) (st:Step F F2 w w2) {b:Nat} (hb:w.heap.size≤b) (hn:¬F2 b) (hi:¬obl ia b) (s:S3):RWA (put3 w2 b s) p F2 ia ic L q W2∧Step F F2 w (put3 w2 b s):=
 ⟨h.other (put3_ch w2 b s) hn hi hk,⟨st.1.trans ((put3_ch w2 b s).mono st.1.size (fun k hk e=>by omega)),st.2⟩⟩
set_option maxRecDepth 20000 in
theorem tree_no (h:RWA w p F ia ic L q W) (hk0:0<W.kd.length) (n:Int) (hn: -9223372036854775808≤n∧n≤9223372036854775807) (lv:Int) (root:Bool) (hk:kdB W n 116=false):
  Calls Tryz.prog 45 #[.pointer (some ⟨p,0,none⟩),.int .i64 n,.int .i64 lv,.bool root] w fun e w'=>e=.returned (s3V s30)∧∃F',RWA w' p F' ia ic L q {W with bad:=true}∧Step F F' w w':=by
 obtain ⟨gk,ck,aP,aT,cP,cT,h⟩:=h;have hp:=page_no (h.below hk0 (w':=w.alloc (.cells #[.int .i64 0,.int .i64 0,.int .i64 0] 98)) ((Below.refl _ w).alloc (Nat.le_refl _) _)) n 116 hn hk
 have HA:Hid (∀w1,Ch (w.alloc (.cells #[.int .i64 0,.int .i64 0,.int .i64 0] 98)).heap.size F (w.alloc (.cells #[.int .i64 0,.int .i64 0,.int .i64 0] 98)) w1→At3 w1 w.heap.size s30∧Step F F w w1):=fun w1 hc=>by
  refine ⟨?_,Step.of ((Ch.of F ((Below.refl _ w).alloc (Nat.le_refl _) _)).trans (hc.mono (by simp) (fun _ _ e=>e)))⟩;show w1.heap[w.heap.size]?=_;rw [hc.block w.heap.size (by simp) (fun e=>by have:=h.lt _ e;omega)];exact heap_alloc_new w _
 have HNB:Hid (¬F w.heap.size∧¬obl ia w.heap.size∧0<W.kd.length):=⟨fun e=>by have:=h.lt _ e;omega,fun e=>by have:=h.ilt hk0 _ e;omega,hk0⟩;clear h hk;go_enter Tryz.func45,Tryz.ntmps45
 go_wp2_with fail
 refine hp.mono ?_;clear hp;rintro e w1 ⟨rfl,h1,hc1⟩;obtain ⟨h3,st⟩:=HA.out w1 hc1;obtain ⟨-,-,-,-,c16⟩:=h1.at;simp only at c16;obtain ⟨e0,e1,e2⟩:=h3.at;have t0:=h3.frz 0;have t1:=h3.frz 1;have t2:=h3.frz 2;have H1:Hid (RWA (put3 w1 w.heap.size s30) p F ia ic L q {W with bad:=true}∧Step F F w (put3 w1 w.heap.size s30)):=RWA.fin ⟨_,_,_,_,_,_,h1⟩ HNB.out.2.2 st (Nat.le_refl _) HNB.out.1 HNB.out.2.1 s30;have H3:Hid (At3 (put3 w1 w.heap.size s30) w.heap.size s30):=h3.put s30;clear h1 hc1 h3 st;go_wp2;refine bodyPost_ret (results_cell_row rfl _ _ w.heap.size _ #[.int .i64 0,.int .i64 0,.int .i64 0] (0,0) _ rfl H3.out Tryz.underlying98 rfl (by kernel_rfl)) rfl ?_;exact ⟨rfl,F,H1.out.1,H1.out.2⟩
set_option maxRecDepth 20000 in
theorem tree_0 (h:RWA w p F ia ic L q W) (hbad:W.bad=false) (hok:WkOk W) (hk0:0<W.kd.length) (n:Int) (root:Bool) (hk:kdB W n 116=true):
  Calls Tryz.prog 45 #[.pointer (some ⟨p,0,none⟩),.int .i64 n,.int .i64 0,.bool root] w fun e w'=>e=.returned (s3V (wlf L (pageOf L n.toNat) root (wpg W n 116)).2)∧∃F',RWA w' p F' ia ic L q (wlf L (pageOf L n.toNat) root (wpg W n 116)).1∧Step F F' w w':=by
 obtain ⟨gk,ck,aP,aT,cP,cT,h⟩:=h;have hp:=page_yes (h.below hk0 (w':=w.alloc (.cells #[.int .i64 0,.int .i64 0,.int .i64 0] 98)) ((Below.refl _ w).alloc (Nat.le_refl _) _)) n 116 (by omega) hk
 have HA:Hid (∀w1,Ch (w.alloc (.cells #[.int .i64 0,.int .i64 0,.int .i64 0] 98)).heap.size F (w.alloc (.cells #[.int .i64 0,.int .i64 0,.int .i64 0] 98)) w1→At3 w1 w.heap.size s30∧Step F F w w1):=fun w1 hc=>by
  refine ⟨?_,Step.of ((Ch.of F ((Below.refl _ w).alloc (Nat.le_refl _) _)).trans (hc.mono (by simp) (fun _ _ e=>e)))⟩;show w1.heap[w.heap.size]?=_;rw [hc.block w.heap.size (by simp) (fun e=>by have:=h.lt _ e;omega)];exact heap_alloc_new w _
 have HNB:Hid (¬F w.heap.size∧¬obl ia w.heap.size∧0<W.kd.length):=⟨fun e=>by have:=h.lt _ e;omega,fun e=>by have:=h.ilt hk0 _ e;omega,hk0⟩;have HW:Hid (wpg W n 116={W with kd:=W.kd.set n.toNat 116}∧WkOk (wpg W n 116)∧W.bad=false):=⟨wpg_yes hk,wpg_ok hok n 116,hbad⟩;rw [HW.out.1];obtain ⟨X,hX⟩:∃X,wlf L (pageOf L n.toNat) root {W with kd:=W.kd.set n.toNat 116}=X:=⟨_,rfl⟩;have HXL:Hid (0<X.1.kd.length):=by show 0<_;rw [←hX,wlf_len];show 0<(W.kd.set _ _).length;rw [List.length_set];exact HNB.out.2.2
 have HXE:Hid (wlf L (pageOf L n.toNat) root {W with kd:=W.kd.set n.toNat 116}=X):=hX;rw [hX];clear h hk hok hbad hk0 hX;obtain ⟨W2,s2⟩:=X;simp only at HXL ⊢;go_enter Tryz.func45,Tryz.ntmps45
 go_wp2_with fail
 refine hp.mono ?_;clear hp;rintro e w1 ⟨⟨a',c',rfl,hr1,hl1,-⟩,h1,hc1⟩;obtain ⟨h3,st⟩:=HA.out w1 hc1;obtain ⟨-,-,-,-,c16⟩:=h1.at;simp only [HW.out.2.2] at c16;have hlf:=leaf_any ⟨_,_,_,_,_,_,h1⟩ HW.out.2.2 (by have:=HW.out.2.1;rw [HW.out.1] at this;exact this) (by show 0<(W.kd.set _ _).length;rw [List.length_set];exact HNB.out.2.2) a' c' _ hr1 hl1 root;rw [HXE.out] at hlf;unfold s3V at hlf;have H3:Hid (At3 w1 w.heap.size s30∧Step F F w w1):=⟨h3,st⟩;clear h1 hc1 h3 st hr1 hl1;simp only at hlf;go_wp2_with (go_at_call 71;refine hlf.mono ?_;clear hlf;rintro e w2 ⟨rfl,F2,h2,st2⟩;have h3:At3 w2 w.heap.size s30:=H3.out.1.keep (st2.1.block _ H3.out.1.lt HNB.out.1);obtain ⟨e0,e1,e2⟩:=h3.at;have t0:=h3.frz 0;have t1:=h3.frz 1;have t2:=h3.frz 2;have H2:Hid (RWA (put3 w2 w.heap.size s2) p F2 ia ic L q W2∧Step F F2 w (put3 w2 w.heap.size s2)):=RWA.fin h2 HXL.out (H3.out.2.trans st2) (Nat.le_refl _) (st2.notin H3.out.1.lt HNB.out.1) HNB.out.2.1 s2;have H3P:Hid (At3 (put3 w2 w.heap.size s2) w.heap.size s2):=h3.put s2;clear h2 st2 h3)
 refine bodyPost_ret (results_cell_row rfl _ _ w.heap.size _ #[.int .i64 s2.p,.int .i64 s2.b,.int .i64 s2.l] (0,0) _ rfl H3P.out Tryz.underlying98 rfl (by kernel_rfl)) rfl ?_;exact ⟨rfl,F2,H2.out.1,H2.out.2⟩
end
end Go.Proofs.YtjllhcifmfhkmaaGreat.Oct
