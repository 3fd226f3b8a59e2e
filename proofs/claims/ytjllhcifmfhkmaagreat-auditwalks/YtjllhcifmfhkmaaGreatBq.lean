/- Part of a proof. -/
import Derived.Test.YtjllhcifmfhkmaaGreatBn
import Derived.Test.YtjllhcifmfhkmaaGreatVc
import Derived.Deep.LoopGhost
import Derived.Test.YtjllhcifmfhkmaaGreatYp
namespace Go.Proofs.YtjllhcifmfhkmaaGreat.Oct
open Go.RowKit
section
variable {w w':World} {p ic:Nat} {F:Nat→Prop} {ia:Option Addr} {L:List Int} {q:Nat→Value} {W:Wk}
theorem RWA.bys (h:RWA w p F ia ic L q W):Bys L:=by
 obtain ⟨_,_,_,_,_,_,h⟩:=h;exact h.img.1
theorem tree_any:∀(lv:Nat),lv≤40→TreeC p ia ic L q lv:=by
 intro lv
 induction lv with
 |zero=>
  intro _ w F W n root h hbad hok hk0 hn;by_cases hk:kdB W n 116=true
  ·have e:wtr L 0 root n W=wlf L (pageOf L n.toNat) root (wpg W n 116):=by
    unfold wtr;rw [if_neg (by rw [wpg_bad hbad,hk];simp)]
   rw [e];exact tree_0 h hbad hok hk0 n root hk
  ·have hk':kdB W n 116=false:=by simpa using hk
   have e:wtr L 0 root n W=({W with bad:=true},s30):=by
    unfold wtr;rw [if_pos (by rw [wpg_bad hbad,hk'];rfl),wpg_no hk']
   rw [e];exact tree_no h hk0 n hn 0 root hk'
 |succ lv ih=>
  intro hlv w F W n root h hbad hok hk0 hn;have IH:=ih (by omega);have hLB:=h.bys;by_cases hk:kdB W n 116=true
  ·have e:∀B,inB3 (pageOf L n.toNat) (lv+1) root=B→wtr L (lv+1) root n W=kdGo (wtr L lv false) (reL true (pageOf L n.toNat)) ({W with kd:=W.kd.set n.toNat 116,bad:=B},s30):=fun B hB=>by
    unfold wtr;rw [if_neg (by rw [wpg_bad hbad,hk];simp),hB,wpg_bad hbad,hk,wpg_yes hk];rfl
   have eB:({W with kd:=W.kd.set n.toNat 116,bad:=false}:Wk)={W with kd:=W.kd.set n.toNat 116}:=by rw [←hbad]
   by_cases hE:reE true (pageOf L n.toNat)=0
   ·by_cases hV:reV true (pageOf L n.toNat)=((lv+1:Nat):Int)
    ·by_cases h2:(reL true (pageOf L n.toNat)).length<2
     ·rw [e true (by unfold inB3;rw [hE,hV,decide_eq_true h2];simp)];exact tree_s hLB lv (by omega) IH h hbad hok hk0 n hk root _ rfl _ rfl _ rfl _ rfl hE hV h2
     ·cases root with
      |true=>
       rw [e false (by unfold inB3;rw [hE,hV,decide_eq_false h2];simp),eB];exact tree_r hLB lv (by omega) IH h hbad hok hk0 n hk _ rfl _ rfl _ rfl _ rfl hE hV (by omega)
      |false=>
       by_cases h6:(reL true (pageOf L n.toNat)).length<6
       ·rw [e true (by unfold inB3;rw [decide_eq_true h6];simp)];exact tree_m hLB lv (by omega) IH h hbad hok hk0 n hk _ rfl _ rfl _ rfl _ rfl hE hV (by omega) h6
       ·rw [e false (by unfold inB3;rw [hE,hV,decide_eq_false h2,decide_eq_false h6];simp),eB];exact tree_n hLB lv (by omega) IH h hbad hok hk0 n hk _ rfl _ rfl _ rfl _ rfl hE hV (by omega)
    ·have hV':(reV true (pageOf L n.toNat)==((lv+1:Nat):Int))=false:=by rw [beq_eq_false_iff_ne];exact hV
     rw [e true (by unfold inB3;rw [hV'];simp)];exact tree_v hLB lv (by omega) IH h hbad hok hk0 n hk root _ rfl _ rfl _ rfl _ rfl hE _ rfl (by unfold bne;rw [hV'];rfl)
   ·have hE':(reE true (pageOf L n.toNat)==0)=false:=by simpa using hE
    rw [e true (by unfold inB3;rw [hE'];simp)];exact tree_e hLB lv (by omega) IH h hbad hok hk0 n hk root _ rfl _ rfl _ rfl _ rfl _ rfl (by unfold bne;rw [hE'];rfl) _ rfl
  ·have hk':kdB W n 116=false:=by simpa using hk
   have e:wtr L (lv+1) root n W=({W with bad:=true},s30):=by
    unfold wtr;rw [if_pos (by rw [wpg_bad hbad,hk'];rfl),wpg_no hk']
   rw [e];exact tree_no h hk0 n hn _ root hk'
end
theorem chGo_end {L:List Int} {kd:Int} {f:Nat} {n:Int} {W:Wk} {out:List Int} (h:n=0∨W.bad=true):chGo L kd f n W out=(W,out):=by
 cases f with
 |zero=>rfl
 |succ f=>unfold chGo;rw [if_pos h]
theorem chGo_no {L:List Int} {kd:Int} {f:Nat} {n:Int} {W:Wk} {out:List Int} (h0:¬n=0) (hb:W.bad=false) (hk:kdB W n kd=false):chGo L kd (f+1) n W out=({W with bad:=true},out):=by
 unfold chGo;rw [if_neg (by rw [hb];simpa using h0),wpg_no hk,if_pos rfl]
theorem chGo_yes {L:List Int} {kd:Int} {f:Nat} {n:Int} {W:Wk} {out:List Int} (h0:¬n=0) (hb:W.bad=false) (hk:kdB W n kd=true) (hl:out.length+(ptL (pageOf L n.toNat)).length≤1048576):
  chGo L kd (f+1) n W out=chGo L kd f (ptN (pageOf L n.toNat)) {W with kd:=W.kd.set n.toNat kd,bad:=!(ptE (pageOf L n.toNat)==0)} (out++ptL (pageOf L n.toNat)):=by
 have e:chGo L kd (f+1) n W out=if n=0∨W.bad=true then (W,out) else if (wpg W n kd).bad=true then (wpg W n kd,out) else
   chGo L kd f (ptN (pageOf L n.toNat)) {wpg W n kd with bad:=!(ptE (pageOf L n.toNat)==0)||decide (1048576<out.length+(ptL (pageOf L n.toNat)).length)} (out++ptL (pageOf L n.toNat)):=rfl
 rw [e,if_neg (by rw [hb];simpa using h0),if_neg (by rw [wpg_bad hb,hk];simp),decide_eq_false (by omega),Bool.or_false,wpg_yes hk]
structure ChI (w wr:World) (p:Nat) (F:Nat→Prop) (ia:Option Addr) (ic:Nat) (L:List Int) (q:Nat→Value) (kd:Int) (N f:Nat) (n:Int) (v:Value) (W':Wk) (out:List Int) (fin:Wk × List Int):Prop where
 rw:RWA wr p F ia ic L q W'
 kl:W'.kd.length=N
 fin:chGo L kd f n W' out=fin
 own:Own w.heap.size wr v out
 by':Bys out
 ch:Ch w.heap.size F w wr
 n: -9223372036854775808≤n∧n≤9223372036854775807
 fu:N<f+cnt (kR W'.kd)
 ln:out.length≤244*cnt (kR W'.kd)
theorem RWA.kl {w:World} {p ic:Nat} {F:Nat→Prop} {ia:Option Addr} {L:List Int} {q:Nat→Value} {W:Wk} (h:RWA w p F ia ic L q W):W.kd.length≤4096:=by
 obtain ⟨_,_,_,_,_,_,h⟩:=h;exact h.kl
theorem nx_bd {z:List Int} (hz:Bys z):0≤ptN z∧ptN z≤4096:=by
 unfold ptN;split
 ·next e=>
  unfold ptE at e;split at e
  ·split at e
   ·next hb=>
    unfold ptB at hb;simp only [Bool.and_eq_true,decide_eq_true_eq] at hb;have h1:=hb.2.2.2.1.2.1;have h0:0≤nx (opP z):=by unfold nx;exact (getI_bd (opP_bys hz) 0 4).1
    omega
   ·cases e
  ·contradiction
 ·omega
theorem kdB_cnt {W:Wk} {n kd:Int} (hk:(kd==120)=false) (hk0:kd≠0) (h:kdB W n kd=true):cnt (kR (W.kd.set n.toNat kd))=cnt (kR W.kd)+1:=by
 have h2:=(kdB_in h).1;have hr:=kdB_kR (W:=W) hk h2;rw [h] at hr;obtain ⟨r1,r2,r3⟩:=rcB_out hr.symm;rw [kR_set hk0];exact cnt_set (by omega) r3
theorem ptL_bys {z:List Int} (hz:Bys z):Bys (ptL z):=by
 unfold ptL;split
 ·intro y hy;exact opP_bys hz y (List.mem_of_mem_drop (List.mem_of_mem_take hy))
 ·intro y hy;cases hy
theorem RWA.low {w w2 w5:World} {p ic:Nat} {F:Nat→Prop} {ia:Option Addr} {L:List Int} {q:Nat→Value} {W:Wk} (h:RWA w2 p F ia ic L q W) (hF:∀k,F k→k<w.heap.size) (hi:∀k,obl ia k→k<w.heap.size) (hb:Below w.heap.size w2 w5):RWA w5 p F ia ic L q W:=by
 obtain ⟨_,_,_,_,_,_,h⟩:=h;exact ⟨_,_,_,_,_,_,h.keep hb.size (fun g hg=>hb.block g (hF g hg)) (fun g hg=>hb.block g (hi g hg))⟩
theorem ChI.next {w wr w5:World} {p ic N f1:Nat} {F:Nat→Prop} {ia:Option Addr} {L:List Int} {q:Nat→Value} {kd n' Y:Int} {v v5:Value} {W':Wk} {out T:List Int} {fin:Wk × List Int} {b:Bool} (h:ChI w wr p F ia ic L q kd N (f1+1) n' v W' out fin)
  (hF:∀k,F k→k<w.heap.size) (hi:∀k,obl ia k→k<w.heap.size) {w2:World} (h2:RWA w2 p F ia ic L q {W' with kd:=W'.kd.set n'.toNat kd,bad:=b}) (hc:Ch w.heap.size F w w2) (ho:Own w.heap.size w5 v5 (out++T)) (hb:Below w.heap.size w2 w5) (hT:Bys T) (hl:T.length≤244) (hY:0≤Y∧Y≤4096) (hcn:cnt (kR (W'.kd.set n'.toNat kd))=cnt (kR W'.kd)+1) (hfin:chGo L kd f1 Y {W' with kd:=W'.kd.set n'.toNat kd,bad:=b} (out++T)=fin):
  ChI w w5 p F ia ic L q kd N f1 Y v5 {W' with kd:=W'.kd.set n'.toNat kd,bad:=b} (out++T) fin:=by
 have h1:=h.fu;have h2':=h.ln;refine {rw:=h2.low hF hi hb,kl:=by simp only [List.length_set];exact h.kl,fin:=hfin,own:=ho,by':=h.by'.app hT,ch:=hc.trans (Ch.of F hb),n:=by omega,fu:=?_,ln:=?_}
 ·simp only [hcn];omega
 ·simp only [hcn,List.length_append];omega
section
variable {w w':World} {p ic:Nat} {F:Nat→Prop} {ia:Option Addr} {L:List Int} {q:Nat→Value} {W:Wk}
set_option maxHeartbeats 4000000 in
set_option maxRecDepth 20000 in
theorem chain_any (h:RWA w p F ia ic L q W) (hk0:0<W.kd.length) (kd:Int) (hkd:0≤kd∧kd≤255) (hkx:(kd==120)=false) (hkn:kd≠0) (n:Int) (hn: -9223372036854775808≤n∧n≤9223372036854775807) (f:Nat) (hf:W.kd.length<f) (fin:Wk × List Int) (hfin:chGo L kd f n W []=fin):
  Calls Tryz.prog 46 #[.pointer (some ⟨p,0,none⟩),.int .i64 n,.int .u8 kd] w fun e w'=>∃g c,e=.returned (.slice g fin.2.length c)∧Own w.heap.size w' (.slice g fin.2.length c) fin.2∧Bys fin.2∧RWA w' p F ia ic L q fin.1∧Ch w.heap.size F w w':=by
 have HI0:Hid (ChI w w p F ia ic L q kd W.kd.length f n (.slice none 0 0) W [] fin):=⟨h,rfl,hfin,⟨rfl,.inl ⟨rfl,rfl⟩⟩,fun z hz=>(by cases hz),Ch.refl _ _ _,hn,by omega,by simp⟩;have HK:Hid (0<W.kd.length∧(kd==120)=false∧kd≠0∧(0≤kd∧kd≤255)∧W.kd.length≤4096∧∀k,F k→k<w.heap.size):=⟨hk0,hkx,hkn,hkd,h.kl,h.lt⟩;have HIL:Hid (∀k,obl ia k→k<w.heap.size):=h.ilt hk0;clear h hk0 hkx hkn hf hfin hn;go_enter Tryz.func46,Tryz.ntmps46
 go_wp2_with fail
 go_loopg [1,7] f (fun k i v wr=>∃(n':Int) (W':Wk) (out:List Int),i=.int .i64 n'∧Hid (ChI w wr p F ia ic L q kd W.kd.length k n' v W' out fin))
 case atStart=>exact ⟨n,W,[],rfl,HI0.out⟩
 case round=>
  clear HI0;obtain ⟨n',W',out,rfl,HI⟩:=hrel;have c16:=HI.out.rw.c16.1;obtain ⟨ov,oc,hv,hrow⟩:=HI.out.own.row HI.out.by';have hN:W'.kd.length≤4096:=HI.out.rw.kl;have hol:out.length≤999424:=by have:=HI.out.ln;have:=cnt_le (kR W'.kd);rw [kR_len] at this;omega
  subst hv;by_cases hend:n'=0∨W'.bad=true
  ·have HF:Hid (fin=(W',out)):=HI.out.fin.symm.trans (chGo_end hend);obtain ⟨wb,hwb⟩:∃wb,W'.bad=wb:=⟨_,rfl⟩;rw [hwb] at c16 hend;clear hwb
   have HD:Hid (∃g c,Ending.returned (.slice ov out.length oc)=.returned (.slice g fin.2.length c)∧Own w.heap.size wr (.slice g fin.2.length c) fin.2∧Bys fin.2∧RWA wr p F ia ic L q fin.1∧Ch w.heap.size F w wr):=by
    show ∃g c,_;rw [HF.out];exact ⟨ov,oc,rfl,HI.out.own,HI.out.by',HI.out.rw,HI.out.ch⟩
   clear HI HF hrow;by_cases hn0:n'=0
   ·subst hn0;clear hend;go_wp2;go_ret
    exact HD.out
   ·have:wb=true:=by rcases hend with e|e;exact absurd e hn0;exact e
    subst this;have hn1:(n'==0)=false:=by simpa using hn0
    have hn2:(n' !=0)=true:=by simpa using hn0
    clear hend hn0;go_wp2;go_ret
    exact HD.out
  ·have hb':W'.bad=false:=by cases e:W'.bad with|true=>exact absurd (.inr e) hend|false=>rfl
   have hn0:¬n'=0:=fun e=>hend (.inl e)
   clear hend;rw [hb'] at c16;have hn1:(n'==0)=false:=by simpa using hn0
   have hn2:(n' !=0)=true:=by simpa using hn0
   obtain ⟨f1,hf1⟩:∃f1,gk=f1+1:=⟨gk-1,by have:=HI.out.fu;have:=cnt_le (kR W'.kd);rw [kR_len,HI.out.kl] at this;omega⟩;subst hf1;obtain ⟨gk',ck,aP,aT,cP,cT,hR⟩:=HI.out.rw;have HN0:Hid (¬n'=0∧W'.bad=false):=⟨hn0,hb'⟩;cases hk:kdB W' n' kd with
   |false=>
    have hp:=page_no hR n' kd HI.out.n hk;have HF:Hid (fin=({W' with bad:=true},out)):=HI.out.fin.symm.trans (chGo_no hn0 hb' hk);clear hR hn0 hb' hk hrow;go_wp2_with fail
    refine hp.mono ?_;clear hp;rintro e w1 ⟨rfl,h1,hc1⟩;have d16:=h1.at.2.2.2.2;simp only at d16
    have HD:Hid (∃g c,Ending.returned (.slice ov out.length oc)=.returned (.slice g fin.2.length c)∧Own w.heap.size w1 (.slice g fin.2.length c) fin.2∧Bys fin.2∧RWA w1 p F ia ic L q fin.1∧Ch w.heap.size F w w1):=by
     show ∃g c,_;rw [HF.out];refine ⟨ov,oc,rfl,owns_keep HI.out.own (fun g hg=>hc1.block g (World.ownsRow.lt HI.out.own g hg).2 (fun e=>?_)),HI.out.by',⟨_,_,_,_,_,_,h1⟩,HI.out.ch.trans (hc1.mono HI.out.ch.size (fun _ _ e=>e))⟩;have:=HI.out.own.lt' g hg;have:=HK.out.2.2.2.2.2 g e;omega
    clear h1 hc1 HI HF c16;go_wp2;go_ret
    exact HD.out
   |true=>
    have hp:=page_yes hR n' kd HK.out.2.2.2.1 hk;have hpl:=ptL_le (z:=pageOf L n'.toNat);have HFY:Hid (chGo L kd f1 (ptN (pageOf L n'.toNat)) {W' with kd:=W'.kd.set n'.toNat kd,bad:=!(ptE (pageOf L n'.toNat)==0)} (out++ptL (pageOf L n'.toNat))=fin):=(chGo_yes hn0 hb' hk (by omega)).symm.trans HI.out.fin;have HCN:Hid (cnt (kR (W'.kd.set n'.toNat kd))=cnt (kR W'.kd)+1):=kdB_cnt HK.out.2.1 HK.out.2.2.1 hk;have hzb:Bys (pageOf L n'.toNat):=page_bys hR.img.1 _;have HZB:Hid (Bys (ptL (pageOf L n'.toNat))∧0≤ptN (pageOf L n'.toNat)∧ptN (pageOf L n'.toNat)≤4096):=⟨ptL_bys hzb,nx_bd hzb⟩;clear hR hn0 hb' hk hrow hzb;obtain ⟨z,hz⟩:∃z,pageOf L n'.toNat=z:=⟨_,rfl⟩;rw [hz] at hp hpl HFY HZB;obtain ⟨T,hT⟩:∃T,ptL z=T:=⟨_,rfl⟩;obtain ⟨E,hE⟩:∃E,ptE z=E:=⟨_,rfl⟩;obtain ⟨Y,hY⟩:∃Y,ptN z=Y:=⟨_,rfl⟩;obtain ⟨tl,htl⟩:∃tl,T.length=tl:=⟨_,rfl⟩;rw [hT,htl] at hpl;rw [hT,hE,hY] at HFY;rw [hT,hY] at HZB;have HT:Hid (ptL z=T∧ptE z=E∧ptN z=Y∧T.length=tl):=⟨hT,hE,hY,htl⟩;clear hT hE hY htl hz;go_wp2_with fail
    refine hp.mono ?_;clear hp;rintro e w1 ⟨⟨a',c',rfl,hr1,hl1,-⟩,h1,hc1⟩;have d16:=h1.at.2.2.2.2;have z16:=h1.frz 16;simp only [HN0.out.2] at d16;have hlp:p<w1.heap.size:=h1.lt p h1.fp;have hpt:=rPart_v (some a') c' 256 z w1 hr1 hl1 E HT.out.2.1 T HT.out.1 tl HT.out.2.2.2 Y HT.out.2.2.1
    have H1:Hid (RWA w1 p F ia ic L q {W' with kd:=W'.kd.set n'.toNat kd}∧Ch w.heap.size F w w1∧Own w.heap.size w1 (.slice ov out.length oc) out):=by
     refine ⟨⟨_,_,_,_,_,_,h1⟩,HI.out.ch.trans (hc1.mono HI.out.ch.size (fun _ _ e=>e)),owns_keep HI.out.own (fun g hg=>hc1.block g (World.ownsRow.lt HI.out.own g hg).2 (fun e=>?_))⟩;have:=HI.out.own.lt' g hg;have:=HK.out.2.2.2.2.2 g e;omega
    clear h1 hc1 hr1 hl1 c16;go_wp2_with fail
    refine hpt.mono ?_;clear hpt;rintro e w2 ⟨g,c,rfl,hnil,hrow2,hb2⟩;have e16:=(hb2.cell (p:=⟨p,16,none⟩) hlp).trans d16;have x16:=(hb2.frozen (p:=⟨p,16,none⟩) hlp).trans z16
    have H2:Hid (RWA w2 p F ia ic L q {W' with kd:=W'.kd.set n'.toNat kd}∧Ch w.heap.size F w w2∧Own w.heap.size w2 (.slice ov out.length oc) out∧Row w2 g c T∧(g=none→c=0)):=
     ⟨H1.out.1.below (by show 0<(W'.kd.set _ _).length;rw [List.length_set,HI.out.kl];exact HK.out.1) hb2,H1.out.2.1.trans (Ch.of F (hb2.mono H1.out.2.1.size)),own_below H1.out.2.2 hb2,hrow2,hnil⟩
    clear hb2 hrow2 hnil d16 z16 H1 hlp;by_cases hE0:E=0
    ·subst hE0;have hoc:=(H2.out.2.2.1.row' HI.out.by').2.2.1;have hle:(out.length:Int)+(tl:Int)≤1048576:=by omega
     go_wp2_with (at_builtin;refine append_row rfl _ _ rfl w.heap.size (.slice ov out.length oc) out rfl H2.out.2.2.1 g T c (by rw [HT.out.2.2.2];rfl) H2.out.2.2.2.1 H2.out.2.2.2.2 (by rw [HT.out.2.2.2];omega) H2.out.2.1.size ?_;intro v5 w5 ho5 hb5;have H5:Hid (Own w.heap.size w5 v5 (out++T)∧Below w.heap.size w2 w5):=⟨ho5,hb5⟩;clear ho5 hb5)
     go_roundg f1
     case rel=>exact ⟨Y,_,_,rfl,HI.out.next (b:=false) HK.out.2.2.2.2.2 HIL.out (by have:=H2.out.1;rw [HN0.out.2] at this;exact this) H2.out.2.1 H5.out.1 H5.out.2 HZB.out.1 (by rw [HT.out.2.2.2];exact hpl) HZB.out.2 HCN.out HFY.out⟩
     case measure=>omega
    ·have hE1:(E==0)=false:=by simpa using hE0
     have hE2:(E !=0)=true:=by simpa using hE0
     have hT0:T=[]∧Y=0:=by
      rw [←HT.out.1,←HT.out.2.2.1];unfold ptL ptN;rw [HT.out.2.1,if_neg hE0,if_neg hE0];exact ⟨rfl,rfl⟩
     obtain ⟨rfl,rfl⟩:=hT0;have htl:tl=0:=HT.out.2.2.2.symm;subst htl;have hch:Ch w2.heap.size F w2 (w2.setCell ⟨p,16,none⟩ (.bool true)):=Ch.set H2.out.1.fp _ _
     have H3:Hid (RWA (w2.setCell ⟨p,16,none⟩ (.bool true)) p F ia ic L q {W' with kd:=W'.kd.set n'.toNat kd,bad:=true}∧Ch w.heap.size F w (w2.setCell ⟨p,16,none⟩ (.bool true))∧Own w.heap.size (w2.setCell ⟨p,16,none⟩ (.bool true)) (.slice ov out.length oc) out∧Row (w2.setCell ⟨p,16,none⟩ (.bool true)) g c []∧(g=none→c=0)):=by
      refine ⟨H2.out.1.setBad true,H2.out.2.1.trans (hch.mono H2.out.2.1.size (fun _ _ e=>e)),owns_keep H2.out.2.2.1 (fun g hg=>hch.block g (World.ownsRow.lt H2.out.2.2.1 g hg).2 (fun e=>?_)),⟨H2.out.2.2.2.1.1,H2.out.2.2.2.1.2.1,H2.out.2.2.2.1.2.2.1,.inl rfl⟩,H2.out.2.2.2.2⟩;have:=H2.out.2.2.1.lt' g hg;have:=HK.out.2.2.2.2.2 g e;omega
     have HFY2:Hid (chGo L kd f1 0 {W' with kd:=W'.kd.set n'.toNat kd,bad:=true} (out++[])=fin):=by have:=HFY.out;rw [hE1] at this;exact this
     clear hch H2 hE0 hE1 HFY;go_wp2_with (at_builtin;refine append_row rfl _ _ rfl w.heap.size (.slice ov out.length oc) out rfl H3.out.2.2.1 g [] c rfl H3.out.2.2.2.1 H3.out.2.2.2.2 (by simp;omega) H3.out.2.1.size ?_;intro v5 w5 ho5 hb5;have H5:Hid (Own w.heap.size w5 v5 (out++[])∧Below w.heap.size (w2.setCell ⟨p,16,none⟩ (.bool true)) w5):=⟨ho5,hb5⟩;clear ho5 hb5)
     go_roundg f1
     case rel=>exact ⟨0,_,_,rfl,HI.out.next (b:=true) HK.out.2.2.2.2.2 HIL.out H3.out.1 H3.out.2.1 H5.out.1 H5.out.2 HZB.out.1 (by simp) HZB.out.2 HCN.out HFY2.out⟩
     case measure=>omega
end
theorem infoPl:(Tryz.prog.info? 30).map (fun i=>(i.zero,i.size,i.bytes))=some (some (.slice none 0 0),1,24):=by kernel_rfl
def PgL (base:Nat) (w:World) (v:Value) (L:List (List Int)):Prop:=
 ∃vs,w.ownsRow base 30 1 v L.length vs∧∀i,i<L.length→∃g c,vs[i]?=some (.slice (some ⟨g,0,none⟩) (L.getD i []).length c)∧Own base w (.slice (some ⟨g,0,none⟩) (L.getD i []).length c) (L.getD i [])∧v.ownBlock≠some g
theorem pgL_nil (base:Nat) (w:World):PgL base w (.slice none 0 0) []:=⟨[],World.ownsRow_nil _ _ _ _,fun i hi=>by simp at hi⟩
theorem PgL.below {base:Nat} {w w':World} {v:Value} {L:List (List Int)} (h:PgL base w v L) (hb:Below w.heap.size w w'):PgL base w' v L:=by
 obtain ⟨vs,h1,h2⟩:=h;refine ⟨vs,own_below h1 hb,fun i hi=>?_⟩;obtain ⟨g,c,e,ho,hn⟩:=h2 i hi;exact ⟨g,c,e,ho.kept (hb.block g ho.lt2.2),hn⟩
theorem PgL.at {base:Nat} {w:World} {v:Value} {L:List (List Int)} (h:PgL base w v L) (i:Nat) (hi:i<L.length):
  ∃q cap g c,v=.slice (some ⟨q,0,none⟩) L.length cap∧L.length≤cap∧cap≤maxLen∧w.cell? ⟨q,i,none⟩=some (.slice (some ⟨g,0,none⟩) (L.getD i []).length c)∧Own base w (.slice (some ⟨g,0,none⟩) (L.getD i []).length c) (L.getD i [])∧g≠q:=by
 obtain ⟨vs,h1,h2⟩:=h;obtain ⟨g,c,e,ho,hn⟩:=h2 i hi;rcases id h1.2 with ⟨rfl,h0⟩|⟨q,cap,cur,rfl,hq,hc,hl,hm,hs,ht⟩
 ·omega
 ·refine ⟨q,cap,g,c,rfl,hl,hm,?_,ho,fun e2=>hn (by rw [e2];rfl)⟩;rw [World.ownsRow.cellAt h1 i (by omega)];exact e
theorem PgL.snoc {base:Nat} {w w1:World} {v v':Value} {L:List (List Int)} {vs:List Value} {Z:List Int} {g c:Nat} {o:Obj}
  (h2:∀i,i<L.length→∃g c,vs[i]?=some (.slice (some ⟨g,0,none⟩) (L.getD i []).length c)∧Own base w (.slice (some ⟨g,0,none⟩) (L.getD i []).length c) (L.getD i [])∧v.ownBlock≠some g)
  (hvs:vs.length=L.length) (ho:Own base w (.slice (some ⟨g,0,none⟩) Z.length c) Z) (hv:v.ownBlock≠some g)
  (hown':w1.ownsRow base 30 1 v' (L.length+1) (vs++[.slice (some ⟨g,0,none⟩) Z.length c])) (hgrow:(w.alloc o).grownBy w1 v.ownBlock) (hat:∀k,v'.ownBlock=some k→v.ownBlock=some k∨(w.alloc o).heap.size≤k):PgL base w1 v' (L++[Z]):=by
 have hsz:w.heap.size<(w.alloc o).heap.size:=heap_lt (heap_alloc_new w o);have kk:∀x,x<w.heap.size→v.ownBlock≠some x→w1.heap[x]?=w.heap[x]?:=fun x hx hn=>(hgrow.block x (by omega) (fun e=>hn e.symm)).trans (Below.heap_alloc w o x hx)
 have nn:∀x,x<w.heap.size→v.ownBlock≠some x→v'.ownBlock≠some x:=fun x hx hn e=>by
  rcases hat x e with e|e
  ·exact hn e
  ·omega
 refine ⟨vs++[.slice (some ⟨g,0,none⟩) Z.length c],by rw [List.length_append];exact hown',fun i hi=>?_⟩;rw [List.length_append,List.length_singleton] at hi;by_cases e:i<L.length
 ·obtain ⟨g',c',e1,ho1,hn1⟩:=h2 i e;have eg:(L++[Z]).getD i []=L.getD i []:=by rw [List.getD_eq_getElem?_getD,List.getElem?_append_left e,←List.getD_eq_getElem?_getD]
  rw [eg];exact ⟨g',c',by rw [List.getElem?_append_left (by omega)];exact e1,ho1.kept (kk g' ho1.lt2.2 hn1),nn g' ho1.lt2.2 hn1⟩
 ·have ei:i=L.length:=by omega
  subst ei;have eg:(L++[Z]).getD L.length []=Z:=by simp
  rw [eg];exact ⟨g,c,by rw [←hvs];simp,ho.kept (kk g ho.lt2.2 hv),nn g ho.lt2.2 hv⟩
end Go.Proofs.YtjllhcifmfhkmaaGreat.Oct
