/- Part of a proof. -/
import Derived.Test.YtjllhcifmfhkmaaGreatAuj
import Derived.Test.YtjllhcifmfhkmaaGreatBq
import Derived.Test.YtjllhcifmfhkmaaGreatKg
import Derived.Test.YtjllhcifmfhkmaaGreatQk
import Derived.Test.YtjllhcifmfhkmaaGreatVc
set_option maxHeartbeats 4000000
namespace Go.Proofs.YtjllhcifmfhkmaaGreat.Oct
open Go.RowKit
theorem chB_end {L:List Int} {f:Nat} {R:List Bool} {out:List Int}:chB L (f+1) 0 R out=some (R,out):=by unfold chB;rw [if_pos rfl]
theorem chB_no {L:List Int} {f:Nat} {n:Int} {R:List Bool} {out:List Int} (hn:¬n=0) (h:rcB R n=false):chB L (f+1) n R out=none:=by
 unfold chB;rw [if_neg hn,h];rfl
theorem chB_bad {L:List Int} {f:Nat} {n:Int} {R:List Bool} {out:List Int} (hn:¬n=0) (h:¬ptE (pageOf L n.toNat)=0):chB L (f+1) n R out=none:=by
 unfold chB;rw [if_neg hn,decide_eq_false h,Bool.and_false];rfl
theorem chB_yes {L:List Int} {f:Nat} {n:Int} {R:List Bool} {out:List Int} (hn:¬n=0) (h:rcB R n=true) (hE:ptE (pageOf L n.toNat)=0):chB L (f+1) n R out=chB L f (ptN (pageOf L n.toNat)) (R.set n.toNat true) (out++ptL (pageOf L n.toNat)):=by
 rw [chB,if_neg hn,h,decide_eq_true hE];rfl
theorem PWA.low {w w2:World} {p d B:Nat} {F:Nat→Prop} {D0:Dv} {L:List Int} {R:List Bool} {pcs:List C4} {ts:List (Nat × Value)} (h:PWA w p d F D0 L R pcs ts) (hb:Below B w w2) (hF:∀k,F k→k<B) (hT:∀x∈ts,∀k,x.2.ownBlock=some k→k<B):PWA w2 p d F D0 L R pcs ts:=by
 obtain ⟨FD,gr,cr,m,aP,cP,h⟩:=h;have hs:=hb.size;have kF:∀g,F g→w2.heap[g]?=w.heap[g]?:=fun g h1=>hb.block g (hF g h1)
 refine ⟨FD,gr,cr,m,aP,cP,{h with lt:=fun g hg=>Nat.lt_of_lt_of_le (h.lt g hg) hs,dev:=h.dev.keep hs (fun g hg=>kF g (h.fD g hg)),cells:=(kF p h.fp).trans h.cells,rch:=h.rch.kept (kF gr h.fg),pc:=h.pc.keepO (fun g hg=>kF g (h.fP g hg)),tx:=h.tx.keep (kF m h.fm),row:=fun x hx=>?_}⟩;obtain ⟨a,c,e,h1,h2⟩:=h.row x hx;refine ⟨a,c,e,h1.keepO (fun g hg2=>hb.block g (hT x hx g ?_)),fun g hg=>⟨(h2 g hg).1,Nat.lt_of_lt_of_le (h2 g hg).2 hs⟩⟩;obtain ⟨y,rfl,rfl⟩:=hg2;rw [e];rfl
theorem PWA.tlo {w:World} {p d:Nat} {F:Nat→Prop} {D0:Dv} {L:List Int} {R:List Bool} {pcs:List C4} {ts:List (Nat × Value)} (h:PWA w p d F D0 L R pcs ts):∀x∈ts,∀k,x.2.ownBlock=some k→k<w.heap.size:=by
 obtain ⟨FD,gr,cr,m,aP,cP,h⟩:=h;intro x hx q hq;obtain ⟨a,c,e,h1,h2⟩:=h.row x hx;rw [e] at hq;cases a with
 |none=>simp [Value.ownBlock] at hq
 |some y=>exact (h2 q ⟨y,rfl,by simpa [Value.ownBlock] using hq⟩).2
def CnE (w:World) (p d:Nat) (F:Nat→Prop) (D0:Dv) (L:List Int) (R:List Bool) (pcs:List C4) (ts:List (Nat × Value)) (fin:Option (List Bool × List Int)) (e:Ending) (w':World):Prop:=
 (∃g c R' out,e=.returned (.slice g out.length c)∧fin=some (R',out)∧PWA w' p d F D0 L R' pcs ts∧Own w.heap.size w' (.slice g out.length c) out∧Bys out∧R'.length=R.length∧out.length≤999424∧Ch w.heap.size F w w'∧w'.heap[p]?=w.heap[p]?)∨
 AuBad w F d D0 R.length e w' (fin=none)
structure CnI (w wr:World) (p d:Nat) (F:Nat→Prop) (D0:Dv) (L:List Int) (N:Nat) (pcs:List C4) (ts:List (Nat × Value)) (f:Nat) (n:Int) (v:Value) (R:List Bool) (out:List Int) (fin:Option (List Bool × List Int)):Prop where
 pw:PWA wr p d F D0 L R pcs ts
 rl:R.length=N
 fin:chB L f n R out=fin
 own:Own w.heap.size wr v out
 by':Bys out
 ch:Ch w.heap.size F w wr
 n:0≤n∧n≤9223372036854775807
 fu:N<f+cnt R
 ln:out.length≤244*cnt R
 hp:wr.heap[p]?=w.heap[p]?
section
variable {w w':World} {p d:Nat} {F:Nat→Prop} {D0:Dv} {L:List Int} {R:List Bool} {pcs:List C4} {ts:List (Nat × Value)}
set_option maxRecDepth 20000 in
theorem chain_p (h:PWA w p d F D0 L R pcs ts) (n:Int) (hn:0≤n∧n≤9223372036854775807) (f:Nat) (hf:R.length<f) (fin:Option (List Bool × List Int)) (hfin:chB L f n R []=fin):
  Calls Tryz.prog 58 #[.pointer (some ⟨p,0,none⟩),.int .i64 n] w fun e w'=>CnE w p d F D0 L R pcs ts fin e w':=by
 have hrn:=h.rn;have HI0:Hid (CnI w w p d F D0 L R.length pcs ts f n (.slice none 0 0) R [] fin):=⟨h,rfl,hfin,⟨rfl,.inl ⟨rfl,rfl⟩⟩,fun z hz=>(by cases hz),Ch.refl _ _ _,hn,by omega,by simp,rfl⟩;have HK:Hid ((∀k,F k→k<w.heap.size)∧(∀x∈ts,∀k,x.2.ownBlock=some k→k<w.heap.size)∧R.length≤4096∧Bys L):=⟨h.lt,h.tlo,hrn.2.1,hrn.2.2.2.2⟩;clear h hf hfin hn hrn;go_enter Tryz.func58,Tryz.ntmps58
 go_wp2_with fail
 go_loopg [1,5] f (fun k i v wr=>∃(n':Int) (R':List Bool) (out:List Int),i=.int .i64 n'∧Hid (CnI w wr p d F D0 L R.length pcs ts k n' v R' out fin))
 case atStart=>exact ⟨n,R,[],rfl,HI0.out⟩
 case round=>
  clear HI0;obtain ⟨n',R',out,rfl,HI⟩:=hrel;obtain ⟨ov,oc,hv,hrow⟩:=HI.out.own.row HI.out.by';have hol:out.length≤999424:=by have:=HI.out.ln;have:=cnt_le R';rw [HI.out.rl] at this;have:=HK.out.2.2.1;omega
  have hoc:=hrow.2.2.1;unfold maxLen at hoc;have hoc2:=hrow.2.1;obtain ⟨f1,hf1⟩:∃f1,gk=f1+1:=⟨gk-1,by have:=HI.out.fu;have:=cnt_le R';rw [HI.out.rl] at this;omega⟩;subst hf1;subst hv;by_cases hn0:n'=0
  ·subst hn0;have HD:Hid (CnE w p d F D0 L R pcs ts fin (.returned (.slice ov out.length oc)) wr):=.inl ⟨ov,oc,R',out,rfl,HI.out.fin.symm.trans chB_end,HI.out.pw,HI.out.own,HI.out.by',HI.out.rl,hol,HI.out.ch,HI.out.hp⟩;have hle:decide ((out.length:Int)≤1048576)=true:=decide_eq_true (by omega);have hdy:=demand_yes wr;clear HI hrow;go_wp2_with (go_at_call 54;refine hdy.mono ?_;rintro e w' ⟨rfl,rfl⟩)
   go_ret
   exact HD.out
  ·have hn1:(n'==0)=false:=by simpa using hn0
   have hn2:(n' !=0)=true:=by simpa using hn0
   have hrc:=reach_any HI.out.pw n' HI.out.n;have HN0:Hid (¬n'=0):=hn0;clear hrow hn0;go_wp2_with fail
   refine hrc.mono ?_;clear hrc;rintro e w1 (⟨g,c,rfl,hy,ho,hw1,hc1,hq1⟩|hbad);rotate_left
   ·have HE:Hid (CnE w p d F D0 L R pcs ts fin e w1):=by
     have:=hbad.mono (no':=fin=none) (Step.of HI.out.ch) (fun hno=>HI.out.fin.symm.trans (chB_no HN0.out hno));rw [HI.out.rl] at this;exact .inr this
    rcases hbad.is with rfl|rfl
    ·unfold thrA at HE ⊢;clear hbad;go_wp2;exact ⟨rfl,HE.out⟩
    ·unfold thrA at HE ⊢;clear hbad;go_wp2;exact ⟨rfl,HE.out⟩
   have hzb:Bys (pageOf L n'.toNat):=page_bys HK.out.2.2.2 _;have hpl:(pageOf L n'.toNat).length=256:=((ho.row' hzb).1).symm;have hpt:=Chs.Part_v (some ⟨g,0,none⟩) c (pageOf L n'.toNat) w1 (ho.row' hzb).2;rw [hpl] at hpt
   have H1:Hid (PWA w1 p d F D0 L (R'.set n'.toNat true) pcs ts∧Ch w.heap.size F w w1∧Own w.heap.size w1 (.slice ov out.length oc) out∧rcB R' n'=true∧w1.heap[p]?=w.heap[p]?):=by
    refine ⟨hw1,HI.out.ch.trans (hc1.mono HI.out.ch.size (fun _ _ e=>e)),owns_keep HI.out.own (fun g hg=>hc1.block g (World.ownsRow.lt HI.out.own g hg).2 (fun e=>?_)),hy,hq1.trans HI.out.hp⟩;have:=HI.out.own.lt' g hg;have:=HK.out.1 g e;omega
   have HZB:Hid (Bys (ptL (pageOf L n'.toNat))∧0≤ptN (pageOf L n'.toNat)∧ptN (pageOf L n'.toNat)≤4096∧(ptL (pageOf L n'.toNat)).length≤244):=⟨ptL_bys hzb,(nx_bd hzb).1,(nx_bd hzb).2,ptL_le⟩;clear ho hw1 hc1 hzb hpl hy hq1;obtain ⟨z,hz⟩:∃z,pageOf L n'.toNat=z:=⟨_,rfl⟩;rw [hz] at hpt HZB;unfold PtR at hpt;obtain ⟨T,hT⟩:∃T,ptL z=T:=⟨_,rfl⟩;obtain ⟨E,hE⟩:∃E,ptE z=E:=⟨_,rfl⟩;obtain ⟨Y,hY⟩:∃Y,ptN z=Y:=⟨_,rfl⟩;obtain ⟨tl,htl⟩:∃tl,T.length=tl:=⟨_,rfl⟩;rw [hT,hE,hY,htl] at hpt;rw [hT,hY,htl] at HZB;have htl4:=HZB.out.2.2.2;have HT:Hid (ptL z=T∧ptE z=E∧ptN z=Y∧T.length=tl∧pageOf L n'.toNat=z):=⟨hT,hE,hY,htl,hz⟩;clear hT hE hY htl hz;go_wp2_with fail
   refine hpt.mono ?_;clear hpt;rintro e w2 ⟨g,c,rfl,hnil,hrow2,hb2⟩
   have H2:Hid (PWA w2 p d F D0 L (R'.set n'.toNat true) pcs ts∧Ch w.heap.size F w w2∧Own w.heap.size w2 (.slice ov out.length oc) out∧Row w2 g c T∧(g=none→c=0)∧rcB R' n'=true∧w2.heap[p]?=w.heap[p]?):=
    ⟨H1.out.1.below hb2,H1.out.2.1.trans (Ch.of F (hb2.mono H1.out.2.1.size)),own_below H1.out.2.2.1 hb2,hrow2,hnil,H1.out.2.2.2.1,(hb2.block p (H1.out.1.lt p H1.out.1.fp)).trans H1.out.2.2.2.2⟩
   clear hb2 hrow2 hnil H1;by_cases hE0:E=0
   ·subst hE0;have hdy:=demand_yes w2;have hs2:=H2.out.2.1.size;go_wp2_with (first|(go_at_call 54;refine hdy.mono ?_;rintro e w' ⟨rfl,rfl⟩;clear hdy)|(at_builtin;refine append_row rfl _ _ rfl w.heap.size (.slice ov out.length oc) out rfl H2.out.2.2.1 g T c (by rw [HT.out.2.2.2.1];rfl) H2.out.2.2.2.1 H2.out.2.2.2.2.1 (by rw [HT.out.2.2.2.1];omega) hs2 ?_;intro v5 w5 ho5 hb5;have H5:Hid (Own w.heap.size w5 v5 (out++T)∧Below w.heap.size w2 w5):=⟨ho5,hb5⟩;clear ho5 hb5))
    go_roundg f1
    case rel=>
     refine ⟨Y,R'.set n'.toNat true,out++T,rfl,?_⟩;have hq:=rcB_out H2.out.2.2.2.2.2.1;have hcn:=cnt_set (R:=R') (n:=n'.toNat) (by omega) hq.2.2;have h1:=HI.out.fu;have h2:=HI.out.ln;exact {pw:=H2.out.1.low H5.out.2 HK.out.1 HK.out.2.1,rl:=by rw [List.length_set];exact HI.out.rl,fin:=by rw [←HI.out.fin,chB_yes HN0.out H2.out.2.2.2.2.2.1 (by rw [HT.out.2.2.2.2];exact HT.out.2.1),HT.out.2.2.2.2,HT.out.1,HT.out.2.2.1],own:=H5.out.1,by':=HI.out.by'.app HZB.out.1,ch:=H2.out.2.1.trans (Ch.of F H5.out.2),n:=by have:=HZB.out.2.1;have:=HZB.out.2.2.1;omega,fu:=by rw [hcn];omega,ln:=by rw [hcn,List.length_append,HT.out.2.2.2.1];omega,hp:=(H5.out.2.block p (HK.out.1 p H2.out.1.fp)).trans H2.out.2.2.2.2.2.2}
    case measure=>omega
   ·have hE1:(E==0)=false:=by simpa using hE0
    have HE:Hid (CnE w p d F D0 L R pcs ts fin (thrA 8) w2):=by
     have:=H2.out.1.bad (no:=fin=none) (HI.out.fin.symm.trans (chB_bad HN0.out (by rw [HT.out.2.2.2.2,HT.out.2.1];exact hE0))) (Step.of H2.out.2.1);rw [List.length_set,HI.out.rl] at this;exact .inr this
    have hdn:=demand_no w2;unfold thrA at HE hdn;clear hE0 H2 HI;go_wp2_with (go_at_call 54;refine hdn.mono ?_;rintro e w' ⟨rfl,rfl⟩)
    exact ⟨rfl,HE.out⟩
end
theorem appI {ops:Array Oper} {rest:List Oper} {o:Oper} {a:Act} {Q:Exit→Act→World→Prop} (wr:World) (hgd:o.guard=none) (s x:Operand)
  (ho:o.op=.call {callee:=.builtin .append,args:= #[s,x],argTypes:= #[31,31]})
  (base:Nat) (v:Value) (xs:List Int) (z:Int) (hs:a.eval s=v) (hown:OwnI base wr v xs) (hx:a.eval x=.slice (some ⟨wr.heap.size,0,none⟩) 1 1) (hsz:xs.length≤1000000) (hbase:base≤wr.heap.size)
  (h:∀v' w',OwnI base w' v' (xs++[z])→Below base wr w'→wpList Tryz.prog ops Q rest (a.put o.dst v') w'):wpList Tryz.prog ops Q (o::rest) a (wr.alloc (.cells #[.int .i64 z] 3)):=by
 obtain ⟨i0,hi,hz0,hz1,hz2⟩:=info_parts info3;refine wpList_append_own _ hgd s x 31 ho base 3 i0 (.int .i64 0) 1 8 Tryz.underlying31 hi hz0 hz1 hz2 rfl (by decide) v xs.length (xs.map (Value.int .i64)) hs (World.ownsRow.alloc hown _) ⟨wr.heap.size,0,none⟩ 1 1 [.int .i64 z] hx rfl (World.news_of_block (heap_alloc_new wr _)) (by simp [Value.oneCell']) (by unfold maxLen;omega) (by omega) (by simp;omega) ?_;intro v' w1 hown' hgrow _;obtain ⟨h1,h2⟩:=ownI_step (c:=z) (o:=.cells #[.int .i64 z] 3) rfl hbase hown (Below.refl base wr) hown' hgrow;exact h v' w1 h1 h2
theorem OwnI.row2 {base:Nat} {w:World} {v:Value} {zs:List Int} (h:OwnI base w v zs):∃a cap,v=.slice a zs.length cap∧RowI w a cap zs:=h.row
theorem rsB_yes {R:List Bool} {k:Nat} (h:R.getD k false=true):rsB R (k+1)=rsB R k++[(k:Int)]:=by rw [rsB,if_pos h]
theorem rsB_no {R:List Bool} {k:Nat} (h:R.getD k false=false):rsB R (k+1)=rsB R k:=by rw [rsB,if_neg (by rw [h];simp)]
theorem rsB_len (R:List Bool):∀k,(rsB R k).length≤k:=by
 intro k
 induction k with
 |zero=>simp [rsB]
 |succ k ih=>
  cases h:R.getD k false
  ·rw [rsB_no h];omega
  ·rw [rsB_yes h,List.length_append];simp;omega
section
variable {w w':World} {p d:Nat} {F:Nat→Prop} {D0:Dv} {L:List Int} {R:List Bool} {pcs:List C4} {ts:List (Nat × Value)}
set_option maxRecDepth 20000 in
theorem pages_p (h:PWA w p d F D0 L R pcs ts) (N:Nat) (hN:R.length=N):
  Calls Tryz.prog 61 #[.pointer (some ⟨p,0,none⟩)] w fun e w'=>∃g c,e=.returned (.slice g (rsB R N).length c)∧OwnI w.heap.size w' (.slice g (rsB R N).length c) (rsB R N)∧Below w.heap.size w w':=by
 have hrn:=h.rn;obtain ⟨FD,gr,cr,m,aP,cP,h⟩:=h;have c1:=h.at.2.1;have hcap:=h.rch.cap;have HC:Hid (∀k,k<N→w.cell? ⟨gr,k,none⟩=some (.bool (R.getD k false))):=fun k hk=>(ownL_at h.rch k (by omega)).2.1
 have HG:Hid (gr<w.heap.size):=hcap.2.2.2.1;have hN4:N≤4096:=by omega
 rw [hN] at c1;have hcr:N≤cr:=by omega
 have hcr2:=hcap.2.2.1;unfold maxLen at hcr2;clear h hrn hcap hN;go_enter Tryz.func61,Tryz.ntmps61
 go_wp2_with fail
 go_loopg [3,11] N (fun gh v i wr=>∃k:Nat,k≤N∧gh=N-k∧i=.int .i64 k∧Hid (OwnI w.heap.size wr v (rsB R k)∧Below w.heap.size w wr))
 case atStart=>exact ⟨0,Nat.zero_le _,rfl,rfl,⟨rfl,.inl ⟨rfl,rfl⟩⟩,Below.refl _ _⟩
 case round=>
  obtain ⟨k,hk,hgk,rfl,HI⟩:=hrel;have HGK:Hid (gk=N-k):=hgk;clear hgk;by_cases hlt:k<N
  ·have ck:=(HI.out.2.cell (p:=⟨gr,k,none⟩) HG.out).trans (HC.out k hlt);obtain ⟨b,hb⟩:∃b,R.getD k false=b:=⟨_,rfl⟩;rw [hb] at ck;have HB:Hid (R.getD k false=b):=hb;have hrl:(rsB R k).length≤1000000:=by have:=rsB_len R k;omega
   have hsz:=HI.out.2.size;clear hb;cases b with
   |true=>
    go_wp2_with (at_builtin;refine appI wr rfl _ _ rfl w.heap.size u3 (rsB R k) (k:Int) rfl HI.out.1 rfl hrl hsz ?_;intro v4 w4 ho4 hb4;have H4:Hid (OwnI w.heap.size w4 v4 (rsB R (k+1))∧Below w.heap.size w w4):=(by show _∧_;rw [rsB_yes HB.out];exact ⟨ho4,HI.out.2.trans hb4⟩);clear ho4 hb4)
    go_roundg (N-(k+1))
    case rel=>exact ⟨k+1,by omega,rfl,by go_num,H4.out⟩
    case measure=>have:=HGK.out;omega
   |false=>
    have H4:Hid (OwnI w.heap.size wr u3 (rsB R (k+1))∧Below w.heap.size w wr):=(by show _∧_;rw [rsB_no HB.out];exact HI.out);go_wp2;go_roundg (N-(k+1))
    case rel=>exact ⟨k+1,by omega,rfl,by go_num,H4.out⟩
    case measure=>have:=HGK.out;omega
  ·obtain rfl:k=N:=by omega
   obtain ⟨g,c,hv,-⟩:=HI.out.1.row2;subst hv;have HE:Hid (∃g' c',Ending.returned (.slice g (rsB R k).length c)=.returned (.slice g' (rsB R k).length c')∧OwnI w.heap.size wr (.slice g' (rsB R k).length c') (rsB R k)∧Below w.heap.size w wr):=⟨g,c,rfl,HI.out⟩;clear HI HC;go_wp2;go_ret
   exact HE.out
end
end Go.Proofs.YtjllhcifmfhkmaaGreat.Oct
