/- Part of a proof. -/
import Derived.Test.YtjllhcifmfhkmaaGreatAug
import Derived.Shelf.Bytes.SlCountOne
import Derived.Test.YtjllhcifmfhkmaaGreatBe
import Derived.Test.YtjllhcifmfhkmaaGreatQk
import Derived.Deep.AppendLies
import Derived.Deep.RegionHeld3
import Derived.BigRegion
set_option maxHeartbeats 4000000
namespace Go.Proofs.YtjllhcifmfhkmaaGreat.Oct
open Go.RowKit
theorem te_pos {z:List Int} (hz:Bys z) (h:teE z=0):0<(teL z).length:=by
 have:=bytB_out (byt_te hz h).1;omega
theorem Row.nn {w:World} {a:Option Addr} {c:Nat} {zs:List Int} (h:Row w a c zs) (hl:0<zs.length):a=none→c=0:=fun e=>by
 obtain ⟨b,off,e2⟩:=h.some' hl;rw [e] at e2;cases e2
section
variable {w w':World} {p d:Nat} {F:Nat→Prop} {D0:Dv} {L:List Int} {R:List Bool} {pcs:List C4} {ts:List (Nat × Value)}
set_option maxRecDepth 20000 in
theorem textPage_p (h:PWA w p d F D0 L R pcs ts) (n:Nat) (hn:n≤4096) (hte:∀x∈ts,teE (pageOf L x.1)=0) (htl:ts.length≤999999):
  Calls Tryz.prog 89 #[.pointer (some ⟨p,0,none⟩),.int .i64 n] w fun e w'=>TpE w p d F D0 L R pcs ts n e w':=by
 have hrn:=h.rn
 have hwf:(Lit.int .i64 (n:Int)).wf=true:=by
  simp [Lit.wf,IntKind.min,IntKind.max,IntKind.signed,IntKind.bits];omega
 have hzb:Bys (pageOf L n):=page_bys hrn.2.2.2.2 _;cases hf:findV ts (n:Int) with
 |some v=>
  obtain ⟨FD,gr,cr,m,aP,cP,hPW⟩:=id h;obtain ⟨-,-,-,c3,-⟩:=hPW.at;have hlk:=hPW.tx.look (n:Int) hwf;rw [hf] at hlk;obtain ⟨x,hx,e1,e2⟩:=findV_mem hf;obtain ⟨a,c,e3,hr,hob⟩:=hPW.row x hx;have hxn:x.1=n:=by omega
  rw [hxn] at e3 hr;have hv:v=.slice a (teL (pageOf L n)).length c:=e2.symm.trans e3;have hE:=hte x hx;rw [hxn] at hE
  have HE:Hid (TpE w p d F D0 L R pcs ts n (.returned (.slice a (teL (pageOf L n)).length c)) w):=by
   refine .inl ⟨a,c,ts,rfl,hE,.inl (by rw [hf];rfl),?_,fun k=>⟨fun hk=>⟨hk,fun e=>?_⟩,fun hk=>hk.1⟩,hte,by omega,hr,hob,hr.nn (te_pos hzb hE),Ch.refl _ _ _,rfl,fun x hx=>.inl hx⟩
   ·rw [if_pos (by rw [hf];rfl)];exact h
   ·rw [e,hf] at hk;cases hk
  subst hv;obtain ⟨tl,htl2⟩:∃tl,(teL (pageOf L n)).length=tl:=⟨_,rfl⟩;rw [htl2] at HE hlk;simp only [Option.getD_some,Option.isSome_some] at hlk;clear h hPW hrn hwf hzb hf hx e1 e2 e3 hr hob hxn hE hte htl hn htl2;go_enter Tryz.func89,Tryz.ntmps89
  go_wp2;go_ret
  exact HE.out
 |none=>
  have hrc:=reach_any h (n:Int) (by omega)
  have hlk:∃m,w.cell? ⟨p,3,none⟩=some (.map (some m))∧(Instr.lookup 119 (.map (some m)) (.int .i64 n) true).run Tryz.prog w=.ok (.tuple #[.slice none 0 0,.bool false]) w:=by
   obtain ⟨FD,gr,cr,m,aP,cP,hPW⟩:=h;have:=hPW.tx.look (n:Int) hwf;rw [hf] at this;exact ⟨m,hPW.at.2.2.2.1,this⟩
  obtain ⟨m,c3,hlk⟩:=hlk;have HH:Hid (findV ts (n:Int)=none∧(∀x∈ts,teE (pageOf L x.1)=0)∧ts.length≤999999∧Bys (pageOf L n)∧(Lit.int .i64 (n:Int)).wf=true∧∀k,F k→k<w.heap.size):=⟨hf,hte,htl,hzb,hwf,h.lt⟩;clear h hrn hwf hzb hf hte htl;go_enter Tryz.func89,Tryz.ntmps89
  go_wp2_with fail
  refine hrc.mono ?_;clear hrc;rintro e w1 (⟨g,c,rfl,hy,ho,hw1,hc1,hp1⟩|hbad);rotate_left
  ·have HE:Hid (TpE w p d F D0 L R pcs ts n e w1):=.inr (hbad.mono (Step.refl F w) (fun hno h2=>by
    rcases h2.2 with h3|h3
    ·rw [HH.out.1] at h3;cases h3
    ·rw [hno] at h3;cases h3))
   rcases hbad.is with rfl|rfl
   ·unfold thrA at HE ⊢;clear hbad;go_wp2;exact ⟨rfl,HE.out⟩
   ·unfold thrA at HE ⊢;clear hbad;go_wp2;exact ⟨rfl,HE.out⟩
  ·rw [Int.toNat_natCast] at ho hw1;have hpl:(pageOf L n).length=256:=((ho.row' HH.out.2.2.2.1).1).symm;obtain ⟨E,hE⟩:∃E,teE (pageOf L n)=E:=⟨_,rfl⟩;obtain ⟨tl,htl⟩:∃tl,(teL (pageOf L n)).length=tl:=⟨_,rfl⟩;have htx:=text_n (some ⟨g,0,none⟩) c 256 (pageOf L n) w1 (ho.row' HH.out.2.2.2.1).2 hpl E hE _ rfl tl htl;have HTE:Hid (teE (pageOf L n)=E∧(teL (pageOf L n)).length=tl∧rcB R (n:Int)=true):=⟨hE,htl,hy⟩;have H1:Hid (PWA w1 p d F D0 L (R.set n true) pcs ts∧Ch w.heap.size F w w1∧w1.heap[p]?=w.heap[p]?):=⟨hw1,hc1,hp1⟩;clear ho hw1 hc1 hp1 hpl hE htl hy;go_wp2_with fail
   refine htx.mono ?_;clear htx;rintro e w2 ⟨a,ca,rfl,hna,hra,hoa,hb2⟩;have H2:Hid (PWA w2 p d F D0 L (R.set n true) pcs ts∧Ch w.heap.size F w w2∧Row w2 a ca (teL (pageOf L n))∧(a=none→ca=0)∧(∀k,obl a k→¬F k)∧w2.heap[p]?=w.heap[p]?∧∀k,obl a k→w.heap.size≤k):=⟨H1.out.1.below hb2,H1.out.2.1.trans (Ch.of F (hb2.mono H1.out.2.1.size)),hra,hna,fun k hk e=>by have:=hoa k hk;have:=H1.out.1.lt k e;omega,(hb2.block p (H1.out.1.lt p H1.out.1.fp)).trans H1.out.2.2,fun k hk=>Nat.le_trans H1.out.2.1.size (hoa k hk)⟩;clear hna hra hoa hb2 H1;by_cases hE0:E=0
   ·subst hE0
    have hlt:∀k,obl a k→k<w2.heap.size:=by
     rintro k ⟨x,rfl,rfl⟩;obtain ⟨b,off,e⟩:=H2.out.2.2.1.some' (te_pos HH.out.2.2.2.1 HTE.out.1);cases e;exact block_lt_of_cell (H2.out.2.2.1.cells 0 (te_pos HH.out.2.2.2.1 HTE.out.1))
    obtain ⟨FD,gr,cr,m2,aP,cP,hPW⟩:=H2.out.1;obtain ⟨-,-,-,d3,-⟩:=hPW.at;obtain ⟨w3,hmu,ht3,hg3⟩:=hPW.tx.put n HH.out.2.2.2.2.1 (.slice a tl ca) (by have:=HH.out.2.2.1;omega) HH.out.1
    have HE:Hid (TpE w p d F D0 L R pcs ts n (.returned (.slice a tl ca)) w3):=by
     rw [←HTE.out.2.1] at ht3;have hpw3:=hPW.addTx hg3 ht3 H2.out.2.2.1 (fun k hk=>⟨H2.out.2.2.2.2.1 k hk,hlt k hk⟩);rw [←HTE.out.2.1];refine .inl ⟨a,ca,ts++[(n,.slice a (teL (pageOf L n)).length ca)],rfl,HTE.out.1,.inr HTE.out.2.2,?_,fun k=>?_,fun x hx=>?_,by simp,?_,fun k hk=>⟨H2.out.2.2.2.2.1 k hk,Nat.lt_of_lt_of_le (hlt k hk) hg3.size⟩,H2.out.2.2.2.1,?_,(hg3.block p (hPW.lt p hPW.fp) (fun e=>hPW.pm (by simpa using e))).trans H2.out.2.2.2.2.2.1,fun x hx=>?_⟩
     ·rw [if_neg (by rw [HH.out.1];simp)];exact ⟨_,_,_,_,_,_,hpw3⟩
     ·rw [findV_app _ (n,_) HH.out.1];by_cases hk:k=(n:Int)
      ·simp [hk]
      ·simp [hk]
     ·rcases List.mem_append.1 hx with hx|hx
      ·exact HH.out.2.1 x hx
      ·simp only [List.mem_singleton] at hx;subst hx;exact HTE.out.1
     ·exact H2.out.2.2.1.keepO (fun g hg=>hg3.block g (hlt g hg) (fun e=>H2.out.2.2.2.2.1 g hg (by have e':g=m2:=(by simpa using e);rw [e'];exact hPW.fm)))
     ·exact H2.out.2.1.trans ⟨hg3.os,hg3.tape,hg3.output,hg3.size,fun k hk hf=>hg3.block k (by have:=H2.out.2.1.size;omega) (fun e=>hf (by have e':k=m2:=(by simpa using e);rw [e'];exact hPW.fm))⟩
     ·rcases List.mem_append.1 hx with hx|hx
      ·exact .inl hx
      ·right;simp only [List.mem_singleton] at hx;subst hx;intro k hk;cases a with
       |none=>simp [Value.ownBlock] at hk
       |some y=>exact H2.out.2.2.2.2.2.2 k ⟨y,rfl,by simpa [Value.ownBlock] using hk⟩
    have hdy:=demand_yes w2;clear hlt hPW ht3 hg3 H2 HH HTE hlk c3;go_wp2_with (go_at_call 54;refine hdy.mono ?_;rintro e w' ⟨rfl,rfl⟩)
    go_ret
    exact HE.out
   ·have hE1:(E==0)=false:=by simpa using hE0
    have HE:Hid (TpE w p d F D0 L R pcs ts n (thrA 8) w2):=by
     have:=H2.out.1.bad (no:=¬(teE (pageOf L n)=0∧((findV ts n).isSome=true∨rcB R (n:Int)=true))) (fun h=>hE0 (HTE.out.1.symm.trans h.1)) (Step.of H2.out.2.1);rw [List.length_set] at this;exact .inr this
    have hdn:=demand_no w2;unfold thrA at HE hdn;clear hE0 H2 HH HTE hlk c3;go_wp2_with (go_at_call 54;refine hdn.mono ?_;rintro e w' ⟨rfl,rfl⟩)
    exact ⟨rfl,HE.out⟩
end
theorem count_by {xs:List Int} (h:Bys xs):(Lib.countByte (Lib.bytesOf xs) (10:Int).toNat.toUInt8:Int)=lin xs:=by
 unfold Lib.countByte Lib.bytesOf lin
 congr 1
 induction xs with
 |nil=>rfl
 |cons x xs ih=>
  have hx:=h x (List.mem_cons_self ..);have hi:=ih (fun z hz=>h z (List.mem_cons_of_mem _ hz));rw [List.map_cons,List.count_cons,List.count_cons,hi]
  congr 1
  obtain ⟨n,rfl⟩:=Int.eq_ofNat_of_zero_le hx.1;have hn:n≤255:=by omega
  have e:(UInt8.ofNat ((n:Int).toNat)==(10:Int).toNat.toUInt8)=((n:Int)==10):=by
   rw [Int.toNat_natCast];by_cases h10:n=10
   ·subst h10;rfl
   ·have h1:((n:Int)==10)=false:=by rw [beq_eq_false_iff_ne];omega
    rw [h1,beq_eq_false_iff_ne];intro e;have:=congrArg UInt8.toNat e;simp at this;omega
  rw [e]
set_option maxRecDepth 20000 in
theorem count_v (b off n c B:Nat) (xs:List Int) (w:World) (hr:Row w (some ⟨b,off,none⟩) c xs) (hx:xs.length=n) (hc2:w.cell? ⟨B,0,none⟩=some (.int .u8 10)) (V:Int) (hV:lin xs=V):
  Calls Tryz.prog 90 #[.slice (some ⟨b,off,none⟩) n c,.slice (some ⟨B,0,none⟩) 1 1] w fun e w'=>e=.returned (.int .i64 V)∧w=w':=by
 have hcnt:=Lib.run_countSlice (P:=Tryz.prog) w b off n c xs hx (fun i hi=>hr.cells i (by omega)) 10;rw [count_by hr.1,hV] at hcnt;clear hr hx hV;go_enter Tryz.func90,Tryz.ntmps90
 go_wp2;rw [run_callFunc_extern Tryz.func112 (by kernel_rfl) (by kernel_rfl) (by kernel_rfl) (e:=Extern.BytealgCount.count) (by kernel_rfl),hcnt];simp only [Result.andThen];rw [Oper.upon_value];go_wp2;go_ret
 exact ⟨rfl,rfl⟩
def pcR (L:List Int) (R:List Bool) (x:C4):Prop:=pcK L x=true∧R.getD x.a.toNat false=false
def TxE (w:World) (p d:Nat) (F:Nat→Prop) (D0:Dv) (L:List Int) (R:List Bool) (pcs:List C4) (e:Ending) (w':World):Prop:=
 (∃g c ts',e=.returned (.slice g (txs L pcs).length c)∧(∀x∈pcs,pcR L R x)∧PWA w' p d F D0 L (mkR R (pgs pcs)) pcs ts'∧Own w.heap.size w' (.slice g (txs L pcs).length c) (txs L pcs)∧Ch w.heap.size F w w'∧w'.heap[p]?=w.heap[p]?)∨
 AuBad w F d D0 R.length e w' (¬∀x∈pcs,pcR L R x)
structure TxI (w wr:World) (p d:Nat) (F:Nat→Prop) (D0:Dv) (L:List Int) (R:List Bool) (pcs:List C4) (aP:Option Addr) (cP k:Nat) (v:Value) (ts:List (Nat × Value)):Prop where
 pw:∃FD gr cr m,PW wr p d F FD D0 L gr cr m aP cP (mkR R (pgs (pcs.take k))) pcs ts
 own:Own w.heap.size wr v (txs L (pcs.take k))
 ch:Ch w.heap.size F w wr
 ok:∀j,j<k→pcR L R (pcs.getD j c40)
 fd:∀n:Int,findV ts n=none↔¬∃j,j<k∧(pcs.getD j c40).a=n
 te:∀x∈ts,teE (pageOf L x.1)=0
 tl:ts.length≤k
 dj:∀x∈ts,∀g,x.2.ownBlock=some g→¬v.ownBlock=some g
 hp:wr.heap[p]?=w.heap[p]?
theorem txs_bys {L:List Int} (hL:Bys L) (l:List C4):Bys (txs L l):=by
 intro z hz;obtain ⟨q,_,hq⟩:=List.mem_flatMap.1 hz;unfold pcT seg teL at hq;have h1:=List.mem_of_mem_drop (List.mem_of_mem_take hq);split at h1
 ·exact opP_bys (page_bys hL _) z (List.mem_of_mem_take h1)
 ·cases h1
theorem append_rowB {w:World} {ops:Array Oper} {rest:List Oper} {o:Oper} {a:Act} {Q:Exit→Act→World→Prop} (hgd:o.guard=none) (s x:Operand)
  (ho:o.op=.call {callee:=.builtin .append,args:= #[s,x],argTypes:= #[30,30]})
  (base:Nat) (v:Value) (xs:List Int) (hs:a.eval s=v) (hown:Own base w v xs) (ad:Addr) (zs:List Int) (n c:Nat) (hx:a.eval x=.slice (some ad) n c) (hn:zs.length=n) (hn0:0<n)
  (hrow:Row w (some ad) c zs) (hsz:xs.length+n≤100000000) (hbase:base≤w.heap.size)
  (h:∀g cap w',Own base w' (.slice (some ⟨g,0,none⟩) (xs.length+n) cap) (xs++zs)→w.grownBy w' v.ownBlock→(v.ownBlock=some g∨g=w.heap.size)→wpList Tryz.prog ops Q rest (a.put o.dst (.slice (some ⟨g,0,none⟩) (xs.length+n) cap)) w'):wpList Tryz.prog ops Q (o::rest) a w:=by
 subst hn;obtain ⟨i0,hi,hz0,hz1,hz2⟩:=info_parts info5;refine wpList_append_lies w hgd s x 30 ho base 5 i0 (.int .u8 0) 1 1 Tryz.underlying30 hi hz0 hz1 hz2 rfl (by decide) v _ _ hs hown ad _ c (zs.map (Value.int .u8)) hx (by simp) (row_news hrow) (one_cells zs) hn0 (by unfold maxLen;omega) (by omega) hbase _ rfl ?_;intro g cap w' h1 h2 h3 _;refine h g cap w' ?_ h2 h3;unfold Own;rw [List.length_append,List.map_append];exact h1
theorem PW.grown {w w2:World} {p d gr cr m cP:Nat} {F FD:Nat→Prop} {D0:Dv} {L:List Int} {aP:Option Addr} {R:List Bool} {pcs:List C4} {ts:List (Nat × Value)} {row:Option Nat} (h:PW w p d F FD D0 L gr cr m aP cP R pcs ts) (hg:w.grownBy w2 row) (hF:∀k,row=some k→¬F k) (hT:∀x∈ts,∀k,x.2.ownBlock=some k→¬row=some k):PW w2 p d F FD D0 L gr cr m aP cP R pcs ts:=by
 have hs:=hg.size;have kF:∀g,F g→w2.heap[g]?=w.heap[g]?:=fun g h1=>hg.block g (h.lt g h1) (fun e=>hF g e.symm h1)
 refine {h with lt:=fun g hg=>Nat.lt_of_lt_of_le (h.lt g hg) hs,dev:=h.dev.keep hs (fun g hg=>kF g (h.fD g hg)),cells:=(kF p h.fp).trans h.cells,rch:=h.rch.kept (kF gr h.fg),pc:=h.pc.keepO (fun g hg=>kF g (h.fP g hg)),tx:=h.tx.keep (kF m h.fm),row:=fun x hx=>?_};obtain ⟨a,c,e,h1,h2⟩:=h.row x hx;refine ⟨a,c,e,h1.keepO (fun g hg2=>hg.block g (h2 g hg2).2 (fun e2=>hT x hx g ?_ e2.symm)),fun g hg=>⟨(h2 g hg).1,Nat.lt_of_lt_of_le (h2 g hg).2 hs⟩⟩;obtain ⟨y,rfl,rfl⟩:=hg2;rw [e];rfl
theorem txs_succ {L:List Int} {l:List C4} {k:Nat} (hk:k<l.length):txs L (l.take (k+1))=txs L (l.take k)++pcT L (l.getD k c40):=by
 rw [take_c4 hk,txs_app];simp [txs]
theorem pgs_succ {l:List C4} {k:Nat} (hk:k<l.length):pgs (l.take (k+1))=pgs (l.take k)++[(l.getD k c40).a.toNat]:=by
 rw [take_c4 hk,pgs_app];rfl
theorem pcT_le {L:List Int} {x:C4}:(pcT L x).length≤x.c.toNat:=by unfold pcT seg;rw [List.length_take];omega
theorem txs_take_le {L:List Int} {l:List C4} (h:∀x∈l,okC false x=true):∀k,k≤l.length→(txs L (l.take k)).length≤248*k:=by
 intro k
 induction k with
 |zero=>intro _;simp [txs]
 |succ k ih=>
  intro hk;have hb:=okC_bd (h _ (getD_mem (show k<l.length by omega)));have hb5:=hb.2.2.2.2 rfl;have h1:=pcT_le (L:=L) (x:=l.getD k c40);have h2:=ih (by omega);rw [txs_succ (by omega),List.length_append];omega
section
variable {w wr w':World} {p d cP k:Nat} {F:Nat→Prop} {D0:Dv} {L:List Int} {R:List Bool} {pcs:List C4} {ts:List (Nat × Value)} {aP:Option Addr} {v:Value}
theorem mem_take {l:List C4} {k:Nat} (hk:k≤l.length) {y:C4}:y∈l.take k↔∃j,j<k∧l.getD j c40=y:=by
 constructor
 ·intro h;obtain ⟨j,hj,e⟩:=List.getElem_of_mem h;have hj':j<k:=by rw [List.length_take] at hj;omega
  refine ⟨j,hj',?_⟩;rw [List.getElem_take] at e;rw [List.getD_eq_getElem?_getD,List.getElem?_eq_getElem (by omega)];exact e
 ·rintro ⟨j,hj,rfl⟩;have hj2:j<(l.take k).length:=by rw [List.length_take];omega
  have:l.getD j c40=(l.take k)[j]:=by rw [List.getElem_take,List.getD_eq_getElem?_getD,List.getElem?_eq_getElem (by omega)];rfl
  rw [this];exact List.getElem_mem hj2
theorem TxI.cond (h:TxI w wr p d F D0 L R pcs aP cP k v ts) (hN:pgN L=R.length) (hk:k≤pcs.length) (hpos:∀x∈pcs,0≤x.a) {na:Nat}:((findV ts (na:Int)).isSome=true∨rcB (mkR R (pgs (pcs.take k))) (na:Int)=true)↔(na<R.length∧R.getD na false=false):=by
 constructor
 ·rintro (h1|h1)
  ·have:¬findV ts (na:Int)=none:=fun e=>by rw [e] at h1;cases h1
   rw [h.fd] at this;have h2:∃j,j<k∧(pcs.getD j c40).a=(na:Int):=Classical.byContradiction this;obtain ⟨j,hj,ej⟩:=h2;obtain ⟨q1,q2⟩:=h.ok j hj;have:=(pcK_in q1).2;rw [ej,Int.toNat_natCast] at this q2;exact ⟨by omega,q2⟩
  ·obtain ⟨-,r2,r3⟩:=rcB_out h1;rw [mkR_len] at r2;rw [Int.toNat_natCast,mkR_at (by omega)] at r3;simp only [Bool.or_eq_false_iff] at r3;exact ⟨by omega,r3.1⟩
 ·rintro ⟨h1,h2⟩;cases hf:findV ts (na:Int) with
  |some v=>exact .inl rfl
  |none=>
   right;have hno:=(h.fd _).1 hf;unfold rcB;rw [mkR_len,Int.toNat_natCast,mkR_at h1,h2,decide_eq_true (show (0:Int)≤(na:Int) by omega),decide_eq_true (show (na:Int)<(R.length:Int) by omega)]
   have:¬na∈pgs (pcs.take k):=fun e=>by
    obtain ⟨y,hy,e2⟩:=List.mem_map.1 e;obtain ⟨j,hj,rfl⟩:=(mem_take hk).1 hy;refine hno ⟨j,hj,?_⟩;have:=hpos _ (getD_mem (show j<pcs.length by omega));omega
   rw [decide_eq_false this];rfl
theorem TxI.next {wz w5:World} {ts':List (Nat × Value)} {n g cap na:Nat} {FD:Nat→Prop} {gr cr m:Nat} (h:TxI w wr p d F D0 L R pcs aP cP k v ts) (hk:k<pcs.length) (hF:∀k,F k→k<w.heap.size)
  (hpw:PW wz p d F FD D0 L gr cr m aP cP (mkR R (pgs (pcs.take (k+1)))) pcs ts') (hch:Ch w.heap.size F w wz) (hov:Own w.heap.size wz v (txs L (pcs.take k)))
  (ho:Own w.heap.size w5 (.slice (some ⟨g,0,none⟩) n cap) (txs L (pcs.take k)++pcT L (pcs.getD k c40))) (hg:wz.grownBy w5 v.ownBlock) (hl:v.ownBlock=some g∨g=wz.heap.size)
  (hok:pcR L R (pcs.getD k c40)) (hna:(pcs.getD k c40).a=(na:Int)) (hfd:∀n,findV ts' n=none↔(findV ts n=none∧¬n=(na:Int))) (hte:∀x∈ts',teE (pageOf L x.1)=0) (htl:ts'.length≤ts.length+1)
  (hdj:∀x∈ts',∀g,x.2.ownBlock=some g→¬v.ownBlock=some g) (hhp:wz.heap[p]?=w.heap[p]?):TxI w w5 p d F D0 L R pcs aP cP (k+1) (.slice (some ⟨g,0,none⟩) n cap) ts' where
 pw:=⟨_,_,_,_,hpw.grown hg (fun k hk e=>by have:=hov.lt' k hk;have:=hF k e;omega) hdj⟩
 own:=by rw [txs_succ hk];exact ho
 ch:=hch.trans (Ch.of F ((Below.refl w.heap.size wz).grown hg hch.size (fun k hk=>hov.lt' k hk)))
 ok:=fun j hj=>by
  by_cases h2:j=k
  ·rw [h2];exact hok
  ·exact h.ok j (by omega)
 fd:=fun n=>by
  rw [hfd,h.fd];constructor
  ·rintro ⟨h1,h2⟩ ⟨j,hj,e⟩;by_cases h3:j=k
   ·rw [h3,hna] at e;exact h2 e.symm
   ·exact h1 ⟨j,by omega,e⟩
  ·intro h1;refine ⟨fun ⟨j,hj,e⟩=>h1 ⟨j,by omega,e⟩,fun e=>h1 ⟨k,by omega,?_⟩⟩;rw [hna,e]
 te:=hte
 hp:=(hg.block p (hpw.lt p hpw.fp) (fun e=>by have:=hov.lt' p e.symm;have:=hF p hpw.fp;omega)).trans hhp
 tl:=by have:=h.tl;omega
 dj:=fun x hx q hq=>by
  rcases hl with hl|hl
  ·have:=hdj x hx q hq;rw [hl] at this;exact this
  ·obtain ⟨a,c,e,h1,h2⟩:=hpw.row x hx;rw [e] at hq;cases a with
   |none=>simp [Value.ownBlock] at hq
   |some y=>
    have e2:y.block=q:=by simpa [Value.ownBlock] using hq
    have:=(h2 q ⟨y,rfl,e2⟩).2;intro e3;have e4:g=q:=by simpa [Value.ownBlock] using e3
    omega
theorem TxI.mk' (h:TxI w wr p d F D0 L R pcs aP cP k v ts) (hk:k≤pcs.length) {na:Nat} (hna:(na:Int)=(pcs.getD k c40).a) (hkl:k<pcs.length):(if (findV ts (na:Int)).isSome=true then mkR R (pgs (pcs.take k)) else (mkR R (pgs (pcs.take k))).set na true)=mkR R (pgs (pcs.take (k+1))):=by
 have e:(pcs.getD k c40).a.toNat=na:=by omega
 rw [pgs_succ hkl,e,←mkR_app];split
 ·next h1=>
  have:¬findV ts (na:Int)=none:=fun e=>by rw [e] at h1;cases h1
  rw [h.fd] at this;obtain ⟨j,hj,ej⟩:∃j,j<k∧(pcs.getD j c40).a=(na:Int):=Classical.byContradiction this;have hmem:na∈pgs (pcs.take k):=List.mem_map.2 ⟨pcs.getD j c40,(mem_take hk).2 ⟨j,hj,rfl⟩,by omega⟩;refine (getB_ext (by rw [mkR_len,mkR_len,mkR_len]) fun i hi=>?_);rw [mkR_at hi];by_cases hi2:i=na
  ·subst hi2;rw [mkR_at (by rw [mkR_len] at hi;exact hi),decide_eq_true hmem];simp
  ·simp [hi2]
 ·rw [set_mkR]
end
section
variable {w w':World} {p d:Nat} {F:Nat→Prop} {D0:Dv} {L:List Int} {R:List Bool} {pcs:List C4}
set_option maxRecDepth 20000 in
theorem text_p (h:PWA w p d F D0 L R pcs []) (hpc:∀x∈pcs,okC false x=true) (hpl:pcs.length≤81920):
  Calls Tryz.prog 57 #[.pointer (some ⟨p,0,none⟩)] w fun e w'=>TxE w p d F D0 L R pcs e w':=by
 have hrn:=h.rn;obtain ⟨FD,gr,cr,m,aP,cP,h⟩:=h;have c2:=h.at.2.2.1;have HI0:Hid (TxI w w p d F D0 L R pcs aP cP 0 (.slice none 0 0) []):={pw:=⟨FD,gr,cr,m,by rw [List.take_zero];show PW _ _ _ _ _ _ _ _ _ _ _ _ (mkR R []) _ _;rw [mkR_nil];exact h⟩,own:=⟨rfl,.inl ⟨rfl,rfl⟩⟩,ch:=Ch.refl _ _ _,ok:=fun j hj=>by omega,fd:=fun n=>by simp [findV],te:=fun x hx=>(by cases hx),tl:=Nat.le_refl _,dj:=fun x hx=>(by cases hx),hp:=rfl};have HR:Hid (R.length=D0.n∧R.length≤4096∧8≤R.length∧L.length=256*R.length∧Bys L):=hrn;have HPG:Hid (pgN L=R.length):=by show _=_;unfold pgN;rw [hrn.2.2.2.1];omega
 have HPC:Hid (∀x∈pcs,okC false x=true):=hpc;have HFW:Hid (∀k,F k→k<w.heap.size):=h.lt;have HFP:Hid (F p):=h.fp;have HPOS:Hid (∀x∈pcs,0≤x.a):=fun x hx=>by have:=okC_bd (hpc x hx);omega
 obtain ⟨np,hnp⟩:∃np,pcs.length=np:=⟨_,rfl⟩;have HNP:Hid (pcs.length=np):=hnp;rw [hnp] at c2 hpl;clear h hrn hpc hnp;go_enter Tryz.func57,Tryz.ntmps57
 go_wp2_with fail
 go_loopg [3,13] np (fun gh v i wr=>∃(k:Nat) (ts:List (Nat × Value)),k≤np∧gh=np-k∧i=.int .i64 k∧Hid (TxI w wr p d F D0 L R pcs aP cP k v ts))
 case atStart=>exact ⟨0,[],Nat.zero_le _,rfl,rfl,HI0.out⟩
 case round=>
  clear HI0;obtain ⟨k,ts,hk,hgk,rfl,HI⟩:=hrel;have HGK:Hid (gk=np-k):=hgk;clear hgk;by_cases hlt:k<np
  ·have hkl:k<pcs.length:=by rw [HNP.out];exact hlt
   obtain ⟨FDr,grr,crr,mr,hPW⟩:=HI.out.pw;have hrow:=(OwnC.row' hPW.pc (fun x hx=>wfC_ok (HPC.out x hx))).2.1;obtain ⟨b,off,hab⟩:=hrow.some' (by omega);subst hab;have a4:=hrow.cells k hkl;have hxo:=HPC.out _ (getD_mem hkl);have hob:=okC_bd hxo;have hob5:=hob.2.2.2.2 rfl;obtain ⟨x,hx⟩:∃x,pcs.getD k c40=x:=⟨_,rfl⟩;rw [hx] at a4 hob hob5;have HX:Hid (pcs.getD k c40=x):=hx;obtain ⟨xa,xb,xc,xd⟩:=x;obtain ⟨a40,a41,a42,a43⟩:=a4;simp only at a40 a41 a42 a43 hob hob5;obtain ⟨na,rfl⟩:=Int.eq_ofNat_of_zero_le (show 0≤xa by omega);obtain ⟨nb,rfl⟩:=Int.eq_ofNat_of_zero_le (show 0≤xb by omega);obtain ⟨nc,rfl⟩:=Int.eq_ofNat_of_zero_le (show 0≤xc by omega);have hbk:=(Below.refl wr.heap.size wr).alloc (Nat.le_refl _) (.cells #[.int .i64 (na:Int),.int .i64 (nb:Int),.int .i64 (nc:Int),.int .i64 xd] 72);have htp:=textPage_p (⟨_,_,_,_,_,_,hPW.below hbk⟩:PWA _ p d F D0 L _ pcs ts) na (by omega) HI.out.te (by have:=HI.out.tl;omega);have hke:=heap_alloc_new wr (.cells #[.int .i64 (na:Int),.int .i64 (nb:Int),.int .i64 (nc:Int),.int .i64 xd] 72);have HF4:Hid (∀k,F k→k<wr.heap.size):=hPW.lt;have HWR:Hid (∃FD gr cr m,PW wr p d F FD D0 L gr cr m (some ⟨b,off,none⟩) cP (mkR R (pgs (pcs.take k))) pcs ts):=⟨_,_,_,_,hPW⟩;clear hx hrow hPW hxo;go_upto_region 5 with fail
   obtain ⟨wk,hwk⟩:∃wk,wr.alloc (.cells #[.int .i64 (na:Int),.int .i64 (nb:Int),.int .i64 (nc:Int),.int .i64 xd] 72)=wk:=⟨_,rfl⟩;rw [hwk] at hbk htp hke ⊢;obtain ⟨eb,heb⟩:∃eb,wr.heap.size=eb:=⟨_,rfl⟩;rw [heb] at hke ⊢;have y0:wk.cell? ⟨eb,0,none⟩=some (.int .i64 (na:Int)):=by rw [cell_of_row wk _ _ _ _ (0,0) hke];rfl
   have HKE:Hid (wk.heap[eb]?=some (.cells #[.int .i64 (na:Int),.int .i64 (nb:Int),.int .i64 (nc:Int),.int .i64 xd] 72 (0,0))∧Below wr.heap.size wr wk∧wr.heap.size=eb):=⟨hke,hbk,heb⟩;clear hke hbk hwk heb a40 a41 a42 a43;go_wp2_with fail
   refine htp.mono ?_;clear htp;rintro e w3 hE3;rcases hE3 with ⟨a,ca,ts',rfl,g1,g2,g3,g4,g5,g6,g7,g8,g9,g10,g11,g12⟩|hbad;rotate_left
   ·have HE:Hid (TxE w p d F D0 L R pcs e w3):=by
     have st:Step F F w wk:=(Step.of HI.out.ch).trans (Step.ofB HKE.out.2.1);have:=hbad.mono (no':=¬∀x∈pcs,pcR L R x) st (fun hno hall=>hno ?_)
     ·rw [mkR_len] at this;exact .inr this
     ·obtain ⟨q1,q2⟩:=hall _ (getD_mem hkl);rw [HX.out] at q1 q2;have q3:=(pcK_in q1).2;simp only [Int.toNat_natCast] at q2 q3;refine ⟨?_,(HI.out.cond HPG.out (by omega) HPOS.out).2 ⟨by rw [←HPG.out];exact q3,q2⟩⟩;unfold pcK at q1;simp only [Bool.and_eq_true,decide_eq_true_eq,Int.toNat_natCast] at q1;exact q1.2.1
    rcases hbad.is with rfl|rfl
    ·unfold thrA at HE ⊢;clear hbad;go_wp2;exact ⟨rfl,HE.out⟩
    ·unfold thrA at HE ⊢;clear hbad;go_wp2;exact ⟨rfl,HE.out⟩
   rw [HI.out.mk' (by omega) (by rw [HX.out]) hkl] at g3;have hcnd:=(HI.out.cond HPG.out (by omega) HPOS.out).1 g2;have hwp:w3.heap[p]?=wr.heap[p]?:=g11.trans (HKE.out.2.1.block p (HF4.out p HFP.out));have HWP:Hid (w3.heap[p]?=w.heap[p]?):=hwp.trans HI.out.hp;obtain ⟨T,hT⟩:∃T,teL (pageOf L na)=T:=⟨_,rfl⟩;rw [hT] at g7 ⊢;obtain ⟨tl,htl⟩:∃tl,T.length=tl:=⟨_,rfl⟩;rw [htl];have hT0:0<tl:=by rw [←htl,←hT];exact te_pos (page_bys HR.out.2.2.2.2 _) g1
   have hT2:tl≤248:=by rw [←htl,←hT];exact teL_le (page_bys HR.out.2.2.2.2 _)
   obtain ⟨ba,oa,rfl⟩:=g7.some' (by omega);have hca:=g7.2.1;have hca2:=g7.2.2.1;unfold maxLen at hca2;rw [htl] at hca;have hk3:w3.heap[eb]?=some (.cells #[.int .i64 (na:Int),.int .i64 (nb:Int),.int .i64 (nc:Int),.int .i64 xd] 72 (0,0)):=(g10.block eb (heap_lt HKE.out.1) (fun e=>by have:=HF4.out _ e;have:=HKE.out.2.2;omega)).trans HKE.out.1;have z1:w3.cell? ⟨eb,1,none⟩=some (.int .i64 (nb:Int)):=by rw [cell_of_row w3 _ _ _ _ (0,0) hk3];rfl
   have z2:w3.cell? ⟨eb,2,none⟩=some (.int .i64 (nc:Int)):=by rw [cell_of_row w3 _ _ _ _ (0,0) hk3];rfl
   have z3:w3.cell? ⟨eb,3,none⟩=some (.int .i64 xd):=by rw [cell_of_row w3 _ _ _ _ (0,0) hk3];rfl
   have st3:Step F F w w3:=((Step.of HI.out.ch).trans (Step.ofB HKE.out.2.1)).trans (Step.of g10)
   have H3:Hid ((∃FD gr cr m,PW w3 p d F FD D0 L gr cr m (some ⟨b,off,none⟩) cP (mkR R (pgs (pcs.take (k+1)))) pcs ts')∧Step F F w w3∧Own w.heap.size w3 u3 (txs L (pcs.take k))∧Row w3 (some ⟨ba,oa,none⟩) ca T∧w3.heap.size≤w3.heap.size∧(∀n,findV ts' n=none↔(findV ts n=none∧¬n=(na:Int)))∧(∀x∈ts',teE (pageOf L x.1)=0)∧ts'.length≤ts.length+1∧(na<R.length∧R.getD na false=false)∧teE (pageOf L na)=0∧teL (pageOf L na)=T∧T.length=tl):=by
    obtain ⟨FD1,gr1,cr1,m1,hPW⟩:=HWR.out;refine ⟨PWA.same hPW g3 hwp,st3,?_,g7,Nat.le_refl _,g4,g5,g6,hcnd,g1,hT,htl⟩;refine owns_keep (own_below HI.out.own HKE.out.2.1) (fun g hg=>g10.block g ?_ (fun e=>?_))
    ·exact (World.ownsRow.lt (own_below HI.out.own HKE.out.2.1) g hg).2
    ·have:=HI.out.own.lt' g hg;have:=HFW.out g e;omega
   have HBAD:Hid (¬pcR L R ⟨(na:Int),(nb:Int),(nc:Int),xd⟩→TxE w p d F D0 L R pcs (thrA 8) w3):=fun hno=>by
    obtain ⟨FD1,gr1,cr1,m1,hPW3⟩:=H3.out.1;have:=hPW3.bad (no:=¬∀x∈pcs,pcR L R x) (fun hall=>hno (by have:=hall _ (getD_mem hkl);rw [HX.out] at this;exact this)) H3.out.2.1;rw [mkR_len] at this;exact .inr this
   have HDJ:Hid (∀x∈ts',∀g,x.2.ownBlock=some g→¬u3.ownBlock=some g):=fun x hx g hg e=>by
    rcases g12 x hx with h1|h1
    ·exact HI.out.dj x h1 g hg e
    ·have h2:=h1 g hg;have h3:=(World.ownsRow.lt HI.out.own g e).2;have h4:=HKE.out.2.1.size;omega
   have hdy:=demand_yes w3;have hdn:=demand_no w3;clear g1 g2 g3 g4 g5 g6 g7 g8 g9 g10 g11 g12 hcnd hwp hT htl hk3 st3;by_cases hfit:nb+nc≤tl
   ·have hfi:decide ((nb:Int)+(nc:Int)≤(tl:Int))=true:=by rw [decide_eq_true_iff];omega
    clear hdn;go_upto_region 8 with (go_at_call 54;refine hdy.mono ?_;rintro e w' ⟨rfl,rfl⟩)
    rw [show nb+nc-nb=nc by omega]
    have HPT:Hid (Row w3 (some ⟨ba,oa+nb,none⟩) (ca-nb) (pcT L ⟨(na:Int),(nb:Int),(nc:Int),xd⟩)∧(pcT L ⟨(na:Int),(nb:Int),(nc:Int),xd⟩).length=nc):=by
     have e:pcT L ⟨(na:Int),(nb:Int),(nc:Int),xd⟩=(T.drop nb).take nc:=by
      unfold pcT seg;simp only [Int.toNat_natCast];rw [H3.out.2.2.2.2.2.2.2.2.2.2.1]
     rw [e];have hl:=H3.out.2.2.2.2.2.2.2.2.2.2.2;have hr:=(H3.out.2.2.2.1.drop' nb (by omega)).take' nc (ca-nb) (by rw [List.length_drop];omega) (by omega) (Nat.le_refl _);exact ⟨hr,by rw [List.length_take,List.length_drop];omega⟩
    obtain ⟨P,hP⟩:∃P,pcT L ⟨(na:Int),(nb:Int),(nc:Int),xd⟩=P:=⟨_,rfl⟩;rw [hP] at HPT;obtain ⟨lp,hlp⟩:∃lp,lin P=lp:=⟨_,rfl⟩;have HCNT:Hid (∀(w0:World),Below w3.heap.size w3 w0→∀B,w0.cell? ⟨B,0,none⟩=some (.int .u8 10)→Calls Tryz.prog 90 #[.slice (some ⟨ba,oa+nb,none⟩) nc (ca-nb),.slice (some ⟨B,0,none⟩) 1 1] w0 fun e w'=>e=.returned (.int .i64 lp)∧w0=w'):=fun w0 hb B hB=>count_v ba (oa+nb) nc (ca-nb) B P w0 (HPT.out.1.below hb) HPT.out.2 hB lp hlp
    have HOKP:Hid ((lp=xd→pcR L R ⟨(na:Int),(nb:Int),(nc:Int),xd⟩)∧(¬lp=xd→¬pcR L R ⟨(na:Int),(nb:Int),(nc:Int),xd⟩)∧pcT L ⟨(na:Int),(nb:Int),(nc:Int),xd⟩=P):=by
     have hin:inR (pgN L) (na:Int)=true:=by
      unfold inR;rw [HPG.out,decide_eq_true (show (2:Int)≤(na:Int) by omega),decide_eq_true (show (na:Int)<(R.length:Int) by have:=H3.out.2.2.2.2.2.2.2.2.1.1;omega)];rfl
     have hl:=H3.out.2.2.2.2.2.2.2.2.2.2.2
     have e:pcK L ⟨(na:Int),(nb:Int),(nc:Int),xd⟩=(lp==xd):=by
      have e2:=hP;unfold pcT at e2;simp only [Int.toNat_natCast] at e2;unfold pcK;simp only [Int.toNat_natCast];have e4:(lin (seg (teL (pageOf L na)) ⟨(na:Int),(nb:Int),(nc:Int),xd⟩)==xd)=(lp==xd):=by rw [e2,hlp]
      have e5:decide ((nb:Int)+(nc:Int)≤((teL (pageOf L na)).length:Int))=true:=decide_eq_true (by rw [H3.out.2.2.2.2.2.2.2.2.2.2.1,hl];omega);have e6:decide (teE (pageOf L na)=0)=true:=decide_eq_true H3.out.2.2.2.2.2.2.2.2.2.1;rw [hin,e6,e5,e4];rfl
     refine ⟨fun h=>⟨by rw [e,beq_iff_eq];exact h,?_⟩,fun h h2=>?_,hP⟩
     ·simp only [Int.toNat_natCast];exact H3.out.2.2.2.2.2.2.2.2.1.2
     ·have h3:=h2.1;rw [e,beq_iff_eq] at h3;exact h h3
    clear hP hlp hfi;refine wp_region_held_drew (S:=(fun w'=>w'.cell? ⟨eb,3,none⟩=some (.int .i64 xd))) (by kernel_rfl) ?_ (fun hHeld=>?_)
    ·(first|go_keep|assumption)
    refine tkH ?_ 0 ?_ ?_;rotate_left
    ·(intro w hSw;(try dsimp only at hSw);go_simp;first|done|with_reducible rfl)
    simp only [gx];refine tkH ?_ 3 ?_ ?_;rotate_left
    ·(intro w hSw;(try dsimp only at hSw);go_simp;first|done|with_reducible rfl)
    simp only [gx];refine tkH ?_ 4 ?_ ?_;rotate_left
    ·(intro w hSw;(try dsimp only at hSw);go_simp;first|done|with_reducible rfl)
    simp only [gx];refine wpAnyH_ready (rs:=[1]) (by kernel_rfl) (by simp) ?_;refine AllReadyH.cons rfl (fun K hK=>?_) AllReadyH.nil;go_simp
    try simp only [gx]
    refine hK.out _ _ ?_ (fun hHeld2=>?_)
    ·(first|go_keep|assumption)
    clear hK K hHeld;have hHeld:=hHeld2;clear hHeld2;refine wpAnyH_ready (rs:=[2]) (by kernel_rfl) (by simp) ?_;refine AllReadyH.cons rfl (fun K hK=>?_) AllReadyH.nil;go_simp;refine (HCNT.out (w3.drew.alloc (.cells #[.int .u8 10] 5)) (((Below.refl _ w3).drew).alloc (Nat.le_refl _) _) w3.heap.size (by simp [go_sem])).mono ?_;rintro e w4 ⟨rfl,rfl⟩;go_wp2_with fail
    try simp only [gx]
    refine hK.out _ _ ?_ (fun hHeld2=>?_)
    ·(first|go_keep|assumption)
    clear hK K hHeld;have hHeld:=hHeld2;clear hHeld2;obtain ⟨wz,hwz⟩:∃wz,(w3.alloc (.cells #[.int .u8 10] 5)).drew=wz:=⟨_,rfl⟩;have HBZ:Hid (Below w3.heap.size w3 wz):=by rw [←hwz];exact ((Below.refl _ w3).alloc (Nat.le_refl _) _).drew
    rw [hwz] at hHeld ⊢;clear hwz;by_cases hq:lp=xd
    ·subst hq;refine tkH ?_ 5 ?_ ?_;rotate_left
     ·(intro w hSw;(try dsimp only at hSw);go_simp;first|done|with_reducible rfl)
     simp only [gx];refine wpAnyH_ready (rs:=[6]) (by kernel_rfl) (by simp) ?_;refine AllReadyH.cons rfl (fun K hK=>?_) AllReadyH.nil;go_simp;refine (demand_yes wz).mono ?_;rintro e w' ⟨rfl,rfl⟩;go_wp2_with fail
     refine hK.out _ _ ?_ (fun hHeld2=>?_)
     ·(first|go_keep|assumption)
     clear hK K hHeld hHeld2;refine wpAnyH_done (by kernel_rfl) ?_ _;clear HCNT HBAD;obtain ⟨hs5,hw5⟩:wz.heap.size≤wz.drew.heap.size∧True:=⟨Nat.le_refl _,trivial⟩
     have HBY:Hid (Below w3.heap.size w3 wz∧(txs L (pcs.take k)).length+nc≤100000000∧w.heap.size≤wz.heap.size∧Own w.heap.size wz u3 (txs L (pcs.take k))):=by
      have h1:=txs_take_le (L:=L) HPC.out k (by omega);have h2:=H3.out.2.1.1.size;have h3:=HBZ.out.size;exact ⟨HBZ.out,by omega,by omega,owns_keep H3.out.2.2.1 (fun g hg=>HBZ.out.block g (World.ownsRow.lt H3.out.2.2.1 g hg).2)⟩
     clear hs5 hw5;go_wp2_with (at_builtin;refine append_rowB rfl _ _ rfl w.heap.size u3 (txs L (pcs.take k)) rfl HBY.out.2.2.2 ⟨ba,oa+nb,none⟩ P nc (ca-nb) rfl HPT.out.2 (by omega) (HPT.out.1.below HBY.out.1) HBY.out.2.1 HBY.out.2.2.1 ?_;intro g5 cap5 w5 ho5 hg5 hl5;have H5:Hid _:=And.intro ho5 (And.intro hg5 hl5);clear ho5 hg5 hl5)
     go_roundg (np-(k+1))
     case rel=>
      refine ⟨k+1,ts',by omega,rfl,by go_num,?_⟩;obtain ⟨FD3,gr3,cr3,m3,hPW3⟩:=H3.out.1;refine HI.out.next (na:=na) hkl HFW.out (hPW3.below HBY.out.1) (H3.out.2.1.1.trans (Ch.of F (HBY.out.1.mono H3.out.2.1.1.size))) HBY.out.2.2.2 (by rw [HX.out,HOKP.out.2.2];exact H5.out.1) H5.out.2.1 H5.out.2.2 (by rw [HX.out];exact HOKP.out.1 (by trivial)) (by rw [HX.out]) H3.out.2.2.2.2.2.1 H3.out.2.2.2.2.2.2.1 H3.out.2.2.2.2.2.2.2.1 HDJ.out ((HBY.out.1.block p (hPW3.lt p hPW3.fp)).trans HWP.out)
     case measure=>have:=HGK.out;omega
    ·have hq2:(lp==xd)=false:=by simpa using hq
     refine tkH ?_ 5 ?_ ?_;rotate_left
     ·(intro w hSw;(try dsimp only at hSw);go_simp;first|done|with_reducible rfl)
     simp only [gx];refine wpAnyH_ready (rs:=[6]) (by kernel_rfl) (by simp) ?_;refine AllReadyH.cons rfl (fun K hK=>?_) AllReadyH.nil;go_simp;refine (demand_no wz).mono ?_;rintro e w' ⟨rfl,rfl⟩
     have HE:Hid (TxE w p d F D0 L R pcs (thrA 8) wz):=by
      obtain ⟨FD1,gr1,cr1,m1,hPW3⟩:=H3.out.1;have:=(hPW3.below HBZ.out).bad (no:=¬∀x∈pcs,pcR L R x) (fun hall=>HOKP.out.2.1 hq (by have:=hall _ (getD_mem hkl);rw [HX.out] at this;exact this)) (H3.out.2.1.trans (Step.ofB HBZ.out));rw [mkR_len] at this;exact .inr this
     unfold thrA at HE ⊢;clear hHeld H3 HBAD HI HCNT HOKP HPT HWR;go_wp2;exact ⟨rfl,HE.out⟩
   ·have HE:Hid (TxE w p d F D0 L R pcs (thrA 8) w3):=HBAD.out (fun h=>hfit (by
     have h1:=h.1;unfold pcK at h1;simp only [Bool.and_eq_true,decide_eq_true_eq,Int.toNat_natCast,H3.out.2.2.2.2.2.2.2.2.2.2.1,H3.out.2.2.2.2.2.2.2.2.2.2.2] at h1;omega))
    have hfi:decide ((nb:Int)+(nc:Int)≤(tl:Int))=false:=by rw [decide_eq_false_iff_not];omega
    unfold thrA at HE hdn;clear hdy hfit HBAD;go_wp2_with (go_at_call 54;refine hdn.mono ?_;rintro e w' ⟨rfl,rfl⟩)
    exact ⟨rfl,HE.out⟩
  ·obtain rfl:k=np:=by omega
   have hall:pcs.take k=pcs:=List.take_of_length_le (by rw [HNP.out];omega);have ho:=HI.out.own;rw [hall] at ho;obtain ⟨ga,ca,hv,-⟩:=ho.row (txs_bys HR.out.2.2.2.2 _);subst hv
   have HE:Hid (TxE w p d F D0 L R pcs (.returned (.slice ga (txs L pcs).length ca)) wr):=by
    obtain ⟨FDr,grr,crr,mr,hPW⟩:=HI.out.pw;rw [hall] at hPW;refine .inl ⟨ga,ca,ts,rfl,fun x hx=>?_,⟨_,_,_,_,_,_,hPW⟩,ho,HI.out.ch,HI.out.hp⟩;rw [←hall] at hx;obtain ⟨j,hj,rfl⟩:=(mem_take (by rw [HNP.out];exact Nat.le_refl _)).1 hx;exact HI.out.ok j hj
   clear HI ho hall;obtain ⟨tn,htn⟩:∃tn,(txs L pcs).length=tn:=⟨_,rfl⟩;rw [htn] at HE ⊢;clear htn;go_wp2;go_ret
   exact HE.out
end
end Go.Proofs.YtjllhcifmfhkmaaGreat.Oct
