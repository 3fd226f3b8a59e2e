/- Part of a proof. -/
import Derived.Test.YtaijfhadecennabGreatGe
import Derived.Defers
import Derived.Recover
open Go.Proofs.Tryz
set_option maxHeartbeats 4000000
namespace Go.Proofs.YtaijfhadecennabGreat.Oct
open Go.RowKit
attribute [local go_sem ↓] GA buildW_eq
theorem gH (l:List (Nat × List Int)) (x:Nat × List Int):scells (l++[x])=scells l++wcells x:=by simp [scells]
theorem wrote {w w1 w2:World} {p:Nat} {F:Nat->Prop} {D:Dv} {gN gL cN cL:Nat} {vS vO:Value} {f:Int} {pg g cap:Nat} {b:List Int} {o:Obj} (ok:(wrD D pg b).ok) (hF:∀k,F k->k<w.heap.size) (h:DevC w p gN gL cN cL vS vO f D) (hfo:∀k,foot p gN gL vS vO k->F k)
  (ho:Own 0 w1 (.slice (some ⟨gN,0,none⟩) D.now.length cN) (onto D.now pg b 15)) (hc:Ch w.heap.size (fun k=>k=gN) w w1)
  (hown:w2.ownsRow 0 111 257 (.slice (some ⟨g,0,none⟩) (D.since.length+1) cap) (D.since.length+1) (scells D.since++wcells (pg,b)))
  (hgrow:(w1.alloc o).grownBy w2 vS.ownBlock) (hat:vS.ownBlock=some g\/g=w1.heap.size+1) (hlt:g<w2.heap.size):
  ∃F',Dev (w2.setCell ⟨p,2,none⟩ (.slice (some ⟨g,0,none⟩) (D.since.length+1) cap)) p F' (wrD D pg b)/\Step F F' w (w2.setCell ⟨p,2,none⟩ (.slice (some ⟨g,0,none⟩) (D.since.length+1) cap)):=by
 have s1:=hc.size;have s2:=hgrow.size;simp at s2;have hp:p<w.heap.size:=hF p (hfo p (.inl rfl));have hN:gN<w.heap.size:=hF gN (hfo gN (.inr (.inl rfl)));have hL:gL<w.heap.size:=hF gL (hfo gL (.inr (.inr (.inl rfl))))
 have k2:∀k,k<w1.heap.size->vS.ownBlock≠some k->w2.heap[k]?=w1.heap[k]?:=fun k hk hne=>
  (hgrow.block k (by simp;omega) (fun e=>hne e.symm)).trans (Below.heap_alloc _ _ _ hk)
 have k1:∀k,k<w.heap.size->k≠gN->w1.heap[k]?=w.heap[k]?:=fun k hk hne=>hc.block k hk hne
 have k3:∀k,k≠p->(w2.setCell ⟨p,2,none⟩ (.slice (some ⟨g,0,none⟩) (D.since.length+1) cap)).heap[k]?=w2.heap[k]?:=fun k hk=>Below.heap_setCell w2 ⟨p,2,none⟩ _ k hk
 have hgp:g≠p:=by rcases hat with e|e;exact fun e2=>h.pS (e2▸e);omega
 have hgN:g≠gN:=by rcases hat with e|e;exact fun e2=>h.NS (e2▸e);omega
 have hgL:g≠gL:=by rcases hat with e|e;exact fun e2=>h.LS (e2▸e);omega
 have hgO:vO.ownBlock≠some g:=by
  rcases hat with e|e
  ·exact h.SO g e
  ·intro e2;have:=hF g (hfo g (.inr (.inr (.inr (.inr e2)))));omega
 have hcells:w2.heap[p]?=w.heap[p]?:=(k2 p (by omega) h.pS).trans (k1 p hp h.pN);refine ⟨fun k=>F k\/w.heap.size<=k/\k<w2.heap.size,⟨ok,fun k hk=>?_,gN,gL,cN,cL,.slice (some ⟨g,0,none⟩) (D.since.length+1) cap,vO,f,?_,fun k hk=>?_⟩,?_,?_⟩
 ·rw [yL];rcases hk with hk|hk
  ·have:=hF k hk;omega
  ·exact hk.2
 ·refine {h with cells:=?_,now:=?_,sure:=?_,since:=?_,out:=?_,fuse:=h.fuse,pS:=by simp [Value.ownBlock];exact hgp,NS:=by simp [Value.ownBlock];exact hgN,LS:=by simp [Value.ownBlock];exact hgL,SO:=fun k hk=>by simp [Value.ownBlock] at hk;subst hk;exact hgO}
  ·have e:=yK w2 p 2 (.slice (some ⟨g,0,none⟩) (D.since.length+1) cap) _ _ _ (hcells.trans h.cells);rw [e];simp only [wrD,QS];rfl
  ·simp only [wrD,QS];exact ho.kept ((k3 gN h.pN.symm).trans (k2 gN (by omega) h.NS))
  ·exact h.sure.kept ((k3 gL h.pL.symm).trans ((k2 gL (by omega) h.LS).trans (k1 gL hL h.NL.symm)))
  ·simp only [wrD,jO,qL,yB];rw [gH];exact yN hown (fun k hk=>by simp [Value.ownBlock] at hk;subst hk;exact k3 g hgp)
  ·refine h.out.keep (fun k hk=>?_);have hk1:=hF k (hfo k (.inr (.inr (.inr (.inr hk)))));exact (k3 k (fun e=>h.pO (e▸hk))).trans ((k2 k (by omega) (fun e=>h.SO k e hk)).trans (k1 k hk1 (fun e=>h.NO (e▸hk))))
 ·rcases hk with hk|hk|hk|hk|hk
  ·exact .inl (hfo k (.inl hk))
  ·exact .inl (hfo k (.inr (.inl hk)))
  ·exact .inl (hfo k (.inr (.inr (.inl hk))))
  ·simp [Value.ownBlock] at hk;subst hk;rcases hat with e|e
   ·exact .inl (hfo g (.inr (.inr (.inr (.inl e)))))
   ·exact .inr ⟨by omega,hlt⟩
  ·exact .inl (hfo k (.inr (.inr (.inr (.inr hk)))))
 ·have a1:Ch w.heap.size F w w1:=hc.mono (jB _) (fun k _ e=>by rw [e];exact hfo gN (.inr (.inl rfl)));exact ((a1.alloc s1 o).grown hgrow (by simp;omega) (fun k hk=>.inr (hfo k (.inr (.inr (.inr (.inl hk))))))).setCell (p:=⟨p,2,none⟩) (.inr (hfo p (.inl rfl))) _
 ·intro k hk;rcases hk with hk|hk
  ·exact .inl hk
  ·exact .inr hk.1
set_option maxRecDepth 100000 in
theorem wdo_any {w:World} {p:Nat} {F:Nat->Prop} {D:Dv} (h:Dev w p F D) (q pg:Nat) (b:List Int) (hq0:w.cell? ⟨q,0,none⟩=some (.pointer (some ⟨p,0,none⟩))) (hw:WriteAt w q 1 pg b) (hb:b.length=256) (hby:Bys b) (hpg:pg<D.n) (hq:¬F q) (hs:D.since.length<=1000000):
  Calls prog 172 #[.pointer (some ⟨q,0,none⟩)] w fun e w'=>e=.returned (.tuple #[])/\∃F',Dev w' p F' (wrD D pg b)/\Step F F' w w':=by
 have ok':=vZ h.1 hpg hb hby;obtain ⟨ok,hF,gN,gL,cN,cL,vS,vO,f,hc,hfo⟩:=h;obtain ⟨c0,_,c2,_,_,_,_,z⟩:=hc.at;have z2:=z 2;have hFN:F gN:=hfo gN (.inr (.inl rfl));have hqN:gN≠q:=fun e=>hq (e▸hFN)
 have hlen:=ok.now;have hn4:=ok.n4;have hbq:q<w.heap.size:=block_lt_of_cell hq0;have hp:p<w.heap.size:=hF p (hfo p (.inl rfl));have hon:=gV w.drew q 1 pg gN D.now.length cN b D.now 15 hw hb hc.now (by omega) (by omega) hqN (by omega) (by omega);have hend:=fun (w1 w2:World) (g cap:Nat) (o:Obj) ho hc1 hown hgrow hat hlt=>wrote (w:=w) (w1:=w1) (w2:=w2) (g:=g) (cap:=cap) (o:=o) ok' hF hc hfo ho hc1 hown hgrow hat hlt
 have hsince:=hc.since;have hpN:=hc.pN;have hNS:=hc.NS;have hpS:=hc.pS;have hqS:vS.ownBlock≠some q:=fun e=>hq (hfo q (.inr (.inr (.inr (.inl e)))))
 have HE:Hid _:=hend;have HW:Hid (WriteAt w q 1 pg b):=hw;have HS:Hid (w.ownsRow 0 111 257 vS D.since.length (scells D.since)):=hsince;have hSF:∀k,vS.ownBlock=some k->k<w.heap.size/\k≠gN:=fun k hk=>⟨hF k (hfo k (.inr (.inr (.inr (.inl hk))))),fun e=>hNS (e▸hk)⟩
 have HSF:Hid (∀k,vS.ownBlock=some k->k<w.heap.size/\k≠gN):=hSF;have HL:Hid (D.now.length=D.n*256):=hlen;clear hend hw hsince hSF ok ok' hF hc hfo z hlen hFN hby;go_enter func172,ntmps172
 go_wp2_with fail
 go_region_held3 (fun w'=>w'.cell? ⟨q,0,none⟩=some (.pointer (some ⟨p,0,none⟩))/\w'.cell? ⟨p,0,none⟩=some (.slice (some ⟨gN,0,none⟩) D.now.length cN))
  (first|go_keep|exact ⟨(hc1.cell (p:=⟨q,0,none⟩) hbq (fun e=>hqN e.symm)).trans hq0,(hc1.cell (p:=⟨p,0,none⟩) hp hpN).trans c0⟩)
  (first|(go_at_call 54;refine hon.mono ?_;rintro e w1 ⟨rfl,ho1,hc1⟩))
 have hch:Ch w.heap.size (fun k=>k=gN) w w1:=⟨hc1.os,hc1.tape,hc1.output,hc1.size,hc1.block⟩;have HO:Hid (Own 0 w1 (.slice (some ⟨gN,0,none⟩) D.now.length cN) (onto D.now pg b 15)):=ho1;have HC:Hid (Ch w.heap.size (fun k=>k=gN) w w1):=hch;have s1:=hch.size;have d0:w1.cell? ⟨q,0,none⟩=some (.pointer (some ⟨p,0,none⟩)):=(hch.cell (p:=⟨q,0,none⟩) hbq (fun e=>hqN e.symm)).trans hq0;have d2:w1.cell? ⟨p,2,none⟩=some vS:=(hch.cell (p:=⟨p,2,none⟩) hp hpN).trans c2;have y2:w1.frozen? ⟨p,2,none⟩=false:=(hch.frozen (p:=⟨p,2,none⟩) hp hpN).trans z2;have hw1:WriteAt w1 q 1 pg b:=HW.out.ch hch (fun e=>hqN e.symm);have HS1:Hid (w1.ownsRow 0 111 257 vS D.since.length (scells D.since)):=yN HS.out (fun k hk=>hch.block k (HSF.out k hk).1 (HSF.out k hk).2);obtain ⟨i0,zz,hi0,hz0,hz1,hz2,hz3⟩:=parts64;obtain ⟨cs,hcs⟩:∃cs,(wcells (pg,b)).toArray=cs:=⟨_,rfl⟩;have hcl:cs.size=257:=by rw [<-hcs];simpa using zL (x:=(pg,b)) hb
 have rL:(LoadW (.pointer (some ⟨q,1,none⟩))).run prog w1.drew=.ok (.agg cs) w1.drew:=by
  rw [<-hcs];exact VD w1.drew q 1 _ (zL hb) (hw1.range hb)
 have rB:(BuildW #[(0,.agg cs)]).run prog w1.drew=.ok (.slice (some ⟨w1.heap.size,0,none⟩) 1 1) (w1.drew.alloc (.cells cs 111)):=GW w1.drew cs hcl;have HCS:Hid ((wcells (pg,b)).toArray=cs):=hcs;have lq:q<w1.heap.size:=by omega
 have lp:p<w1.heap.size:=by omega
 have a0:∀o,(w1.alloc o).cell? ⟨q,0,none⟩=some (.pointer (some ⟨p,0,none⟩)):=fun o=>(World.cell?_alloc_lt _ _ _ lq).trans d0
 have a2:∀o,(w1.alloc o).cell? ⟨p,2,none⟩=some vS:=fun o=>(World.cell?_alloc_lt _ _ _ lp).trans d2
 have b2:∀o,(w1.alloc o).frozen? ⟨p,2,none⟩=false:=fun o=>(World.frozen?_alloc_past _ _ _ lp).trans y2
 have HNW:Hid (∀(j:Nat) (u:Value),(wcells (pg,b))[j]?=some u->(w1.alloc (.cells cs 111)).drew.cell? ((⟨w1.heap.size,0,none⟩:Addr).add j)=some u):=by
  intro j u hj;refine World.news_of_block (w:=w1.alloc (.cells cs 111)) (cs:=cs) (t:=111) (fr:=(0,0)) (heap_alloc_new w1 _) j u ?_;rw [<-hcs];exact hj
 have hfar:∀(w2:World) (k o:Nat),(w1.alloc (.cells cs 111)).drew.grownBy w2 vS.ownBlock->k<w1.heap.size->vS.ownBlock≠some k->w2.cell? ⟨k,o,none⟩=w1.cell? ⟨k,o,none⟩/\w2.frozen? ⟨k,o,none⟩=w1.frozen? ⟨k,o,none⟩:=fun w2 k o hg hk hne=>by
  have e:w2.heap[k]?=w1.heap[k]?:=(hg.block k (by simp;omega) (fun e=>hne e.symm)).trans (Below.heap_alloc w1 _ k hk);exact ⟨World.cell?_of_block (w:=w1) (a:=⟨k,o,none⟩) e,World.frozen?_of_block (w:=w1) (a:=⟨k,o,none⟩) e⟩
 have HFR:Hid _:=hfar;clear hfar hcs hw1 ho1 hc1 hch hon hq0 c0 c2 z2 hcl;go_wp2_with fail
 go_region_law ((refine step_append_lies _ (by rfl) (.tmp 23) (.tmp 28) 101 (by rfl) 0 111 i0 zz 257 264 underlying101 hi0 hz0 hz1 hz2 hz3 (by omega) vS D.since.length (scells D.since) (by rfl) (World.ownsRow.alloc HS1.out _) ⟨w1.heap.size,0,none⟩ 1 1 (wcells (pg,b)) (by rfl) (by rw [zL hb]) HNW.out (YO _) (by omega) (by unfold maxLen;omega) (by omega) (by simp) (w1.heap.size+1) (by simp) ?_;intro g cap w2 hown2 hgrow hat hlt;have hp2:=(HFR.out w2 p 2 hgrow lp hpS).1.trans d2;have hz2':=(HFR.out w2 p 2 hgrow lp hpS).2.trans y2;have hq2:=(HFR.out w2 q 0 hgrow lq hqS).1.trans d0;have HE2:=HE.out w1 w2 g cap (.cells cs 111) HO.out HC.out hown2 ⟨hgrow.os,hgrow.tape,hgrow.output,hgrow.size,hgrow.block⟩ hat hlt;clear hown2 hgrow hat hlt;have HE3:Hid _:=HE2;clear HE2))
 all_goals
  go_wp2;go_end0
  exact ⟨rfl,HE3.out⟩
end Go.Proofs.YtaijfhadecennabGreat.Oct
namespace Go.Proofs.YtaijfhadecennabGreat.Oct
open Go.RowKit
theorem Row.cut {w:World} {g off cap:Nat} {L:List Int} (h:Row w (some ⟨g,off,none⟩) cap L) (a n:Nat) (hn:a+n<=L.length):Row w (some ⟨g,off+a,none⟩) (cap-a) ((L.drop a).take n):=by
 have hl:((L.drop a).take n).length=n:=by simp;omega
 refine ⟨fun z hz=>h.1 z (jY (jT hz)),by have:=h.2.1;omega,by have:=h.2.2.1;omega,?_⟩;by_cases h0:n=0
 ·exact .inl (by simp [h0])
 ·refine .inr ⟨g,off+a,rfl,fun i hi=>?_⟩;rw [hl] at hi;have:=h.cells (a+i) (by omega);rw [show off+a+i=off+(a+i) by omega,this];simp [hi]
theorem JJ {L:List Int} {pg:Nat} (h:pg*256+256<=L.length):(pageOf L pg).length=256:=by simp [pageOf];omega
theorem rdo_any {w:World} {p:Nat} {F:Nat->Prop} {D:Dv} (h:Dev w p F D) (q pg:Nat) (v:Value) (hq0:w.cell? ⟨q,0,none⟩=some (.pointer (some ⟨p,0,none⟩))) (hq1:w.cell? ⟨q,1,none⟩=some (.int .i64 pg)) (hq2:w.cell? ⟨q,2,none⟩=some v) (hz2:w.frozen? ⟨q,2,none⟩=false) (hpg:pg<D.n):
  Calls prog 100 #[.pointer (some ⟨q,0,none⟩)] w fun e w'=>e=.returned (.tuple #[])/\(∃g c,w'.cell? ⟨q,2,none⟩=some (.slice (some ⟨g,0,none⟩) 256 c)/\Own w.heap.size w' (.slice (some ⟨g,0,none⟩) 256 c) (pageOf D.now pg))/\Ch w.heap.size (fun k=>k=q) w w':=by
 obtain ⟨ok,hF,gN,gL,cN,cL,vS,vO,f,hc,hfo⟩:=h;have c0:=hc.at.1;have hlen:=ok.now;have hn4:=ok.n4;have hrow:=(hc.now.row' ok.bnow).2;have hcN:=hrow.2.1;have hcm:=hrow.2.2.1;have hpl:(pageOf D.now pg).length=256:=JJ (by omega);have hcut:=hrow.cut (pg*256) 256 (by omega);obtain ⟨A,hA⟩:∃A,pg*256=A:=⟨_,rfl⟩;rw [hA,xE] at hcut;have hcl:=JO ⟨gN,A,none⟩ (cN-A) (pageOf D.now pg) w (by unfold pageOf;rw [hA];exact hcut) (by omega);rw [hpl] at hcl;obtain ⟨N,hN⟩:∃N,D.now.length=N:=⟨_,rfl⟩;rw [hN] at c0 hcN;have i1:(pg:Int)*256=A:=by omega
 have i2:A+256<=N:=by omega
 have i4:N<=1048576:=by omega
 have i5:¬cN=A:=by omega
 obtain ⟨U,hU⟩:∃U,A+256=U:=⟨_,rfl⟩;have i6:(A:Int)+256=U:=by omega
 have i7:(U:Int)<=cN:=by omega
 have i8:(A:Int)<=U:=by omega
 have i9:U-A=256:=by omega
 have hbq:q<w.heap.size:=block_lt_of_cell hq0;unfold maxLen at hcm;clear hrow hcut hc ok hfo hF hlen hpl hA hN hU;go_enter func100,ntmps100
 go_wp2_with fail
 refine hcl.mono ?_;clear hcl;rintro e w1 ⟨g,c,rfl,ho,hb⟩;have e2:w1.cell? ⟨q,2,none⟩=some v:=(hb.cell (p:=⟨q,2,none⟩) hbq).trans hq2;have y2:w1.frozen? ⟨q,2,none⟩=false:=(hb.frozen (p:=⟨q,2,none⟩) hbq).trans hz2;have lg:=ho.lt2;have HO:Hid (Own w.heap.size (w1.setCell ⟨q,2,none⟩ (.slice (some ⟨g,0,none⟩) 256 c)) (.slice (some ⟨g,0,none⟩) 256 c) (pageOf D.now pg)):=ho.kept (Below.heap_setCell w1 ⟨q,2,none⟩ _ g (by show g≠q;omega));have HC:Hid (Ch w.heap.size (fun k=>k=q) w (w1.setCell ⟨q,2,none⟩ (.slice (some ⟨g,0,none⟩) 256 c))):=(Ch.of (fun k=>k=q) hb).setCell (p:=⟨q,2,none⟩) (.inr rfl) _;clear ho hb;go_wp2;go_end0
 exact ⟨rfl,⟨g,c,World.cell?_setCell_same _ _ _ e2,HO.out⟩,HC.out⟩
end Go.Proofs.YtaijfhadecennabGreat.Oct
namespace Go.Proofs.YtaijfhadecennabGreat.Oct
open Go.RowKit
theorem UW (b:Nat) (w:World):
  CallsD prog 141 #[.pointer (some ⟨b,0,none⟩),.pointer (some ⟨b+1,0,none⟩),.pointer (some ⟨b+2,0,none⟩),.pointer (some ⟨b+3,0,none⟩)] .returning w fun e u' w'=>e=.returned (.tuple #[])/\u'=.returning/\w'=w:=by
 refine callsD_of_wpS func141 rfl fun c₀ cs hu=>?_
 apply wpS_seq;apply wpS_region;simp [wpOpsS,go_sem,recoverD,hu,ntmps141,Exit.thenS];refine wpS_cond (t:=false) (by simp [Act.eval,Array.replicate]) ?_;simp only [xV,if_false];refine wpS_of_wp (wp_skip ?_);cases c₀
 simp_all [bodyPostS,results,Tryz.results141]
theorem opc_f (m:Nat) (am:Array Value) (hm:∀(a:Array Value) (w:World),(callFunc m a).run prog w=.ok (.enter m a) w) (b p:Nat) (x y:Bool) (z:Int) (u:TypeId) (pv:Value) (older:List PanicEntry) (w:World) (R:World->Prop) (h0:w.cell? ⟨b,0,none⟩=some (.pointer (some ⟨p,0,none⟩))) (h1:w.cell? ⟨b+1,0,none⟩=some (.func (.func m) am #[]))
  (h6:w.cell? ⟨p,6,none⟩=some (.bool x)) (z6:w.frozen? ⟨p,6,none⟩=false)
  (hdy:Calls prog m am (w.setCell ⟨p,6,none⟩ (.bool true)) fun e w'=>e=.returned (.tuple #[])/\R w')
  (hR:∀w',R w'->w'.cell? ⟨b+2,0,none⟩=some (.bool y)/\w'.frozen? ⟨b+2,0,none⟩=false/\w'.cell? ⟨b+3,0,none⟩=some (.int .i64 z)/\w'.frozen? ⟨b+3,0,none⟩=false):
  CallsD prog 141 #[.pointer (some ⟨b,0,none⟩),.pointer (some ⟨b+1,0,none⟩),.pointer (some ⟨b+2,0,none⟩),.pointer (some ⟨b+3,0,none⟩)] (.panicking ({v:=.iface u pv,recovered:=false}::older)) w fun e u' w'=>
   e=.returned (.tuple #[])/\u'=.panicking ({v:=.iface u pv,recovered:=true}::older)/\∃w2,R w2/\w'=(w2.setCell ⟨b+2,0,none⟩ (.bool false)).setCell ⟨b+3,0,none⟩ (.int .i64 7):=by
 have k1:(w.setCell ⟨p,6,none⟩ (.bool true)).cell? ⟨b+1,0,none⟩=some (.func (.func m) am #[]):=(World.cell?_setCell_other _ _ _ _ (by simp)).trans h1;refine callsD_of_wpS func141 rfl fun c₀ cs hu=>?_
 apply wpS_seq;apply wpS_region;simp [wpOpsS,go_sem,recoverD,hu,ntmps141,Exit.thenS];refine wpS_cond (t:=true) (by simp [Act.eval,Array.replicate]) ?_;simp only [if_true];refine wpS_of_wp ?_;go_wp2_with fail
 refine hdy.mono ?_;rintro e w2 ⟨rfl,hr⟩;obtain ⟨r2,r2z,r3,r3z⟩:=hR w2 hr;have HR:Hid (R w2):=hr;have r3':∀v:Value,(w2.setCell ⟨b+2,0,none⟩ v).cell? ⟨b+3,0,none⟩=some (.int .i64 z):=fun v=>(World.cell?_setCell_other _ _ _ _ (by simp)).trans r3
 clear hr hR hdy;go_wp2;simp [bodyPostS,results,Tryz.results141];exact ⟨w2,HR.out,rfl⟩
end Go.Proofs.YtaijfhadecennabGreat.Oct
namespace Go.Proofs.YtaijfhadecennabGreat.Oct
open Go.RowKit
structure Loc4 (w:World) (b p:Nat) (v:Value) (x:Bool) (y:Int):Prop where
 l0:w.cell? ⟨b,0,none⟩=some (.pointer (some ⟨p,0,none⟩))
 l1:w.cell? ⟨b+1,0,none⟩=some v
 l2:w.cell? ⟨b+2,0,none⟩=some (.bool x)
 l3:w.cell? ⟨b+3,0,none⟩=some (.int .i64 y)
 z2:w.frozen? ⟨b+2,0,none⟩=false
 z3:w.frozen? ⟨b+3,0,none⟩=false
theorem Loc4.ch {w w':World} {b p B:Nat} {v:Value} {x:Bool} {y:Int} {F:Nat->Prop} (h:Loc4 w b p v x y) (hc:Ch B F w w') (hB:b+3<B) (hF:∀k,F k->k<b):Loc4 w' b p v x y:=
 ⟨(hc.cell (p:=⟨b,0,none⟩) (by show b<B;omega) (fun e=>by have:=hF _ e;simp at this)).trans h.l0,(hc.cell (p:=⟨b+1,0,none⟩) (by show b+1<B;omega) (fun e=>by have:=hF _ e;simp at this;omega)).trans h.l1,
   (hc.cell (p:=⟨b+2,0,none⟩) (by show b+2<B;omega) (fun e=>by have:=hF _ e;simp at this;omega)).trans h.l2,(hc.cell (p:=⟨b+3,0,none⟩) (by show b+3<B;omega) (fun e=>by have:=hF _ e;simp at this;omega)).trans h.l3,
   (hc.frozen (p:=⟨b+2,0,none⟩) (by show b+2<B;omega) (fun e=>by have:=hF _ e;simp at this;omega)).trans h.z2,(hc.frozen (p:=⟨b+3,0,none⟩) (by show b+3<B;omega) (fun e=>by have:=hF _ e;simp at this;omega)).trans h.z3⟩
def W4 (w:World) (p:Nat) (v:Value):World:=(((w.alloc (.cells #[.pointer (some ⟨p,0,none⟩)] 30)).alloc (.cells #[v] 1)).alloc (.cells #[.bool false] 4)).alloc (.cells #[.int .i64 0] 31)
theorem JI (w:World) (p:Nat) (v:Value):Below w.heap.size w (W4 w p v):=((((Below.refl _ w).alloc (jB _) _).alloc (by simp) _).alloc (by simp;omega) _).alloc (by simp;omega) _
theorem JY (w:World) (p:Nat) (v:Value):(W4 w p v).heap.size=w.heap.size+4:=by simp [W4]
theorem FS (w:World) (p:Nat) (v:Value):Loc4 (W4 w p v) w.heap.size p v false 0:=by
 constructor<;>simp [W4,go_sem]
def LocEq (b:Nat) (w w':World):Prop:=w'.os=w.os/\w'.tape=w.tape/\w'.output=w.output/\w'.heap.size=w.heap.size/\∀k,(k<b\/b+4<=k)->w'.heap[k]?=w.heap[k]?
theorem LocEq.two (b:Nat) (w:World) (u v:Value):LocEq b w ((w.setCell ⟨b+2,0,none⟩ u).setCell ⟨b+3,0,none⟩ v):=
 ⟨rfl,rfl,rfl,by rw [yL,yL],fun k hk=>(Below.heap_setCell _ ⟨b+3,0,none⟩ _ _ (by show k≠b+3;omega)).trans (Below.heap_setCell _ ⟨b+2,0,none⟩ _ _ (by show k≠b+2;omega))⟩
theorem LocEq.ch {b:Nat} {w w':World} (h:LocEq b w w') (F:Nat->Prop):Ch b F w w':=⟨h.1,h.2.1,h.2.2.1,by rw [h.2.2.2.1];exact jB _,fun k hk _=>h.2.2.2.2 k (.inl hk)⟩
theorem Dev.loc {w w':World} {b p:Nat} {F:Nat->Prop} {D:Dv} (h:Dev w p F D) (hl:LocEq b w w') (hF:∀k,F k->k<b\/b+4<=k):Dev w' p F D:=h.keep (by rw [hl.2.2.2.1];exact jB _) (fun g hg=>hl.2.2.2.2 g (hF g hg))
theorem Dev.set5 {w:World} {p:Nat} {F:Nat->Prop} {D:Dv} (h:Dev w p F D):Dev (w.setCell ⟨p,5,none⟩ (.int .i64 ((D.ops:Int)+1))) p F {D with ops:=D.ops+1}:=by
 obtain ⟨ok,hF,gN,gL,cN,cL,vS,vO,f,hc,hfo⟩:=h;exact ⟨⟨ok.n8,ok.n4,ok.now,ok.sure,ok.bnow,ok.bsure,ok.bout,ok.since,ok.fuse⟩,fun k hk=>by rw [yL];exact hF k hk,gN,gL,cN,cL,vS,vO,f,hc.set5 (D.ops+1),hfo⟩
theorem Dev.set6 {w:World} {p:Nat} {F:Nat->Prop} {D:Dv} (h:Dev w p F D):Dev (w.setCell ⟨p,6,none⟩ (.bool true)) p F {D with dead:=true}:=by
 obtain ⟨ok,hF,gN,gL,cN,cL,vS,vO,f,hc,hfo⟩:=h;exact ⟨⟨ok.n8,ok.n4,ok.now,ok.sure,ok.bnow,ok.bsure,ok.bout,ok.since,ok.fuse⟩,fun k hk=>by rw [yL];exact hF k hk,gN,gL,cN,cL,vS,vO,f,hc.set6 true,hfo⟩
theorem Dev.c56 {w:World} {p:Nat} {F:Nat->Prop} {D:Dv} (h:Dev w p F D):w.cell? ⟨p,5,none⟩=some (.int .i64 D.ops)/\w.cell? ⟨p,6,none⟩=some (.bool D.dead)/\∀i,w.frozen? ⟨p,i,none⟩=false:=by
 obtain ⟨ok,hF,gN,gL,cN,cL,vS,vO,f,hc,hfo⟩:=h;exact ⟨hc.at.2.2.2.2.2.1,hc.at.2.2.2.2.2.2.1,hc.at.2.2.2.2.2.2.2⟩
theorem set2 {w:World} {b p:Nat} {v:Value} {x:Bool} {y:Int} (h:Loc4 w b p v x y) (u t:Value):((w.setCell ⟨b+2,0,none⟩ u).setCell ⟨b+3,0,none⟩ t).cell? ⟨b+2,0,none⟩=some u:=
 (World.cell?_setCell_other _ _ _ _ (by simp)).trans (World.cell?_setCell_same _ _ _ h.l2)
theorem set3 {w:World} {b p:Nat} {v:Value} {x:Bool} {y:Int} (h:Loc4 w b p v x y) (u t:Value):((w.setCell ⟨b+2,0,none⟩ u).setCell ⟨b+3,0,none⟩ t).cell? ⟨b+3,0,none⟩=some t:=
 World.cell?_setCell_same _ _ _ ((World.cell?_setCell_other _ _ _ _ (by simp)).trans h.l3)
theorem mkf (fn:Fn) (first cap:Array Value) (w:World):(Instr.makeFunc fn first cap).run prog w=.ok (.func fn first cap) w:=rfl
theorem fQ {w:World} {p:Nat} {F:Nat->Prop} {D:Dv} (h:Dev w p F D) (hd:D.dead=true) (fd fy:Fn) (ad ay:Array Value):
  Calls prog 99 #[.pointer (some ⟨p,0,none⟩),.func fd ad #[],.func fy ay #[]] w fun e w'=>e=.returned (.tuple #[.bool false,.int .i64 7])/\Below w.heap.size w w':=by
 have hb:=JI w p (.func fy ay #[]);have c6:=((h.below hb).c56.2.1);rw [hd] at c6;unfold W4 at c6;clear h;clear hb;go_enter_defers func99,ntmps99
 go_wp2;simp [bodyPostD,Leaves,results,Tryz.results99,go_sem];exact ((((Below.refl _ w).alloc (jB _) _).alloc (by simp) _).alloc (by simp;omega) _).alloc (by simp;omega) _
theorem op_die {w:World} {p:Nat} {F:Nat->Prop} {D:Dv} (h:Dev w p F D) (hd:D.dead=false) (hf:D.fuse=0) (hops:D.ops<=4611686018427387904) (m:Nat) (am:Array Value) (hm:∀(a:Array Value) (w:World),(callFunc m a).run prog w=.ok (.enter m a) w) (fy:Fn) (ay:Array Value) (q:Nat) (hq:q<w.heap.size) (Ry:World->World->Prop)
  (hdy:∀w1,Dev w1 p F (dieD D)->Ch w.heap.size F w w1->w.heap.size+4<=w1.heap.size->Calls prog m am w1 fun e w2=>e=.returned (.tuple #[])/\Ch w1.heap.size (fun k=>F k\/k=q) w1 w2/\Ry w1 w2):
  Calls prog 99 #[.pointer (some ⟨p,0,none⟩),.func fy ay #[],.func (.func m) am #[]] w fun e w'=>e=.returned (.tuple #[.bool false,.int .i64 7])/\∃w1 w2,Dev w1 p F (dieD D)/\Ch w.heap.size F w w1/\w.heap.size+4<=w1.heap.size/\Ry w1 w2/\Ch w1.heap.size (fun k=>F k\/k=q) w1 w2/\LocEq w.heap.size w2 w':=by
 have hpw:=h.p;have hFw:=h.2.1;have hd4:=h.below (JI w p (.func (.func m) am #[]));have loc4:=FS w p (.func (.func m) am #[]);obtain ⟨c5,c6,z⟩:=hd4.c56;have z5:=z 5;have hd5:=hd4.set5;have loc5:=loc4.ch (Ch.set (w:=W4 w p (.func (.func m) am #[])) (F:=F) hpw.1 5 (.int .i64 ((D.ops:Int)+1))) (by rw [JY];omega) hFw;have hburn:=burn_zero hd5 hf;have hd6:Dev (((W4 w p (.func (.func m) am #[])).setCell ⟨p,5,none⟩ (.int .i64 ((D.ops:Int)+1))).setCell ⟨p,6,none⟩ (.bool true)) p F (dieD D):=hd5.set6
 have ch6:Ch w.heap.size F w (((W4 w p (.func (.func m) am #[])).setCell ⟨p,5,none⟩ (.int .i64 ((D.ops:Int)+1))).setCell ⟨p,6,none⟩ (.bool true)):=
  ((Ch.of F (JI w p _)).setCell (p:=⟨p,5,none⟩) (.inr hpw.1) _).setCell (p:=⟨p,6,none⟩) (.inr hpw.1) _
 have s6:w.heap.size+4<=(((W4 w p (.func (.func m) am #[])).setCell ⟨p,5,none⟩ (.int .i64 ((D.ops:Int)+1))).setCell ⟨p,6,none⟩ (.bool true)).heap.size:=by rw [yL,yL,JY];omega
 have loc6:=loc5.ch (Ch.set (w:=(W4 w p (.func (.func m) am #[])).setCell ⟨p,5,none⟩ (.int .i64 ((D.ops:Int)+1))) (F:=F) hpw.1 6 (.bool true)) (by rw [yL,JY];omega) hFw;obtain ⟨_,d6,z'⟩:=hd5.c56
 have hcatch:=fun u pv older=>opc_f m am hm w.heap.size p D.dead false 0 u pv older _
  (fun w'=>Ch (((W4 w p (.func (.func m) am #[])).setCell ⟨p,5,none⟩ (.int .i64 ((D.ops:Int)+1))).setCell ⟨p,6,none⟩ (.bool true)).heap.size (fun k=>F k\/k=q) (((W4 w p (.func (.func m) am #[])).setCell ⟨p,5,none⟩ (.int .i64 ((D.ops:Int)+1))).setCell ⟨p,6,none⟩ (.bool true)) w'/\Ry (((W4 w p (.func (.func m) am #[])).setCell ⟨p,5,none⟩ (.int .i64 ((D.ops:Int)+1))).setCell ⟨p,6,none⟩ (.bool true)) w')
  loc5.l0 loc5.l1 d6 (z' 6) (hdy _ hd6 ch6 s6) (fun w' hr=>by
   have l:=loc6.ch hr.1 (by omega) (fun k hk=>by rcases hk with hk|hk;exact hFw k hk;omega);exact ⟨l.l2,l.z2,l.l3,l.z3⟩)
 have HD:Hid (Dev (((W4 w p (.func (.func m) am #[])).setCell ⟨p,5,none⟩ (.int .i64 ((D.ops:Int)+1))).setCell ⟨p,6,none⟩ (.bool true)) p F (dieD D)):=hd6;have HC:Hid (Ch w.heap.size F w (((W4 w p (.func (.func m) am #[])).setCell ⟨p,5,none⟩ (.int .i64 ((D.ops:Int)+1))).setCell ⟨p,6,none⟩ (.bool true))):=ch6;have HS:Hid (w.heap.size+4<=(((W4 w p (.func (.func m) am #[])).setCell ⟨p,5,none⟩ (.int .i64 ((D.ops:Int)+1))).setCell ⟨p,6,none⟩ (.bool true)).heap.size):=s6;have HL:Hid (Loc4 (((W4 w p (.func (.func m) am #[])).setCell ⟨p,5,none⟩ (.int .i64 ((D.ops:Int)+1))).setCell ⟨p,6,none⟩ (.bool true)) w.heap.size p (.func (.func m) am #[]) false 0):=loc6;have HF:Hid (∀k,F k->k<w.heap.size):=hFw;rw [hd] at c6;have hmk:=mkf;unfold W4 at c5 c6 z5 hburn hcatch;clear h hd4 hd5 loc4 loc5 loc6 hd6 ch6 s6 d6 z z' hdy hFw hd hf;go_enter_defers func99,ntmps99
 go_wp2_with fail
 refine hburn.mono ?_;rintro e w' ⟨⟨s,rfl⟩,rfl⟩;go_wp2;refine leaves_cons (f:=141) (args:= #[.pointer (some ⟨w.heap.size,0,none⟩),.pointer (some ⟨w.heap.size+1,0,none⟩),.pointer (some ⟨w.heap.size+2,0,none⟩),.pointer (some ⟨w.heap.size+3,0,none⟩)]) (by simp) (by simp [go_sem]) ?_;refine (hcatch _ _ []).mono ?_;rintro e u' w'' ⟨rfl,rfl,w2,⟨hch,hry⟩,rfl⟩;have l:=HL.out.ch hch HS.out (fun k hk=>by rcases hk with hk|hk;exact HF.out k hk;omega);have q1:=fun u v=>set2 l u v
 have q2:=fun u v=>set3 l u v
 simp [Leaves,settle,results,Tryz.results99,go_sem,q1,q2];exact ⟨_,HD.out,HC.out,HS.out,w2,hry,hch,LocEq.two _ _ _ _⟩
theorem fP {w:World} {p:Nat} {F:Nat->Prop} {D:Dv} (h:Dev w p F D) (hd:D.dead=false) (hf:D.fuse≠0) (hoc:oc D=1) (hops:D.ops<=4611686018427387904) (m:Nat) (am:Array Value) (fy:Fn) (ay:Array Value):
  Calls prog 99 #[.pointer (some ⟨p,0,none⟩),.func (.func m) am #[],.func fy ay #[]] w fun e w'=>e=.returned (.tuple #[.bool false,.int .i64 7])/\Dev w' p F (opD D)/\Ch w.heap.size F w w':=by
 have hpw:=h.p;have hFw:=h.2.1;have hby:=h.1.bout.at 0;have hd4:=h.below (JI w p (.func fy ay #[]));have loc4:=FS w p (.func fy ay #[]);obtain ⟨c5,c6,z⟩:=hd4.c56;have z5:=z 5;have hd5:=hd4.set5;have loc5:=loc4.ch (Ch.set (w:=W4 w p (.func fy ay #[])) (F:=F) hpw.1 5 (.int .i64 ((D.ops:Int)+1))) (by rw [JY];omega) hFw;have hburn:=uQ hd5 hf;have ch5:Ch w.heap.size F w ((W4 w p (.func fy ay #[])).setCell ⟨p,5,none⟩ (.int .i64 ((D.ops:Int)+1))):=(Ch.of F (JI w p _)).setCell (p:=⟨p,5,none⟩) (.inr hpw.1) _;have s5:((W4 w p (.func fy ay #[])).setCell ⟨p,5,none⟩ (.int .i64 ((D.ops:Int)+1))).heap.size=w.heap.size+4:=by rw [yL,JY]
 have HC5:Hid (Ch w.heap.size F w ((W4 w p (.func fy ay #[])).setCell ⟨p,5,none⟩ (.int .i64 ((D.ops:Int)+1)))):=ch5;have HS5:Hid (((W4 w p (.func fy ay #[])).setCell ⟨p,5,none⟩ (.int .i64 ((D.ops:Int)+1))).heap.size=w.heap.size+4):=s5;have HL5:Hid (Loc4 ((W4 w p (.func fy ay #[])).setCell ⟨p,5,none⟩ (.int .i64 ((D.ops:Int)+1))) w.heap.size p (.func fy ay #[]) false 0):=loc5;have HF:Hid (∀k,F k->k<w.heap.size):=hFw;rw [hd] at c6;have hmk:=mkf;obtain ⟨zo,hzo⟩:∃zo,D.out.getD 0 0=zo:=⟨_,rfl⟩;have ho3:zo%3=1:=by rw [<-hzo];exact hoc
 rw [hzo] at hby;obtain ⟨hy1,hy2⟩:=hby;have HZ:Hid (D.out.getD 0 0=zo):=hzo;unfold W4 at c5 c6 z5 hburn;clear h hd4 hd5 loc4 loc5 ch5 s5 z hFw hd hf hzo hoc;go_enter_defers func99,ntmps99
 go_wp2_with fail
 refine hburn.mono ?_;clear hburn;rintro e w6 ⟨rfl,hd6,hc6⟩;have l6:Loc4 w6 w.heap.size p (.func fy ay #[]) false 0:=HL5.out.ch hc6 (Nat.lt_of_lt_of_eq (Nat.lt_succ_self _) HS5.out.symm) HF.out;have s6:w.heap.size+4<=w6.heap.size:=jR (xO HS5.out.symm) hc6.size;have hc6':Ch w.heap.size F w w6:=HC5.out.trans (hc6.mono (jR (Nat.le_add_right _ 4) (xO HS5.out.symm)) (fun _ _ e=>e));have hout:=XN hd6;rw [show ({({D with ops:=D.ops+1}:Dv) with fuse:=lessF D.fuse}:Dv).out=D.out from rfl,HZ.out] at hout;have m0:=l6.l0;have HL6:Hid (Loc4 w6 w.heap.size p (.func fy ay #[]) false 0):=l6;have HC6:Hid (Ch w.heap.size F w w6):=hc6';clear hd6 hc6 l6 hc6' c5 c6 z5;go_wp2_with fail
 refine hout.mono ?_;clear hout;rintro e w7 ⟨rfl,hd7,hc7⟩;have l7:Loc4 w7 w.heap.size p (.func fy ay #[]) false 0:=HL6.out.ch hc7 (by omega) HF.out;have s7:w.heap.size+4<=w7.heap.size:=jR s6 hc7.size;have HC7:Hid (Ch w.heap.size F w w7):=HC6.out.trans (hc7.mono (by omega) (fun _ _ e=>e));have HD7:Hid (Dev w7 p F (opD D)):=hd7;have HL7:Hid (Loc4 w7 w.heap.size p (.func fy ay #[]) false 0):=l7;clear hd7 hc7 m0 HL6 HC6 HL5 HC5 HS5;obtain ⟨k0,k1,k2,k3,y2,y3⟩:=l7;have k3':∀v:Value,(w7.setCell ⟨w.heap.size+2,0,none⟩ v).cell? ⟨w.heap.size+3,0,none⟩=some (.int .i64 0):=fun v=>(World.cell?_setCell_other _ _ _ _ (by simp)).trans k3
 go_wp2;refine leaves_cons (f:=141) (args:= #[.pointer (some ⟨w.heap.size,0,none⟩),.pointer (some ⟨w.heap.size+1,0,none⟩),.pointer (some ⟨w.heap.size+2,0,none⟩),.pointer (some ⟨w.heap.size+3,0,none⟩)]) (by simp) (by simp [go_sem]) ?_;refine (UW _ _).mono ?_;rintro e u' w'' ⟨rfl,rfl,rfl⟩;have q1:=fun u v=>set2 HL7.out u v
 have q2:=fun u v=>set3 HL7.out u v
 simp [Leaves,settle,results,Tryz.results99,go_sem,q1,q2];exact ⟨HD7.out.loc (LocEq.two _ _ _ _) (fun k hk=>.inl (HF.out k hk)),HC7.out.trans ((LocEq.two _ _ _ _).ch F)⟩
theorem UX {w:World} {p:Nat} {F:Nat->Prop} {D:Dv} (h:Dev w p F D) (hd:D.dead=false) (hf:D.fuse≠0) (hoc:oc D=2) (hops:D.ops<=4611686018427387904) (m:Nat) (am:Array Value) (hm:∀(a:Array Value) (w:World),(callFunc m a).run prog w=.ok (.enter m a) w) (fy:Fn) (ay:Array Value) (q:Nat) (hq:q<w.heap.size) (Rd:World->World->Prop)
  (hdo:∀w1,Dev w1 p F (opD D)->Ch w.heap.size F w w1->w.heap.size+4<=w1.heap.size->Calls prog m am w1 fun e w2=>e=.returned (.tuple #[])/\Ch w1.heap.size (fun k=>F k\/k=q) w1 w2/\Rd w1 w2):
  Calls prog 99 #[.pointer (some ⟨p,0,none⟩),.func (.func m) am #[],.func fy ay #[]] w fun e w'=>e=.returned (.tuple #[.bool true,.int .i64 7])/\∃w1 w2,Dev w1 p F (opD D)/\Ch w.heap.size F w w1/\w.heap.size+4<=w1.heap.size/\Rd w1 w2/\Ch w1.heap.size (fun k=>F k\/k=q) w1 w2/\LocEq w.heap.size w2 w':=by
 have hpw:=h.p;have hFw:=h.2.1;have hby:=h.1.bout.at 0;have hd4:=h.below (JI w p (.func fy ay #[]));have loc4:=FS w p (.func fy ay #[]);obtain ⟨c5,c6,z⟩:=hd4.c56;have z5:=z 5;have hd5:=hd4.set5;have loc5:=loc4.ch (Ch.set (w:=W4 w p (.func fy ay #[])) (F:=F) hpw.1 5 (.int .i64 ((D.ops:Int)+1))) (by rw [JY];omega) hFw;have hburn:=uQ hd5 hf;have ch5:Ch w.heap.size F w ((W4 w p (.func fy ay #[])).setCell ⟨p,5,none⟩ (.int .i64 ((D.ops:Int)+1))):=(Ch.of F (JI w p _)).setCell (p:=⟨p,5,none⟩) (.inr hpw.1) _;have s5:((W4 w p (.func fy ay #[])).setCell ⟨p,5,none⟩ (.int .i64 ((D.ops:Int)+1))).heap.size=w.heap.size+4:=by rw [yL,JY]
 have HC5:Hid (Ch w.heap.size F w ((W4 w p (.func fy ay #[])).setCell ⟨p,5,none⟩ (.int .i64 ((D.ops:Int)+1)))):=ch5;have HS5:Hid (((W4 w p (.func fy ay #[])).setCell ⟨p,5,none⟩ (.int .i64 ((D.ops:Int)+1))).heap.size=w.heap.size+4):=s5;have HL5:Hid (Loc4 ((W4 w p (.func fy ay #[])).setCell ⟨p,5,none⟩ (.int .i64 ((D.ops:Int)+1))) w.heap.size p (.func fy ay #[]) false 0):=loc5;have HF:Hid (∀k,F k->k<w.heap.size):=hFw;rw [hd] at c6;have hmk:=mkf;obtain ⟨zo,hzo⟩:∃zo,D.out.getD 0 0=zo:=⟨_,rfl⟩;have ho3:zo%3=2:=by rw [<-hzo];exact hoc
 rw [hzo] at hby;obtain ⟨hy1,hy2⟩:=hby;have HZ:Hid (D.out.getD 0 0=zo):=hzo;unfold W4 at c5 c6 z5 hburn;clear h hd4 hd5 loc4 loc5 ch5 s5 z hFw hd hf hzo hoc;go_enter_defers func99,ntmps99
 go_wp2_with fail
 refine hburn.mono ?_;clear hburn;rintro e w6 ⟨rfl,hd6,hc6⟩;have l6:Loc4 w6 w.heap.size p (.func fy ay #[]) false 0:=HL5.out.ch hc6 (Nat.lt_of_lt_of_eq (Nat.lt_succ_self _) HS5.out.symm) HF.out;have s6:w.heap.size+4<=w6.heap.size:=jR (xO HS5.out.symm) hc6.size;have hc6':Ch w.heap.size F w w6:=HC5.out.trans (hc6.mono (jR (Nat.le_add_right _ 4) (xO HS5.out.symm)) (fun _ _ e=>e));have hout:=XN hd6;rw [show ({({D with ops:=D.ops+1}:Dv) with fuse:=lessF D.fuse}:Dv).out=D.out from rfl,HZ.out] at hout;have m0:=l6.l0;have HL6:Hid (Loc4 w6 w.heap.size p (.func fy ay #[]) false 0):=l6;have HC6:Hid (Ch w.heap.size F w w6):=hc6';clear hd6 hc6 l6 hc6' c5 c6 z5;go_wp2_with fail
 refine hout.mono ?_;clear hout;rintro e w7 ⟨rfl,hd7,hc7⟩;have l7:Loc4 w7 w.heap.size p (.func fy ay #[]) false 0:=HL6.out.ch hc7 (by omega) HF.out;have s7:w.heap.size+4<=w7.heap.size:=jR s6 hc7.size;have HC7:Hid (Ch w.heap.size F w w7):=HC6.out.trans (hc7.mono (by omega) (fun _ _ e=>e));have HD7:Hid (Dev w7 p F (opD D)):=hd7;have HL7:Hid (Loc4 w7 w.heap.size p (.func fy ay #[]) false 0):=l7;clear hd7 hc7 m0 HL6 HC6 HL5 HC5 HS5;have hcall:=hdo w7 HD7.out HC7.out s7;clear hdo;go_wp2_with fail
 refine hcall.mono ?_;clear hcall;rintro e w8 ⟨rfl,hc8,hr8⟩;have l8:Loc4 w8 w.heap.size p (.func fy ay #[]) false 0:=HL7.out.ch hc8 (by omega) (fun k hk=>by rcases hk with hk|hk;exact HF.out k hk;omega);have HR:Hid (Rd w7 w8):=hr8;have HC8:Hid (Ch w7.heap.size (fun k=>F k\/k=q) w7 w8):=hc8;have HL8:Hid (Loc4 w8 w.heap.size p (.func fy ay #[]) false 0):=l8;clear hr8 hc8;obtain ⟨k0,k1,k2,k3,y2,y3⟩:=l8;have k3':∀v:Value,(w8.setCell ⟨w.heap.size+2,0,none⟩ v).cell? ⟨w.heap.size+3,0,none⟩=some (.int .i64 0):=fun v=>(World.cell?_setCell_other _ _ _ _ (by simp)).trans k3
 go_wp2;refine leaves_cons (f:=141) (args:= #[.pointer (some ⟨w.heap.size,0,none⟩),.pointer (some ⟨w.heap.size+1,0,none⟩),.pointer (some ⟨w.heap.size+2,0,none⟩),.pointer (some ⟨w.heap.size+3,0,none⟩)]) (by simp) (by simp [go_sem]) ?_;refine (UW _ _).mono ?_;rintro e u' w'' ⟨rfl,rfl,rfl⟩;have q1:=fun u v=>set2 HL8.out u v
 have q2:=fun u v=>set3 HL8.out u v
 simp [Leaves,settle,results,Tryz.results99,go_sem,q1,q2];exact ⟨w7,HD7.out,HC7.out,s7,w8,HR.out,HC8.out,LocEq.two _ _ _ _⟩
theorem UY {w:World} {p:Nat} {F:Nat->Prop} {D:Dv} (h:Dev w p F D) (hd:D.dead=false) (hf:D.fuse≠0) (hoc:oc D=0) (hops:D.ops<=4611686018427387904) (m:Nat) (am:Array Value) (hm:∀(a:Array Value) (w:World),(callFunc m a).run prog w=.ok (.enter m a) w) (fy:Fn) (ay:Array Value) (q:Nat) (hq:q<w.heap.size) (Rd:World->World->Prop)
  (hdo:∀w1,Dev w1 p F (opD D)->Ch w.heap.size F w w1->w.heap.size+4<=w1.heap.size->Calls prog m am w1 fun e w2=>e=.returned (.tuple #[])/\Ch w1.heap.size (fun k=>F k\/k=q) w1 w2/\Rd w1 w2):
  Calls prog 99 #[.pointer (some ⟨p,0,none⟩),.func (.func m) am #[],.func fy ay #[]] w fun e w'=>e=.returned (.tuple #[.bool true,.int .i64 0])/\∃w1 w2,Dev w1 p F (opD D)/\Ch w.heap.size F w w1/\w.heap.size+4<=w1.heap.size/\Rd w1 w2/\Ch w1.heap.size (fun k=>F k\/k=q) w1 w2/\LocEq w.heap.size w2 w':=by
 have hpw:=h.p;have hFw:=h.2.1;have hby:=h.1.bout.at 0;have hd4:=h.below (JI w p (.func fy ay #[]));have loc4:=FS w p (.func fy ay #[]);obtain ⟨c5,c6,z⟩:=hd4.c56;have z5:=z 5;have hd5:=hd4.set5;have loc5:=loc4.ch (Ch.set (w:=W4 w p (.func fy ay #[])) (F:=F) hpw.1 5 (.int .i64 ((D.ops:Int)+1))) (by rw [JY];omega) hFw;have hburn:=uQ hd5 hf;have ch5:Ch w.heap.size F w ((W4 w p (.func fy ay #[])).setCell ⟨p,5,none⟩ (.int .i64 ((D.ops:Int)+1))):=(Ch.of F (JI w p _)).setCell (p:=⟨p,5,none⟩) (.inr hpw.1) _;have s5:((W4 w p (.func fy ay #[])).setCell ⟨p,5,none⟩ (.int .i64 ((D.ops:Int)+1))).heap.size=w.heap.size+4:=by rw [yL,JY]
 have HC5:Hid (Ch w.heap.size F w ((W4 w p (.func fy ay #[])).setCell ⟨p,5,none⟩ (.int .i64 ((D.ops:Int)+1)))):=ch5;have HS5:Hid (((W4 w p (.func fy ay #[])).setCell ⟨p,5,none⟩ (.int .i64 ((D.ops:Int)+1))).heap.size=w.heap.size+4):=s5;have HL5:Hid (Loc4 ((W4 w p (.func fy ay #[])).setCell ⟨p,5,none⟩ (.int .i64 ((D.ops:Int)+1))) w.heap.size p (.func fy ay #[]) false 0):=loc5;have HF:Hid (∀k,F k->k<w.heap.size):=hFw;rw [hd] at c6;have hmk:=mkf;obtain ⟨zo,hzo⟩:∃zo,D.out.getD 0 0=zo:=⟨_,rfl⟩;have ho3:zo%3=0:=by rw [<-hzo];exact hoc
 rw [hzo] at hby;obtain ⟨hy1,hy2⟩:=hby;have HZ:Hid (D.out.getD 0 0=zo):=hzo;unfold W4 at c5 c6 z5 hburn;clear h hd4 hd5 loc4 loc5 ch5 s5 z hFw hd hf hzo hoc;go_enter_defers func99,ntmps99
 go_wp2_with fail
 refine hburn.mono ?_;clear hburn;rintro e w6 ⟨rfl,hd6,hc6⟩;have l6:Loc4 w6 w.heap.size p (.func fy ay #[]) false 0:=HL5.out.ch hc6 (Nat.lt_of_lt_of_eq (Nat.lt_succ_self _) HS5.out.symm) HF.out;have s6:w.heap.size+4<=w6.heap.size:=jR (xO HS5.out.symm) hc6.size;have hc6':Ch w.heap.size F w w6:=HC5.out.trans (hc6.mono (jR (Nat.le_add_right _ 4) (xO HS5.out.symm)) (fun _ _ e=>e));have hout:=XN hd6;rw [show ({({D with ops:=D.ops+1}:Dv) with fuse:=lessF D.fuse}:Dv).out=D.out from rfl,HZ.out] at hout;have m0:=l6.l0;have HL6:Hid (Loc4 w6 w.heap.size p (.func fy ay #[]) false 0):=l6;have HC6:Hid (Ch w.heap.size F w w6):=hc6';clear hd6 hc6 l6 hc6' c5 c6 z5;go_wp2_with fail
 refine hout.mono ?_;clear hout;rintro e w7 ⟨rfl,hd7,hc7⟩;have l7:Loc4 w7 w.heap.size p (.func fy ay #[]) false 0:=HL6.out.ch hc7 (by omega) HF.out;have s7:w.heap.size+4<=w7.heap.size:=jR s6 hc7.size;have HC7:Hid (Ch w.heap.size F w w7):=HC6.out.trans (hc7.mono (by omega) (fun _ _ e=>e));have HD7:Hid (Dev w7 p F (opD D)):=hd7;have HL7:Hid (Loc4 w7 w.heap.size p (.func fy ay #[]) false 0):=l7;clear hd7 hc7 m0 HL6 HC6 HL5 HC5 HS5;have hcall:=hdo w7 HD7.out HC7.out s7;clear hdo;go_wp2_with fail
 refine hcall.mono ?_;clear hcall;rintro e w8 ⟨rfl,hc8,hr8⟩;have l8:Loc4 w8 w.heap.size p (.func fy ay #[]) false 0:=HL7.out.ch hc8 (by omega) (fun k hk=>by rcases hk with hk|hk;exact HF.out k hk;omega);have HR:Hid (Rd w7 w8):=hr8;have HC8:Hid (Ch w7.heap.size (fun k=>F k\/k=q) w7 w8):=hc8;have HL8:Hid (Loc4 w8 w.heap.size p (.func fy ay #[]) false 0):=l8;clear hr8 hc8;obtain ⟨k0,k1,k2,k3,y2,y3⟩:=l8;have k3':∀v:Value,(w8.setCell ⟨w.heap.size+2,0,none⟩ v).cell? ⟨w.heap.size+3,0,none⟩=some (.int .i64 0):=fun v=>(World.cell?_setCell_other _ _ _ _ (by simp)).trans k3
 go_wp2;refine leaves_cons (f:=141) (args:= #[.pointer (some ⟨w.heap.size,0,none⟩),.pointer (some ⟨w.heap.size+1,0,none⟩),.pointer (some ⟨w.heap.size+2,0,none⟩),.pointer (some ⟨w.heap.size+3,0,none⟩)]) (by simp) (by simp [go_sem]) ?_;refine (UW _ _).mono ?_;rintro e u' w'' ⟨rfl,rfl,rfl⟩;have q1:=fun u v=>set2 HL8.out u v
 have q2:=fun u v=>set3 HL8.out u v
 simp [Leaves,settle,results,Tryz.results99,go_sem,q1,q2];exact ⟨w7,HD7.out,HC7.out,s7,w8,HR.out,HC8.out,LocEq.two _ _ _ _⟩
end Go.Proofs.YtaijfhadecennabGreat.Oct
