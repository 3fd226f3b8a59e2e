/- Part of a proof. -/
import Derived.Test.YtjllhcifmfhkmaaGreatGc
import Derived.Deep.RegionLaw
import Derived.Deep.DrawnRows
namespace Go.Proofs.YtjllhcifmfhkmaaGreat.Oct
open Go.RowKit
def LoadW (x:Value):Sem Value:=Instr.loadAt 223 x
theorem loadW_eq (x:Value):Instr.loadAt 223 x=LoadW x:=rfl
def BuildW (ps:Array (Nat × Value)):Sem Value:=Instr.buildSlice 90 1 ps
theorem buildW_eq (ps:Array (Nat × Value)):Instr.buildSlice 90 1 ps=BuildW ps:=rfl
attribute [local go_sem ↓] loadW_eq buildW_eq
theorem scells_snoc (l:List (Nat × List Int)) (x:Nat × List Int):scells (l++[x])=scells l++wcells x:=by simp [scells]
theorem wrote {w w1 w2:World} {p:Nat} {F:Nat→Prop} {D:Dv} {gN gL cN cL:Nat} {vS vO:Value} {f:Int} {pg g cap:Nat} {b:List Int} {o:Obj} (ok:(wrD D pg b).ok) (hF:∀k,F k→k<w.heap.size) (h:DevC w p gN gL cN cL vS vO f D) (hfo:∀k,foot p gN gL vS vO k→F k)
  (ho:Own 0 w1 (.slice (some ⟨gN,0,none⟩) D.now.length cN) (onto D.now pg b 15)) (hc:Ch w.heap.size (fun k=>k=gN) w w1)
  (hown:w2.ownsRow 0 223 257 (.slice (some ⟨g,0,none⟩) (D.since.length+1) cap) (D.since.length+1) (scells D.since++wcells (pg,b)))
  (hgrow:(w1.alloc o).grownBy w2 vS.ownBlock) (hat:vS.ownBlock=some g∨g=w1.heap.size+1) (hlt:g<w2.heap.size):
  ∃F',Dev (w2.setCell ⟨p,2,none⟩ (.slice (some ⟨g,0,none⟩) (D.since.length+1) cap)) p F' (wrD D pg b)∧Step F F' w (w2.setCell ⟨p,2,none⟩ (.slice (some ⟨g,0,none⟩) (D.since.length+1) cap)):=by
 have s1:=hc.size;have s2:=hgrow.size;simp at s2;have hp:p<w.heap.size:=hF p (hfo p (.inl rfl));have hN:gN<w.heap.size:=hF gN (hfo gN (.inr (.inl rfl)));have hL:gL<w.heap.size:=hF gL (hfo gL (.inr (.inr (.inl rfl))))
 have k2:∀k,k<w1.heap.size→vS.ownBlock≠some k→w2.heap[k]?=w1.heap[k]?:=fun k hk hne=>
  (hgrow.block k (by simp;omega) (fun e=>hne e.symm)).trans (Below.heap_alloc _ _ _ hk)
 have k1:∀k,k<w.heap.size→k≠gN→w1.heap[k]?=w.heap[k]?:=fun k hk hne=>hc.block k hk hne
 have k3:∀k,k≠p→(w2.setCell ⟨p,2,none⟩ (.slice (some ⟨g,0,none⟩) (D.since.length+1) cap)).heap[k]?=w2.heap[k]?:=fun k hk=>Below.heap_setCell w2 ⟨p,2,none⟩ _ k hk
 have hgp:g≠p:=by rcases hat with e|e;exact fun e2=>h.pS (e2▸e);omega
 have hgN:g≠gN:=by rcases hat with e|e;exact fun e2=>h.NS (e2▸e);omega
 have hgL:g≠gL:=by rcases hat with e|e;exact fun e2=>h.LS (e2▸e);omega
 have hgO:vO.ownBlock≠some g:=by
  rcases hat with e|e
  ·exact h.SO g e
  ·intro e2;have:=hF g (hfo g (.inr (.inr (.inr (.inr e2)))));omega
 have hcells:w2.heap[p]?=w.heap[p]?:=(k2 p (by omega) h.pS).trans (k1 p hp h.pN);refine ⟨fun k=>F k∨w.heap.size≤k∧k<w2.heap.size,⟨ok,fun k hk=>?_,gN,gL,cN,cL,.slice (some ⟨g,0,none⟩) (D.since.length+1) cap,vO,f,?_,fun k hk=>?_⟩,?_,?_⟩
 ·rw [size_setCell];rcases hk with hk|hk
  ·have:=hF k hk;omega
  ·exact hk.2
 ·refine {h with cells:=?_,now:=?_,sure:=?_,since:=?_,out:=?_,fuse:=h.fuse,pS:=by simp [Value.ownBlock];exact hgp,NS:=by simp [Value.ownBlock];exact hgN,LS:=by simp [Value.ownBlock];exact hgL,SO:=fun k hk=>by simp [Value.ownBlock] at hk;subst hk;exact hgO}
  ·have e:=setCell_heap w2 p 2 (.slice (some ⟨g,0,none⟩) (D.since.length+1) cap) _ _ _ (hcells.trans h.cells);rw [e];simp only [wrD,onto_len];rfl
  ·simp only [wrD,onto_len];exact ho.kept ((k3 gN h.pN.symm).trans (k2 gN (by omega) h.NS))
  ·exact h.sure.kept ((k3 gL h.pL.symm).trans ((k2 gL (by omega) h.LS).trans (k1 gL hL h.NL.symm)))
  ·simp only [wrD,List.length_append,List.length_cons,List.length_nil];rw [scells_snoc];exact owns_keep hown (fun k hk=>by simp [Value.ownBlock] at hk;subst hk;exact k3 g hgp)
  ·refine h.out.keep (fun k hk=>?_);have hk1:=hF k (hfo k (.inr (.inr (.inr (.inr hk)))));exact (k3 k (fun e=>h.pO (e▸hk))).trans ((k2 k (by omega) (fun e=>h.SO k e hk)).trans (k1 k hk1 (fun e=>h.NO (e▸hk))))
 ·rcases hk with hk|hk|hk|hk|hk
  ·exact .inl (hfo k (.inl hk))
  ·exact .inl (hfo k (.inr (.inl hk)))
  ·exact .inl (hfo k (.inr (.inr (.inl hk))))
  ·simp [Value.ownBlock] at hk;subst hk;rcases hat with e|e
   ·exact .inl (hfo g (.inr (.inr (.inr (.inl e)))))
   ·exact .inr ⟨by omega,hlt⟩
  ·exact .inl (hfo k (.inr (.inr (.inr (.inr hk)))))
 ·have a1:Ch w.heap.size F w w1:=hc.mono (Nat.le_refl _) (fun k _ e=>by rw [e];exact hfo gN (.inr (.inl rfl)));exact ((a1.alloc s1 o).grown hgrow (by simp;omega) (fun k hk=>.inr (hfo k (.inr (.inr (.inr (.inl hk))))))).setCell (p:=⟨p,2,none⟩) (.inr (hfo p (.inl rfl))) _
 ·intro k hk;rcases hk with hk|hk
  ·exact .inl hk
  ·exact .inr hk.1
end Go.Proofs.YtjllhcifmfhkmaaGreat.Oct
namespace Go.Proofs.YtjllhcifmfhkmaaGreat.Oct
open Go.RowKit
theorem Row.cut {w:World} {g off cap:Nat} {L:List Int} (h:Row w (some ⟨g,off,none⟩) cap L) (a n:Nat) (hn:a+n≤L.length):Row w (some ⟨g,off+a,none⟩) (cap-a) ((L.drop a).take n):=by
 have hl:((L.drop a).take n).length=n:=by simp;omega
 refine ⟨fun z hz=>h.1 z (List.mem_of_mem_drop (List.mem_of_mem_take hz)),by have:=h.2.1;omega,by have:=h.2.2.1;omega,?_⟩;by_cases h0:n=0
 ·exact .inl (by simp [h0])
 ·refine .inr ⟨g,off+a,rfl,fun i hi=>?_⟩;rw [hl] at hi;have:=h.cells (a+i) (by omega);rw [show off+a+i=off+(a+i) by omega,this];simp [List.getD_eq_getElem?_getD,hi,List.getElem?_drop]
theorem pageOf_len {L:List Int} {pg:Nat} (h:pg*256+256≤L.length):(pageOf L pg).length=256:=by simp [pageOf];omega
set_option maxHeartbeats 1000000 in
theorem rdo_any {w:World} {p:Nat} {F:Nat→Prop} {D:Dv} (h:Dev w p F D) (q pg:Nat) (v:Value) (hq0:w.cell? ⟨q,0,none⟩=some (.pointer (some ⟨p,0,none⟩))) (hq1:w.cell? ⟨q,1,none⟩=some (.int .i64 pg)) (hq2:w.cell? ⟨q,2,none⟩=some v) (hz2:w.frozen? ⟨q,2,none⟩=false) (hpg:pg<D.n):
  Calls Tryz.prog 50 #[.pointer (some ⟨q,0,none⟩)] w fun e w'=>e=.returned (.tuple #[])∧(∃g c,w'.cell? ⟨q,2,none⟩=some (.slice (some ⟨g,0,none⟩) 256 c)∧Own w.heap.size w' (.slice (some ⟨g,0,none⟩) 256 c) (pageOf D.now pg))∧Ch w.heap.size (fun k=>k=q) w w':=by
 obtain ⟨ok,hF,gN,gL,cN,cL,vS,vO,f,hc,hfo⟩:=h;have c0:=hc.at.1;have hlen:=ok.now;have hn4:=ok.n4;have hrow:=(hc.now.row' ok.bnow).2;have hcN:=hrow.2.1;have hcm:=hrow.2.2.1;have hpl:(pageOf D.now pg).length=256:=pageOf_len (by omega);have hcut:=hrow.cut (pg*256) 256 (by omega);obtain ⟨A,hA⟩:∃A,pg*256=A:=⟨_,rfl⟩;rw [hA,Nat.zero_add] at hcut;have hcl:=clone_some ⟨gN,A,none⟩ (cN-A) (pageOf D.now pg) w (by unfold pageOf;rw [hA];exact hcut) (by omega);rw [hpl] at hcl;obtain ⟨N,hN⟩:∃N,D.now.length=N:=⟨_,rfl⟩;rw [hN] at c0 hcN;have i1:(pg:Int)*256=A:=by omega
 have i2:A+256≤N:=by omega
 have i4:N≤1048576:=by omega
 have i5:¬cN=A:=by omega
 obtain ⟨U,hU⟩:∃U,A+256=U:=⟨_,rfl⟩;have i6:(A:Int)+256=U:=by omega
 have i7:(U:Int)≤cN:=by omega
 have i8:(A:Int)≤U:=by omega
 have i9:U-A=256:=by omega
 have hbq:q<w.heap.size:=block_lt_of_cell hq0;unfold maxLen at hcm;clear hrow hcut hc ok hfo hF hlen hpl hA hN hU;go_enter Tryz.func50,Tryz.ntmps50
 go_wp2_with fail
 refine hcl.mono ?_;clear hcl;rintro e w1 ⟨g,c,rfl,ho,hb⟩;have e2:w1.cell? ⟨q,2,none⟩=some v:=(hb.cell (p:=⟨q,2,none⟩) hbq).trans hq2;have y2:w1.frozen? ⟨q,2,none⟩=false:=(hb.frozen (p:=⟨q,2,none⟩) hbq).trans hz2;have lg:=ho.lt2;have HO:Hid (Own w.heap.size (w1.setCell ⟨q,2,none⟩ (.slice (some ⟨g,0,none⟩) 256 c)) (.slice (some ⟨g,0,none⟩) 256 c) (pageOf D.now pg)):=ho.kept (Below.heap_setCell w1 ⟨q,2,none⟩ _ g (by show g≠q;omega));have HC:Hid (Ch w.heap.size (fun k=>k=q) w (w1.setCell ⟨q,2,none⟩ (.slice (some ⟨g,0,none⟩) 256 c))):=(Ch.of (fun k=>k=q) hb).setCell (p:=⟨q,2,none⟩) (.inr rfl) _;clear ho hb;go_wp2;go_end0
 exact ⟨rfl,⟨g,c,World.cell?_setCell_same _ _ _ e2,HO.out⟩,HC.out⟩
end Go.Proofs.YtjllhcifmfhkmaaGreat.Oct
