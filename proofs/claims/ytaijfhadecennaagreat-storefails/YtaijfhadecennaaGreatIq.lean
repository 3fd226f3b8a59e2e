/- Part of a proof. -/
import Derived.Test.YtaijfhadecennaaGreatIn
import Derived.Test.YtaijfhadecennaaGreatQg
open Go.Proofs.Tryz
set_option maxHeartbeats 4000000
namespace Go.Proofs.YtaijfhadecennaaGreat.Oct
open Go.RowKit
attribute [local go_sem ↓] FO boxF_eq
section
variable {w:World} {p d N:Nat} {F:Nat->Prop} {D:Dv} {L:List Fr}
theorem Dirty_any (h:Pool w p d F D N L):Calls prog 179 #[.pointer (some ⟨p,0,none⟩)] w fun x w'=>∃a c,x=.returned (.slice a (pgsP L fitD).length c)/\OwnI w.heap.size w' (.slice a (pgsP L fitD).length c) (pgsP L fitD)/\Below w.heap.size w w':=by
 obtain ⟨Fd,m,e,bs,fr,ol,nw,h,rfl⟩:=h;have hp:=pages_dir h;clear h;go_enter func179,ntmps179
 go_wp2_with fail
 refine hp.mono ?_;rintro x w1 ⟨a,c,rfl,ho,hb⟩;have HO:Hid _:=ho;clear ho hp;go_wp2;go_ret
 exact ⟨a,c,rfl,HO.out,hb⟩
theorem pgsP_len (L:List Fr) (fit:Fr->Bool):(pgsP L fit).length=(L.filter fit).length:=by unfold pgsP;rw [ZU,qU]
end
set_option maxRecDepth 20000 in
theorem pNew_yes {w:World} {d:Nat} {Fd:Nat->Prop} {D:Dv} (h:Dev w d Fd D) (N:Nat) (h8:8<=N) (h4:N<=4096):
  Calls prog 46 #[.pointer (some ⟨d,0,none⟩),.int .i64 N] w fun x w'=>∃p F,x=.returned (.tuple #[.pointer (some ⟨p,0,none⟩),.int .i64 0])/\Pool w' p d F D N []/\Below w.heap.size w w'/\(∀k,F k->Fd k\/w.heap.size<=k)/\∀k,Fd k->F k:=by
 have rB:=build_f0 w;have rX:=box_f w zeF;have hmm:= @run_makeMap prog
 have hzs:zeF.size=261:=by
  unfold zeF frV;rw [xT,qN,jN,qU,fr0_ok.1];rfl
 obtain ⟨v1,e1⟩:∃v,zeF[259]?=some v:=⟨_,xD (by omega)⟩;obtain ⟨v2,e2⟩:∃v,zeF[260]?=some v:=⟨_,xD (by omega)⟩
 have hnode:Node (w.alloc (.cells ((zeF.setIfInBounds 259 (.pointer (some ⟨w.heap.size,0,none⟩))).setIfInBounds 260 (.pointer (some ⟨w.heap.size,0,none⟩))) 118)) w.heap.size fr0 w.heap.size w.heap.size:=by
  unfold Node;rw [heap_alloc_new];have:=frV_set fr0_ok (.pointer none) (.pointer none) (.pointer (some ⟨w.heap.size,0,none⟩)) (.pointer (some ⟨w.heap.size,0,none⟩));rw [frV_frC] at this;rw [<-this];unfold zeF;simp
 have hb1:Below w.heap.size w (w.alloc (.cells ((zeF.setIfInBounds 259 (.pointer (some ⟨w.heap.size,0,none⟩))).setIfInBounds 260 (.pointer (some ⟨w.heap.size,0,none⟩))) 118)):=(Below.refl _ w).alloc (jB _) _;have hsz:(w.alloc (.cells ((zeF.setIfInBounds 259 (.pointer (some ⟨w.heap.size,0,none⟩))).setIfInBounds 260 (.pointer (some ⟨w.heap.size,0,none⟩))) 118)).heap.size=w.heap.size+1:=by simp
 have hend:∀w1,Node w1 w.heap.size fr0 w.heap.size w.heap.size->Below w.heap.size w w1->w1.heap.size=w.heap.size+1->Pool ((w1.alloc (.map #[] 0)).alloc (.cells #[.pointer (some ⟨d,0,none⟩),.int .i64 N,.map (some w1.heap.size),.pointer (some ⟨w.heap.size,0,none⟩)] 121)) (w1.heap.size+1) d (fun k=>Fd k\/w.heap.size<=k/\k<w.heap.size+3) D N []/\Below w.heap.size w ((w1.alloc (.map #[] 0)).alloc (.cells #[.pointer (some ⟨d,0,none⟩),.int .i64 N,.map (some w1.heap.size),.pointer (some ⟨w.heap.size,0,none⟩)] 121)):=fun w1 hn hb hs=>by
  have hb2:Below w.heap.size w ((w1.alloc (.map #[] 0)).alloc (.cells #[.pointer (some ⟨d,0,none⟩),.int .i64 N,.map (some w1.heap.size),.pointer (some ⟨w.heap.size,0,none⟩)] 121)):=(hb.alloc (by omega) _).alloc (by simp;omega) _;have hF:=h.2.1;refine ⟨⟨Fd,w1.heap.size,w.heap.size,[],fun _=>fr0,fun _=>w.heap.size,fun _=>w.heap.size,⟨h.below hb2,⟨?_,?_,?_,?_,fun _ _=>fr0_ok,by simp,?_,h8,h4,by simp,h.1.n4⟩,fun k hk=>⟨.inl hk,fun e1=>?_⟩,fun k hk=>?_,fun k hk=>?_⟩,rfl⟩,hb2⟩
  ·have:=heap_alloc_new (w1.alloc (.map #[] 0)) (.cells #[.pointer (some ⟨d,0,none⟩),.int .i64 N,.map (some w1.heap.size),.pointer (some ⟨w.heap.size,0,none⟩)] 121)
   simpa using this
  ·exact (held_new w1).keep (Below.heap_alloc _ _ _ (by simp))
  ·intro g hg;simp at hg;subst hg;exact (hn.keep (Below.heap_alloc w1 _ _ (by omega))).keep (Below.heap_alloc _ _ _ (by simp;omega))
  ·intro i hi;simp at hi;subst hi;exact ⟨rfl,rfl⟩
  ·simp;omega
  ·have:=hF k hk;rcases e1 with e1|e1|e1
   ·omega
   ·omega
   ·simp at e1;omega
  ·rcases hk with e1|e1|e1
   ·exact .inr ⟨by omega,by omega⟩
   ·exact .inr ⟨by omega,by omega⟩
   ·simp at e1;exact .inr ⟨by omega,by omega⟩
  ·rcases hk with e1|e1
   ·have:=hF k e1;simp;omega
   ·simp;omega
 obtain ⟨Z,hZ⟩:∃Z,zeF=Z:=⟨_,rfl⟩;have HF:=hend _ hnode hb1 hsz;rw [hZ] at rB rX e1 e2 hzs HF
 have HX:Hid (Pool (((w.alloc (.cells ((Z.setIfInBounds 259 (.pointer (some ⟨w.heap.size,0,none⟩))).setIfInBounds 260 (.pointer (some ⟨w.heap.size,0,none⟩))) 118)).alloc (.map #[] 0)).alloc (.cells #[.pointer (some ⟨d,0,none⟩),.int .i64 N,.map (some (w.heap.size+1)),.pointer (some ⟨w.heap.size,0,none⟩)] 121)) (w.heap.size+1+1) d (fun k=>Fd k\/w.heap.size<=k/\k<w.heap.size+3) D N []/\Below w.heap.size w (((w.alloc (.cells ((Z.setIfInBounds 259 (.pointer (some ⟨w.heap.size,0,none⟩))).setIfInBounds 260 (.pointer (some ⟨w.heap.size,0,none⟩))) 118)).alloc (.map #[] 0)).alloc (.cells #[.pointer (some ⟨d,0,none⟩),.int .i64 N,.map (some (w.heap.size+1)),.pointer (some ⟨w.heap.size,0,none⟩)] 121))):=by
  have e3:(w.alloc (.cells ((Z.setIfInBounds 259 (.pointer (some ⟨w.heap.size,0,none⟩))).setIfInBounds 260 (.pointer (some ⟨w.heap.size,0,none⟩))) 118)).heap.size=w.heap.size+1:=by simp
  rw [e3] at HF;exact HF
 clear hend hnode hb1 hsz h hZ HF;go_enter func46,ntmps46
 go_wp2;go_ret2
 exact ⟨_,_,rfl,HX.out.1,HX.out.2,fun k hk=>by rcases hk with hk|hk;exact .inl hk;exact .inr hk.1,fun k hk=>.inl hk⟩
end Go.Proofs.YtaijfhadecennaaGreat.Oct
namespace Go.Proofs.YtaijfhadecennaaGreat.Oct
open Go.RowKit
def flS:List Int->Dv->List Fr->Int × Dv × List Fr
 |[],D,L=>(0,D,L)
 |x::r,D,L=>if saysD D=0 then flS r (writeD D (L.getD (fiP L x) fr0).page (L.getD (fiP L x) fr0).b) (L.set (fiP L x) {L.getD (fiP L x) fr0 with dirty:=false}) else (saysD D,writeD D (L.getD (fiP L x) fr0).page (L.getD (fiP L x) fr0).b,L)
section
variable {w:World} {p d m e N:Nat} {Fd F:Nat->Prop} {D:Dv} {bs:List Nat} {fr:Nat->Fr} {ol nw:Nat->Nat}
def FlI (p d m e N:Nat) (F:Nat->Prop) (R:Int × Dv × List Fr) (C:Nat) (w:World) (B:Nat) (zs:List Int) (wr:World):Prop:=
 ∃(Fd' F':Nat->Prop) (D':Dv) (bs':List Nat) (fr':Nat->Fr) (ol' nw':Nat->Nat),PD wr p d m e N Fd' F' D' bs' fr' ol' nw'/\(∀k,F' k->F k\/B<=k)/\Ch w.heap.size F w wr/\B<=wr.heap.size/\R=flS zs D' (bs'.map fr')/\D'.ops+zs.length<=C/\D'.since.length+zs.length<=1000000/\(∀x∈zs,fiP (bs'.map fr') x<bs'.length/\(Lit.int .i64 x).wf=true)
theorem fiP_set {L:List Fr} {i:Nat} {f:Fr} (hi:i<L.length) (hf:f.page=(L.getD i fr0).page) (x:Int):fiP (L.set i f) x=fiP L x:=by
 unfold fiP
 induction L generalizing i with
 |nil=>simp at hi
 |cons a r ih=>
  cases i with
  |zero=>simp only [List.getD_cons_zero] at hf;simp [List.findIdx_cons,hf]
  |succ i=>
   simp only [List.getD_cons_succ] at hf;simp only [jI,List.findIdx_cons];rw [ih (by simpa using hi) hf]
theorem fl_step {R:Int × Dv × List Fr} {C B:Nat} {x:Int} {zs:List Int} {wr:World} (hC:C<=1000005000) (hB:w.heap.size<=B) (h:FlI p d m e N F R C w B (x::zs) wr):
  wr.cell? ⟨p,2,none⟩=some (.map (some m))/\∃g,(∀W:World,W.heap[m]?=wr.heap[m]?->(Instr.lookup 119 (.map (some m)) (.int .i64 x) false).run prog W=.ok (.pointer (some ⟨g,0,none⟩)) W)/\
   ∀W,Mem wr W->Calls prog 169 #[.pointer (some ⟨p,0,none⟩),.pointer (some ⟨g,0,none⟩)] W fun x2 w2=>(x2=.returned (.tuple #[])/\FlI p d m e N F R C w B zs w2/\Ch B F wr w2)\/(∃k,¬k=0/\x2=thrown k/\Ev1R p d N F R w k w2):=by
 obtain ⟨Fd',F',D',bs',fr',ol',nw',h1,h2,h3,h4,h5,h6,h7,h8⟩:=h;obtain ⟨hx1,hx2⟩:=h8 x (by simp);have hgm:bs'.getD (fiP (bs'.map fr') x) e∈bs':=zS hx1;have hLg:=uQ (bs:=bs') (fr:=fr') (e:=e) hx1;have hLL:(bs'.map fr').length=bs'.length:=by simp
 simp only [qN] at h6 h7;refine ⟨h1.pool.at.2.2.1,bs'.getD (fiP (bs'.map fr') x) e,fun W hW=>?_,fun W hW=>?_⟩
 ·have hl:=(h1.pool.held.keep hW).look x hx2;rw [QV (bs:=bs') (fr:=fr') x e,if_pos hx1] at hl;exact hl
 ·refine (FJ (h1.mem hW) (by omega) (by omega) _ hgm).mono ?_;rintro x2 w2 ⟨hx,Fd2,F2,p2,s2⟩;have hwo:=ZD D' (fr' (bs'.getD (fiP (bs'.map fr') x) e)).page (fr' (bs'.getD (fiP (bs'.map fr') x) e)).b;have hsz:W.heap.size=wr.heap.size:=by rw [hW.1]
  have s3:Step F' F2 wr w2:=⟨(hW.ch _ _).trans (s2.1.mono (by omega) (fun _ _ e=>e)),fun k hk=>by rcases s2.2 k hk with e1|e1;exact .inl e1;exact .inr (by omega)⟩
  have c2:Ch w.heap.size F w w2:=h3.trans (s3.1.mono (by omega) (fun k hk e1=>by
   rcases h2 k e1 with e2|e2
   ·exact e2
   ·omega))
  have hF2:∀k,F2 k->F k\/B<=k:=fun k hk=>by
   rcases s3.2 k hk with e1|e1
   ·exact h2 k e1
   ·exact .inr (by omega)
  rcases zL D' with s0|s0
  ·left;rw [s0] at hx p2;have hup:=map_up (fr:=fr') (e:=e) h1.pool.apart.2.2.2.2.2 hx1 {fr' (bs'.getD (fiP (bs'.map fr') x) e) with dirty:=false};refine ⟨?_,⟨Fd2,F2,writeD D' (fr' (bs'.getD (fiP (bs'.map fr') x) e)).page (fr' (bs'.getD (fiP (bs'.map fr') x) e)).b,bs',_,ol',nw',p2,hF2,c2,by have:=s3.1.size;omega,?_,by omega,by omega,fun y hy=>?_⟩,s3.1.mono (by omega) (fun k hk e1=>?_)⟩
   ·rcases hx with e1|e1
    ·exact e1.2
    ·exact absurd rfl e1.1
   ·rw [h5];show (if saysD D'=0 then _ else _)=_;rw [if_pos s0,hLg];unfold clF;rw [if_pos rfl,hup]
   ·unfold clF;rw [if_pos rfl,hup,fiP_set (by rw [hLL];exact hx1) (by rw [hLg])];exact h8 y (jM _ hy)
   ·rcases h2 k e1 with e2|e2
    ·exact e2
    ·omega
  ·right;rw [s0] at hx p2;refine ⟨7,by decide,?_,?_,⟨F2,⟨Fd2,m,e,bs',fr',ol',nw',?_,?_⟩,fun k hk=>?_⟩,c2⟩
   ·rcases hx with e1|e1
    ·exact absurd e1.1 (by decide)
    ·exact e1.2
   ·rw [h5];show _=(if saysD D'=0 then _ else _:Int × Dv × List Fr).1;rw [if_neg (by rw [s0];decide),s0]
   ·rw [h5];show PD w2 p d m e N Fd2 F2 (if saysD D'=0 then _ else _:Int × Dv × List Fr).2.1 bs' fr' ol' nw';rw [if_neg (by rw [s0];decide),hLg];exact p2
   ·rw [h5];show (if saysD D'=0 then _ else _:Int × Dv × List Fr).2.2=_;rw [if_neg (by rw [s0];decide)]
   ·rcases hF2 k hk with e1|e1
    ·exact .inl e1
    ·exact .inr (by omega)
theorem fl_done {R:Int × Dv × List Fr} {C B:Nat} {wr:World} (hB:w.heap.size<=B) (h:FlI p d m e N F R C w B [] wr):Ev1R p d N F R w 0 wr:=by
 obtain ⟨Fd',F',D',bs',fr',ol',nw',h1,h2,h3,h4,h5,_⟩:=h;refine ⟨by rw [h5];rfl,⟨F',⟨Fd',m,e,bs',fr',ol',nw',by rw [h5];exact h1,by rw [h5];rfl⟩,fun k hk=>?_⟩,h3⟩;rcases h2 k hk with e1|e1
 ·exact .inl e1
 ·exact .inr (by omega)
theorem pgsP_mem {fit:Fr->Bool} {x:Int} (hx:x∈pgsP (bs.map fr) fit):∃g∈bs,((fr g).page:Int)=x:=by
 unfold pgsP at hx;rw [(VJ _).mem_iff] at hx;obtain ⟨f,hf,e1⟩:=List.mem_map.1 hx;obtain ⟨g,hg,rfl⟩:=List.mem_map.1 (List.mem_filter.1 hf).1;exact ⟨g,hg,e1⟩
theorem drop_cons {zs:List Int} {k:Nat} (hk:k<zs.length):zs.drop k=zs.getD k 0::zs.drop (k+1):=by
 rw [xY hk,jA,jC hk,qJ]
set_option maxRecDepth 20000 in
theorem fl1_any (h:PD w p d m e N Fd F D bs fr ol nw) (hops:D.ops<=1000000000) (hs:D.since.length<=900000) (rp:Nat)
  (hp:CellAt w rp (.pointer (some ⟨p,0,none⟩)) 73) (hpF:¬F rp):
  Calls prog 178 #[.pointer (some ⟨rp,0,none⟩)] w fun x w'=>∃k,CEnd k x/\Ev1R p d N F (flS (pgsP (bs.map fr) fitD) D (bs.map fr)) w k w':=by
 obtain ⟨R,hR⟩:∃R,flS (pgsP (bs.map fr) fitD) D (bs.map fr)=R:=⟨_,rfl⟩;rw [hR];have hF:=h.flt;obtain ⟨p1,_⟩:=hp.at;have hdi:=Dirty_any (⟨Fd,m,e,bs,fr,ol,nw,h,rfl⟩:Pool w p d F D N (bs.map fr))
 have hlen:(pgsP (bs.map fr) fitD).length<=4096:=by
  rw [pgsP_len];have:=List.length_filter_le fitD (bs.map fr);have:=h.pool.len;have:=h.pool.n4;simp at*;omega
 have hwf:∀x∈pgsP (bs.map fr) fitD,fiP (bs.map fr) x<bs.length/\(Lit.int .i64 x).wf=true:=fun x hx=>by
  obtain ⟨g,hg,e1⟩:=pgsP_mem hx;have hfm:=QP (ps:=psOf bs fr) h.pool.held.1 (List.mem_map.2 ⟨g,hg,rfl⟩:((fr g).page,g)∈psOf bs fr);rw [QV (bs:=bs) (fr:=fr) _ e] at hfm;simp only [e1] at hfm;refine ⟨?_,?_⟩
  ·by_cases h1:fiP (bs.map fr) x<bs.length
   ·exact h1
   ·rw [if_neg h1] at hfm;cases hfm
  ·rw [<-e1];exact wfN (by have:=h.pool.pg g hg;have:=h.pool.np4;omega)
 have hI:∀w1,Below w.heap.size w w1->FlI p d m e N F R 1000005000 w w1.heap.size (pgsP (bs.map fr) fitD) w1:=fun w1 hb=>⟨Fd,F,D,bs,fr,ol,nw,h.below hb,fun k hk=>.inl hk,Ch.of F hb,jB _,hR.symm,by omega,by omega,hwf⟩
 have hstep:=fun (B:Nat) (x:Int) (zs:List Int) (wr:World) hB hE=>fl_step (p:=p) (d:=d) (m:=m) (e:=e) (N:=N) (F:=F) (R:=R) (C:=1000005000) (B:=B) (w:=w) (x:=x) (zs:=zs) (wr:=wr) (jB _) hB hE
 have hcell:∀wr,Ch w.heap.size F w wr->wr.cell? ⟨rp,0,none⟩=some (.pointer (some ⟨p,0,none⟩)):=fun wr hc=>(hp.keep (hc.block rp hp.lt hpF)).at.1
 have HI:Hid (∀w1,Below w.heap.size w w1->FlI p d m e N F R 1000005000 w w1.heap.size (pgsP (bs.map fr) fitD) w1):=hI
 have HS:Hid (∀(B:Nat) (x:Int) (zs:List Int) (wr:World),w.heap.size<=B->FlI p d m e N F R 1000005000 w B (x::zs) wr->wr.cell? ⟨p,2,none⟩=some (.map (some m))/\∃g,(∀W:World,W.heap[m]?=wr.heap[m]?->(Instr.lookup 119 (.map (some m)) (.int .i64 x) false).run prog W=.ok (.pointer (some ⟨g,0,none⟩)) W)/\
   ∀W,Mem wr W->Calls prog 169 #[.pointer (some ⟨p,0,none⟩),.pointer (some ⟨g,0,none⟩)] W fun x2 w2=>(x2=.returned (.tuple #[])/\FlI p d m e N F R 1000005000 w B zs w2/\Ch B F wr w2)\/(∃k,¬k=0/\x2=thrown k/\Ev1R p d N F R w k w2)):=hstep
 have HC:Hid (∀wr,Ch w.heap.size F w wr->wr.cell? ⟨rp,0,none⟩=some (.pointer (some ⟨p,0,none⟩))):=hcell;have HFl:Hid (∀k,F k->k<w.heap.size):=hF;obtain ⟨zs,hzs⟩:∃zs,pgsP (bs.map fr) fitD=zs:=⟨_,rfl⟩;rw [hzs] at hdi hlen HI;clear h hp hI hstep hcell hR hops hs hF hzs hwf;go_enter func178,ntmps178
 go_wp2_with fail
 refine hdi.mono ?_;clear hdi;rintro x w1 ⟨a,c,rfl,ho,hb1⟩;have HI1:Hid (FlI p d m e N F R 1000005000 w w1.heap.size zs w1):=HI.out w1 hb1;have HO:Hid (OwnI w.heap.size w1 (.slice a zs.length c) zs):=ho;have hsz1:=hb1.size;clear ho HI hb1;go_wp2_with fail
 go_loopw [6] (fun i wr=>∃k:Nat,k<=zs.length/\i=.int .i64 k/\Hid (FlI p d m e N F R 1000005000 w w1.heap.size (zs.drop k) wr)/\Hid (Ch w1.heap.size F w1 wr)) (fun i _=>zs.length-(intOf i).toNat)
 case atStart=>exact ⟨0,by omega,rfl,HI1.out,Ch.refl _ _ _⟩
 case round=>
  obtain ⟨k,hk,rfl,HK,HCh⟩:=hrel;by_cases hlt:k<zs.length
  ·rw [drop_cons hlt] at HK;obtain ⟨q2,g,hlook,hcl⟩:=HS.out _ _ _ _ hsz1 HK.out;have hch:Ch w.heap.size F w wr:=by obtain ⟨_,_,_,_,_,_,_,_,_,h3,_⟩:=HK.out;exact h3
   have q1:=HC.out wr hch
   have hown:OwnI w.heap.size wr (.slice a zs.length c) zs:=yQ HO.out (fun gg hgg=>by
    have:=World.ownsRow.lt HO.out gg hgg;exact HCh.out.block gg this.2 (fun e1=>by have:=HFl.out gg e1;omega))
   obtain ⟨a',c',hv,hrow⟩:=hown.row;simp only [Value.slice.injEq] at hv;obtain ⟨rfl,-,rfl⟩:=hv;obtain ⟨b0,o0,rfl,hx0⟩:=hrow.at' k hlt;obtain ⟨x,hx⟩:∃x,zs.getD k 0=x:=⟨_,rfl⟩;rw [hx] at hlook hx0;have l0:=hlook wr rfl;have l1:=hlook wr.drew rfl;have hcd:=hcl wr.drew (Mem.drew wr);have HCD:Hid (∀w2,Ch w1.heap.size F wr w2->Ch w1.heap.size F w1 w2):=fun w2 h2=>HCh.out.trans h2
   clear hlook hcl hch hown hrow hx HK HCh HI1;go_wp2_with fail
   go_still_tail 7,(by kernel_rfl)
   go_wp2_with fail
   refine hcd.mono ?_;clear hcd;rintro x2 w2 hx2;rcases hx2 with ⟨rfl,hE,hC2⟩|⟨kk,hkk,rfl,hE⟩
   ·have HE:Hid (FlI p d m e N F R 1000005000 w w1.heap.size (zs.drop (k+1)) w2):=hE;have HE2:Hid (Ch w1.heap.size F w1 w2):=HCD.out w2 hC2;clear hE hC2 HCD l0 l1;go_wp2;go_roundw
    case rel=>exact ⟨k+1,by omega,by go_num,HE.out,HE2.out⟩
    case measure=>simp [intOf];omega
   ·have HE:Hid (Ev1R p d N F R w kk w2):=hE;have HK:Hid (¬kk=0):=hkk;clear hE hkk HS HC HCD l0 l1;unfold thrown;go_wp2;exact ⟨rfl,kk,.inr ⟨HK.out,rfl⟩,HE.out⟩
  ·rw [List.drop_eq_nil_of_le (by omega)] at HK;have HE:Hid (Ev1R p d N F R w 0 wr):=fl_done hsz1 HK.out;have hke:k=zs.length:=by omega
   subst hke;clear HS HC HK HI1;go_wp2;go_end0
   exact ⟨0,.inl ⟨rfl,rfl⟩,HE.out⟩
end
section
variable {w:World} {p d N:Nat} {F:Nat->Prop} {D:Dv} {L:List Fr}
theorem Flush_any (h:Pool w p d F D N L) (hops:D.ops<=1000000000) (hs:D.since.length<=900000):
  Calls prog 133 #[.pointer (some ⟨p,0,none⟩)] w fun x w'=>x=.returned (.int .i64 (flS (pgsP L fitD) D L).1)/\∃F',Pool w' p d F' (flS (pgsP L fitD) D L).2.1 N (flS (pgsP L fitD) D L).2.2/\Step F F' w w':=by
 obtain ⟨Fd,m,e,bs,fr,ol,nw,h,rfl⟩:=h;have hmf:∀(fn:Fn) (first cap:Array Value) (w:World),(Instr.makeFunc fn first cap).run prog w=.ok (.func fn first cap) w:=fun _ _ _ _=>rfl
 have hF:=h.flt;obtain ⟨R,hR⟩:∃R,flS (pgsP (bs.map fr) fitD) D (bs.map fr)=R:=⟨_,rfl⟩;have hb0:Below w.heap.size w (w.alloc (.cells #[.pointer (some ⟨p,0,none⟩)] 73)):=(Below.refl _ w).alloc (jB _) _;have h0:=h.below hb0;have k1:CellAt (w.alloc (.cells #[.pointer (some ⟨p,0,none⟩)] 73)) w.heap.size (.pointer (some ⟨p,0,none⟩)) 73:=QW _ _ _;have hm:=zV h0;have hsz:(w.alloc (.cells #[.pointer (some ⟨p,0,none⟩)] 73)).heap.size=w.heap.size+1:=by simp
 obtain ⟨W,hW⟩:∃W,w.alloc (.cells #[.pointer (some ⟨p,0,none⟩)] 73)=W:=⟨_,rfl⟩;rw [hW] at hb0 h0 k1 hm hsz;have hbe:Below W.heap.size W (W.alloc (.cells #[.int .i64 0] 25)):=(Below.refl _ W).alloc (jB _) _;have hev:=fl1_any (h0.below hbe) hops hs w.heap.size (k1.alloc _) (fun e1=>by have:=hF _ e1;omega);rw [hR] at hev ⊢
 have hca:=GP W #[.pointer (some ⟨w.heap.size,0,none⟩)] (Ev1R p d N F R (W.alloc (.cells #[.int .i64 0] 25))) (hev.mono (by
  rintro x w1 ⟨k,hx,hr⟩;refine ⟨k,hx,hr,(hr.2.2.block W.heap.size (by simp) (fun e1=>?_)).trans (GK W)⟩;have:=hF _ e1;omega))
 have hfin:Calls prog 105 #[.func (.func 178) #[] #[.pointer (some ⟨w.heap.size,0,none⟩)]] W fun x w'=>x=.returned (.int .i64 R.1)/\
   Hid (∃F',Pool w' p d F' R.2.1 N R.2.2/\Step F F' w w'):=hca.mono (by
  rintro x w' ⟨k,w1,rfl,hr,he,rfl⟩;obtain ⟨r1,⟨F',r2,r3⟩,r4⟩:=hr;have hs1:W.heap.size+1<=w1.heap.size:=by have:=r4.size;simpa using this
  refine ⟨by rw [r1],F',r2.keep (by rw [yP];exact jB _) (fun j hj=>Below.heap_setCell w1 ⟨W.heap.size,0,none⟩ _ j (fun e1=>?_)),?_,fun j hj=>?_⟩
  ·have e1':j=W.heap.size:=e1;rcases r3 j hj with e2|e2
   ·have:=hF _ e2;omega
   ·simp at e2;omega
  ·have c1:Ch w.heap.size F w w1:=(Ch.of F hb0).trans (((Ch.of F hbe).mono (by omega) (fun _ _ e=>e)).trans (r4.mono (by simp;omega) (fun j hj e1=>e1)));exact c1.setCell (p:=⟨W.heap.size,0,none⟩) (.inl (by show w.heap.size<=W.heap.size;omega)) _
  ·rcases r3 j hj with e3|e3
   ·exact .inl e3
   ·exact .inr (by simp at e3;omega))
 clear hca hev h0 h k1 hF hbe hb0 hsz hR;rw [<-hW] at hm hfin;clear hW;go_enter func133,ntmps133
 go_wp2_with (first|(go_at_call 103;refine hm.mono ?_;rintro x w' ⟨rfl,rfl⟩))
 refine hfin.mono ?_;clear hfin hm;rintro x w2 ⟨rfl,HR⟩;go_wp2;go_ret
 exact ⟨rfl,HR.out⟩
end
end Go.Proofs.YtaijfhadecennaaGreat.Oct
namespace Go.Proofs.YtaijfhadecennaaGreat.Oct
open Go.RowKit
theorem bit15' (s:Nat) (h:s<4):bitAt 15 s=true:=by
 have:s=0\/s=1\/s=2\/s=3:=by omega
 rcases this with rfl|rfl|rfl|rfl<;>rfl
theorem onto_at' (L:List Int) (pg:Nat) (b:List Int) (i:Nat) (hi:i<L.length):(onto L pg b 15).getD i 0=if i/256=pg then b.getD (i%256) 0 else L.getD i 0:=by
 unfold onto;rw [QJ _ _ _ _ _ _ hi];have e:(i%256/64<4)=True:=eq_true (by omega);have e2:(bitAt 15 (i%256/64)=true)=True:=eq_true (bit15' _ (by omega));simp only [e,e2,and_true]
theorem kB (L:List Int) (pg i:Nat) (hi:i<256):(pageOf L pg).getD i 0=L.getD (pg*256+i) 0:=by
 simp [pageOf,hi]
theorem QI {L b:List Int} {pg q:Nat} (hL:pg*256+256<=L.length) (hq:q*256+256<=L.length) (hb:b.length=256):pageOf (onto L pg b 15) q=if q=pg then b else pageOf L q:=by
 have hl:(pageOf (onto L pg b 15) q).length=256:=JY (by rw [XJ];exact hq);refine yZ ?_ fun i hi=>?_
 ·rw [hl];split
  ·exact hb.symm
  ·exact (JY hq).symm
 rw [hl] at hi;rw [kB _ _ _ hi,onto_at' _ _ _ _ (by omega)];by_cases h:q=pg
 ·subst h;rw [if_pos (by omega),if_pos rfl]
  congr 1
  omega
 ·rw [if_neg (by omega),if_neg h,kB _ _ _ hi]
structure Well (D:Dv):Prop where
 dead:D.dead=false
 fuse:D.fuse= -1
 out:D.out=[]
theorem Well.new (L:List Int):Well (newD L):=⟨rfl,rfl,rfl⟩
theorem Well.says {D:Dv} (h:Well D):saysD D=0:=by simp [saysD,h.dead,h.fuse,oc,h.out]
theorem Well.tells {D:Dv} (h:Well D):tellsD D=true:=by simp [tellsD,h.dead,h.fuse,oc,h.out]
theorem Well.writeE {D:Dv} (h:Well D) (pg:Nat) (b:List Int):writeD D pg b=wrD (opD D) pg b:=by simp [writeD,h.dead,h.fuse,oc,h.out]
theorem Well.readE {D:Dv} (h:Well D):readD D=opD D:=by simp [readD,h.dead,h.fuse]
theorem Well.op {D:Dv} (h:Well D):Well (opD D):=⟨h.dead,by simp [opD,h.fuse],by simp [opD,h.out]⟩
theorem Well.write {D:Dv} (h:Well D) (pg:Nat) (b:List Int):Well (writeD D pg b):=by rw [h.writeE];exact ⟨h.op.dead,h.op.fuse,h.op.out⟩
theorem Well.read {D:Dv} (h:Well D):Well (readD D):=by rw [h.readE];exact h.op
theorem Well.writeNow {D:Dv} (h:Well D) (pg:Nat) (b:List Int):(writeD D pg b).now=onto D.now pg b 15:=by rw [h.writeE];rfl
end Go.Proofs.YtaijfhadecennaaGreat.Oct
namespace Go.Proofs.YtaijfhadecennaaGreat.Oct
open Go.RowKit
theorem kZ {L:List Fr} {x:Int} (h:∃f∈L,(f.page:Int)=x):fiP L x<L.length/\((L.getD (fiP L x) fr0).page:Int)=x:=by
 obtain ⟨f,hf,hx⟩:=h;have h1:fiP L x<L.length:=List.findIdx_lt_length.2 ⟨f,hf,by simpa using hx⟩;refine ⟨h1,?_⟩;have:=List.findIdx_getElem (w:=h1);simp only [jR] at this;rw [jA,jC h1,qJ];exact this
theorem zW {L:List Fr} {i:Nat} (hi:i<L.length):L.getD i fr0∈L:=by
 rw [jA,jC hi,qJ];exact qB hi
theorem FU {D:Dv} {N:Nat} {L:List Fr} {pg:Nat} {rd:Bool} (h:fiP L pg<L.length):usE D N L pg rd=0/\usD D N L pg rd=D/\usL D N L pg rd=L.eraseIdx (fiP L pg)++[L.getD (fiP L pg) fr0]:=by
 refine ⟨?_,?_,?_⟩
 ·unfold usE;rw [if_pos h]
 ·unfold usD;rw [if_pos h]
 ·unfold usL;rw [if_pos h]
theorem pt_yes {D:Dv} {N:Nat} {L:List Fr} {pg:Nat} (h:fiP L pg<L.length) (b:List Int):ptF D N L pg b=L.eraseIdx (fiP L pg)++[{L.getD (fiP L pg) fr0 with b:=b,dirty:=true}]:=by
 obtain ⟨e1,_,e3⟩:=FU (D:=D) (N:=N) (rd:=false) h;unfold ptF;rw [if_pos e1,e3,QK]
end Go.Proofs.YtaijfhadecennaaGreat.Oct
