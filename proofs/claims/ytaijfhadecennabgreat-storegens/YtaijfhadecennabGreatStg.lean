/- Part of a proof. -/
import Derived.Test.YtaijfhadecennabGreatIv
import Derived.Test.YtaijfhadecennabGreatGn
import Derived.Test.YtaijfhadecennabGreatGi
import Derived.Test.YtaijfhadecennabGreatGe
import Derived.ArgAppend
import Derived.Maps.AppendAt
import Derived.Test.YtaijfhadecennabGreatUk
namespace Go.Proofs.YtaijfhadecennabGreat.Oct
open Go.RowKit
theorem FI.set {D:Dv} {N:Nat} {L:List Fr} (h:FI D N L) {i:Nat} (hi:i<L.length) (ha:pageOf D.now (L.getD i fr0).page=(L.getD i fr0).b):
  FI D N (L.set i {L.getD i fr0 with dirty:=false})/\(∀k b,Tl D L k b->Tl D (L.set i {L.getD i fr0 with dirty:=false}) k b)/\
  (∀g∈L.set i {L.getD i fr0 with dirty:=false},g.dirty=true->g∈L/\g.page≠(L.getD i fr0).page):=by
 have hfm:=zN hi;obtain ⟨f,hf⟩:∃f,L.getD i fr0=f:=⟨_,rfl⟩;rw [hf] at hfm ha ⊢;obtain ⟨p1,p2⟩:=h.pg f hfm;have hfi:L[i]=f:=by rw [<-hf,jA,jC hi,qG]
 have hmem:∀g∈L.set i {f with dirty:=false},g∈L\/g={f with dirty:=false}:=fun g hg=>List.mem_or_eq_of_mem_set hg
 have hmap:(L.set i {f with dirty:=false}).map (·.page)=L.map (·.page):=by
  apply List.ext_getElem?;intro j;rw [qN,qN,xX];by_cases hj:i=j
  ·subst hj;rw [if_pos rfl,if_pos hi,jC hi,hfi];rfl
  ·rw [if_neg hj]
 have hstay:∀g∈L,g.page≠f.page->g∈L.set i {f with dirty:=false}:=fun g hg hne=>by
  obtain ⟨j,hj,e⟩:=xR hg
  have hji:i≠j:=fun e2=>by
   subst e2;exact hne (by rw [<-e,hfi])
  have:(L.set i {f with dirty:=false})[j]'(by simpa using hj)=g:=by rw [List.getElem_set_ne hji];exact e
  rw [<-this];exact qA _
 have hnd:((L.set i {f with dirty:=false}).map (·.page)).Nodup:=by rw [hmap];exact h.nd
 have hnew:({f with dirty:=false}:Fr)∈L.set i {f with dirty:=false}:=List.mem_set hi _;refine ⟨⟨h.ok,by simpa using h.len,fun g hg=>?_,fun g hg=>?_,hnd,fun g hg hd=>?_⟩,fun k b ht=>⟨fun g hg e=>?_,fun hc=>?_⟩,fun g hg hd=>?_⟩
 ·rcases hmem g hg with h1|h1
  ·exact h.pins g h1
  ·rw [h1];exact h.pins f hfm
 ·rcases hmem g hg with h1|h1
  ·exact h.pg g h1
  ·rw [h1];exact ⟨p1,p2⟩
 ·rcases hmem g hg with h1|h1
  ·exact h.agree g h1 hd
  ·rw [h1];exact ha
 ·rcases hmem g hg with h1|h1
  ·exact ht.1 g h1 e
  ·rw [h1] at e ⊢;exact ht.1 f hfm e
 ·by_cases hk:f.page=k
  ·rw [<-ht.1 f hfm hk,<-hk];exact ha
  ·exact ht.2 (fun g hg e=>hc g (hstay g hg (fun e2=>hk (e2.symm.trans e))) e)
 ·rcases hmem g hg with h1|h1
  ·refine ⟨h1,fun e=>?_⟩;have:=UZ hnd hg hnew e;rw [this] at hd;cases hd
  ·rw [h1] at hd;cases hd
theorem FI.flush1 {N:Nat} {Q:Nat->Prop}:∀(zs:List Int) {D:Dv} {L:List Fr},FI D N L->(∀z∈zs,fiP L z<L.length/\(L.getD (fiP L z) fr0).dirty=true)->zs.Nodup->(∀k,DP L k->Q k)->
  FI (flS zs D L).2.1 N (flS zs D L).2.2/\(∀k b,k<D.n->Tl D L k b->Tl (flS zs D L).2.1 (flS zs D L).2.2 k b)/\Acts Q zs.length D (flS zs D L).2.1/\(∀f∈(flS zs D L).2.2,f.dirty=true->f∈L)/\
   ((flS zs D L).1=0/\(∀f∈(flS zs D L).2.2,f.dirty=true->(f.page:Int)∉zs)\/((flS zs D L).1=7/\Bad D (flS zs D L).2.1))
 |[],D,L,h,_,_,_=>⟨h,fun _ _ _ ht=>ht,Acts.refl _ D,fun _ hf _=>hf,.inl ⟨rfl,fun _ _ _=>by simp⟩⟩
 |z::r,D,L,h,hz,hnd,hq=>by
  obtain ⟨hi,hdz⟩:=hz z (by simp);have hfm:=zN hi
  have hpz:((L.getD (fiP L z) fr0).page:Int)=z:=by
   have:=List.findIdx_getElem (w:=hi);simp only [jQ] at this;rw [jA,jC hi,qG];exact this
  obtain ⟨w1,w2,w3⟩:=h.wrote hfm hdz;obtain ⟨p1,p2⟩:=h.pg _ hfm;have hA:Acts Q 1 D (writeD D (L.getD (fiP L z) fr0).page (L.getD (fiP L z) fr0).b):=Acts.write (hq _ ⟨_,hfm,rfl,hdz⟩) p1 p2.1 p2.2;by_cases hs:saysD D=0
  ·have hstep:flS (z::r) D L=flS r (writeD D (L.getD (fiP L z) fr0).page (L.getD (fiP L z) fr0).b) (L.set (fiP L z) {L.getD (fiP L z) fr0 with dirty:=false}):=by
    show (if saysD D=0 then _ else _)=_;rw [if_pos hs]
   rw [hstep];obtain ⟨s1,s2,s3⟩:=w1.set hi (w3 hs);rw [xI] at hnd;have hset:∀y:Int,fiP (L.set (fiP L z) {L.getD (fiP L z) fr0 with dirty:=false}) y=fiP L y:=fun y=>fiP_set (f:={L.getD (fiP L z) fr0 with dirty:=false}) hi rfl y
   have hzr:∀y∈r,fiP (L.set (fiP L z) {L.getD (fiP L z) fr0 with dirty:=false}) y<(L.set (fiP L z) {L.getD (fiP L z) fr0 with dirty:=false}).length/\((L.set (fiP L z) {L.getD (fiP L z) fr0 with dirty:=false}).getD (fiP (L.set (fiP L z) {L.getD (fiP L z) fr0 with dirty:=false}) y) fr0).dirty=true:=fun y hy=>by
    obtain ⟨a,b⟩:=hz y (jL _ hy);rw [hset,qC];refine ⟨a,?_⟩
    have hyz:fiP L z≠fiP L y:=fun e=>by
     have h1:=List.findIdx_getElem (w:=a);simp only [jQ] at h1
     have h2:((L.getD (fiP L y) fr0).page:Int)=y:=by
      rw [jA,jC a,qG];exact h1
     rw [<-e,hpz] at h2;exact hnd.1 (by rw [h2];exact hy)
    rw [jA,xG hyz,<-jA];exact b
   obtain ⟨g1,g2,g3,g4,g5⟩:=FI.flush1 (Q:=Q) r s1 hzr hnd.2 (fun k hk=>by
    obtain ⟨g,hg,e,d⟩:=hk;exact hq k ⟨g,(s3 g hg d).1,e,d⟩)
   refine ⟨g1,fun k b hk ht=>g2 k b (by rw [zH];exact hk) (s2 k b (w2 k b hk ht)),(hA.trans g3).mono (fun _ h=>h) (by simp;omega),fun f hf hd=>(s3 f (g4 f hf hd) hd).1,?_⟩;rcases g5 with ⟨g5,g6⟩|⟨g5,g6⟩
   ·refine .inl ⟨g5,fun f hf hd hm=>?_⟩;rcases List.mem_cons.1 hm with hm|hm
    ·exact (s3 f (g4 f hf hd) hd).2 (by omega)
    ·exact g6 f hf hd hm
   ·exact .inr ⟨g5,(gY D _ _).bad g6⟩
  ·have hstep:flS (z::r) D L=(saysD D,writeD D (L.getD (fiP L z) fr0).page (L.getD (fiP L z) fr0).b,L):=by
    show (if saysD D=0 then _ else _)=_;rw [if_neg hs]
   rw [hstep];exact ⟨w1,w2,hA.mono (fun _ h=>h) (by simp),fun f hf _=>hf,.inr ⟨by rcases zE D with e|e;exact absurd e hs;exact e,uR hs _ _⟩⟩
theorem FI.flush {D:Dv} {N:Nat} {L:List Fr} (h:FI D N L) {R:Int × Dv × List Fr} (hR:flS (pgsP L fitD) D L=R):
  FI R.2.1 N R.2.2/\(∀k b,k<D.n->Tl D L k b->Tl R.2.1 R.2.2 k b)/\Acts (DP L) N D R.2.1/\(∀k,DP R.2.2 k->DP L k)/\(R.1=0/\(∀k,¬DP R.2.2 k)\/(R.1=7/\Bad D R.2.1)):=by
 have hmem:∀z:Int,z∈pgsP L fitD↔∃f∈L,f.dirty=true/\(f.page:Int)=z:=fun z=>by
  unfold pgsP;rw [(UG _).mem_iff,List.mem_map];constructor
  ·rintro ⟨f,hf,e⟩;exact ⟨f,(List.mem_filter.1 hf).1,(List.mem_filter.1 hf).2,e⟩
  ·rintro ⟨f,hf,d,e⟩;exact ⟨f,List.mem_filter.2 ⟨hf,d⟩,e⟩
 have hz:∀z∈pgsP L fitD,fiP L z<L.length/\(L.getD (fiP L z) fr0).dirty=true:=fun z hz=>by
  obtain ⟨f,hf,d,e⟩:=(hmem z).1 hz;obtain ⟨a,b⟩:=VO ⟨f,hf,e⟩;refine ⟨a,?_⟩;rw [UZ h.nd (zN a) hf (by omega)];exact d
 have hnd:(pgsP L fitD).Nodup:=by
  unfold pgsP;rw [(UG _).nodup_iff];have h1:((L.filter fitD).map (·.page)).Nodup:=h.nd.sublist ((List.filter_sublist (p:=fitD)).map _);rw [xQ] at h1 ⊢;rw [List.pairwise_map] at h1 ⊢;exact h1.imp (fun h e=>h (by omega))
 obtain ⟨a,b,c,d,e⟩:=FI.flush1 (Q:=DP L) _ h hz hnd (fun _ h=>h);have hlen:(pgsP L fitD).length<=N:=by rw [gO];have:=List.length_filter_le fitD L;have:=h.len;omega
 rw [hR] at a b c d e;refine ⟨a,b,c.mono (fun _ h=>h) hlen,fun k hk=>?_,?_⟩
 ·obtain ⟨f,hf,e1,e2⟩:=hk;exact ⟨f,d f hf e2,e1,e2⟩
 ·rcases e with ⟨e1,e2⟩|e
  ·refine .inl ⟨e1,fun k hk=>?_⟩;obtain ⟨f,hf,e3,e4⟩:=hk;exact e2 f hf e4 ((hmem _).2 ⟨f,d f hf e4,e4,rfl⟩)
  ·exact .inr e
structure PutI (N:Nat) (D:Dv) (L:List Fr) (pg:List Int) (zs:List (List Int)) (Q:Nat->Prop) (i:Nat) (D':Dv) (L':List Fr):Prop where
 fi:FI D' N L'
 acts:Acts Q i D D'
 dp:∀k,DP L' k->DP L k\/∃j,j<i/\pg.getD j 0=(k:Int)
 old:∀k b,k<D.n->(∀j,j<i->pg.getD j 0≠(k:Int))->Tl D L k b->Tl D' L' k b
 new:∀j,j<i->Tl D' L' (pg.getD j 0).toNat (zs.getD j [])
theorem PutI.zero {N:Nat} {D:Dv} {L:List Fr} (h:FI D N L) (pg:List Int) (zs:List (List Int)) (Q:Nat->Prop):PutI N D L pg zs Q 0 D L:=
 ⟨h,Acts.refl _ D,fun _ h=>.inl h,fun _ _ _ _ h=>h,fun _ h=>absurd h (Nat.not_lt_zero _)⟩
theorem PutI.next {N:Nat} {D:Dv} {L:List Fr} {pg:List Int} {zs:List (List Int)} {Q:Nat->Prop} {i:Nat} {D':Dv} {L':List Fr} (h:PutI N D L pg zs Q i D' L') (hN:0<N) (hn:∀j,j<i->pg.getD j 0≠pg.getD i 0) (h0:0<=pg.getD i 0) (hx:pg.getD i 0<(D.n:Int)) (hpl:∀j,j<i->0<=pg.getD j 0/\pg.getD j 0<(D.n:Int))
  (hQ:∀k,DP L k->Q k) (hQp:∀j,j<=i->Q (pg.getD j 0).toNat) (hb:(zs.getD i []).length=256) (hy:Bys (zs.getD i [])) {E:Int} {D2:Dv} {L2:List Fr} (hE:usE D' N L' (pg.getD i 0).toNat false=E) (hD:usD D' N L' (pg.getD i 0).toNat false=D2) (hL:ptF D' N L' (pg.getD i 0).toNat (zs.getD i [])=L2):
  (E=0/\PutI N D L pg zs Q (i+1) D2 L2)\/(E=7/\Bad D D2/\FI D2 N L2/\Acts Q (i+1) D D2/\(∀k,DP L2 k->DP L k\/∃j,j<i/\pg.getD j 0=(k:Int))/\∀k b,k<D.n->(∀j,j<i->pg.getD j 0≠(k:Int))->Tl D L k b->Tl D2 L2 k b):=by
 have hn':=h.acts.n;obtain ⟨a,b,c,d,e⟩:=h.fi.put hN (x:=(pg.getD i 0).toNat) (by omega) hb hy hE hD hL
 have hc:Acts Q (i+1) D D2:=h.acts.trans (c.mono (fun k hk=>by
  rcases h.dp k hk with h1|⟨j,hj,h1⟩
  ·exact hQ k h1
  ·have:=hQp j (by omega);rw [h1] at this;exact this) (jB _))
 rcases e with ⟨e,ht⟩|⟨e,hbad⟩
 ·refine .inl ⟨e,a,hc,fun k hk=>?_,fun k x hk hj ht=>?_,fun j hj=>?_⟩
  ·rcases d k hk with h1|h1
   ·rcases h.dp k h1 with h2|⟨j,hj,h2⟩
    ·exact .inl h2
    ·exact .inr ⟨j,by omega,h2⟩
   ·exact .inr ⟨i,by omega,by omega⟩
  ·refine b k x (by omega) (.inl fun e1=>?_) (h.old k x hk (fun j hj'=>hj j (by omega)) ht);exact hj i (by omega) (by omega)
  ·by_cases hji:j=i
   ·subst hji;exact ht
   ·have h1:=hn j (by omega);obtain ⟨h2,h3⟩:=hpl j (by omega);exact b _ _ (by omega) (.inl fun e1=>h1 (by omega)) (h.new j (by omega))
 ·refine .inr ⟨e,h.acts.mo.bad hbad,a,hc,fun k hk=>?_,fun k x hk hj ht=>?_⟩
  ·rcases d k hk with h1|h1
   ·exact h.dp k h1
   ·rw [e] at h1;cases h1.2
  ·exact b k x (by omega) (.inr (by rw [e];decide)) (h.old k x hk hj ht)
attribute [local go_sem ↓] GA allocW_eq storeW_eq
theorem kW:∀(l:List (Nat × List Int)),(∀x∈l,x.2.length=256)->∀(k j:Nat),j<257->k<l.length->(scells l)[k*257+j]?=(wcells (l.getD k (0,[])))[j]?
 |[],_,k,_,_,hk=>by simp at hk
 |x::r,h,0,j,hj,_=>by
  have hl:=zL (h x (by simp));show (wcells x++scells r)[0*257+j]?=_;rw [Nat.zero_mul,xE,xC (by omega)];rfl
 |x::r,h,k+1,j,hj,hk=>by
  have hl:=zL (h x (by simp));show (wcells x++scells r)[(k+1)*257+j]?=_;rw [xH (by omega),hl,show (k+1)*257+j-257=k*257+j by omega,kW r (fun y hy=>h y (by simp [hy])) k j hj (by simp at hk;omega)];rfl
theorem gG {w:World} {g n cap:Nat} {l:List (Nat × List Int)} (h:w.ownsRow 0 111 257 (.slice (some ⟨g,0,none⟩) n cap) n (scells l)) (hn:n=l.length) (hl:∀x∈l,x.2.length=256) (k:Nat) (hk:k<n):w.rangeAt g (k*257) (wcells (l.getD k (0,[]))):=by
 intro j v hj;have hm:l.getD k (0,[])∈l:=by rw [jA,jC (by omega)];exact qA _
 have hj2:j<257:=by have:=(List.getElem?_eq_some_iff.1 hj).1;rw [zL (hl _ hm)] at this;exact this
 have hb:(k+1)*257<=n*257:=Nat.mul_le_mul_right _ hk;rw [World.ownsRow.cellAt h (k*257+j) (by omega),kW l hl k j hj2 (by omega)];exact hj
theorem fallK_ok {D:Dv} (h:D.ok) (ch:List Int) (k:Nat):Bys (fallK D.sure D.since ch k):=uL ch h.bsure (fun x hx=>(h.since x hx).2.2) k
set_option maxHeartbeats 2000000 in
theorem crash_any {w:World} {p:Nat} {F:Nat->Prop} {D:Dv} (h:Dev w p F D) (hs:D.since.length<=1000000) (a:Option Addr) (cap:Nat) (ch:List Int) (hr:Row w a cap ch):
  Calls Tryz.prog 22 #[.pointer (some ⟨p,0,none⟩),.slice a ch.length cap] w fun e w'=>∃q F',e=.returned (.pointer (some ⟨q,0,none⟩))/\Dev w' q F' (crashD D ch)/\Below w.heap.size w w'/\∀k,F' k->w.heap.size<=k:=by
 have hm:=made_any h;obtain ⟨ok,hF,gN,gL,cN,cL,vS,vO,f,hc,hfo⟩:=h;obtain ⟨_,c1,c2,_,_,_,_,z⟩:=hc.at;have hlen:=ok.sure;have hn4:=ok.n4;have hn8:=ok.n8;have hcl1:=JO ⟨gL,0,none⟩ cL D.sure w (hc.sure.row' ok.bsure).2 (by omega);have hhold:=fun (ad:Addr) (cp:Nat) (w1:World) (h:Row w1 (some ad) cp (fallK D.sure D.since ch D.since.length))=>vA ad cp _ w1 h D.n (by rw [zX,hlen]) hn8 hn4
 have hsl:∀x∈D.since,x.2.length=256:=fun x hx=>(ok.since x hx).2.1
 have hpgs:∀x∈D.since,x.1<D.n:=fun x hx=>(ok.since x hx).1
 obtain ⟨zw,hzw,rAl⟩:=alloc_w;have hbk:∀k,Bys (fallK D.sure D.since ch k):=fallK_ok ok ch;have hSlt:∀k,vS.ownBlock=some k->k<w.heap.size:=fun k hk=>hF k (hfo k (.inr (.inr (.inr (.inl hk)))))
 have hsince:=hc.since;have hp:p<w.heap.size:=hF p (hfo p (.inl rfl));obtain ⟨N,hN⟩:∃N,D.sure.length=N:=⟨_,rfl⟩;have hN4:N<=1048576:=by omega
 have HSL:Hid (∀x∈D.since,x.2.length=256):=hsl;have HPG:Hid (∀x∈D.since,x.1<D.n):=hpgs;have HBK:Hid (∀k,Bys (fallK D.sure D.since ch k)):=hbk;have HH:Hid _:=hhold;have HLN:Hid (N=D.n*256):=hN▸hlen;have HNS:Hid (D.sure.length=N):=hN;rw [hN] at c1 hcl1;obtain ⟨n,hn⟩:∃n,D.since.length=n:=⟨_,rfl⟩;rw [hn] at hsince hs;have HNN:Hid (D.since.length=n):=hn;have hr0:=hr;obtain ⟨hby,hr2,hr3,hr4⟩:=hr;have HR:Hid (ch=[]\/∃b off,a=some ⟨b,off,none⟩/\∀i,i<ch.length->w.cell? ⟨b,off+i,none⟩=some (.int .u8 (ch.getD i 0))):=hr4;have HBY:Hid (Bys ch):=hby
 obtain ⟨aS,cS,hvS⟩:∃aS cS,vS=.slice aS n cS:=by
  rcases hsince.2 with ⟨e,e0⟩|⟨g,cp,cur,e,_⟩
  ·exact ⟨_,_,by rw [e,e0]⟩
  ·exact ⟨_,_,e⟩
 subst hvS;have HS:Hid (w.ownsRow 0 111 257 (.slice aS n cS) n (scells D.since)):=hsince;have HSlt:Hid (∀k,(Value.slice aS n cS).ownBlock=some k->k<w.heap.size):=hSlt;unfold maxLen at hr3;clear hsl hpgs hbk hhold hlen hN hn hby hr4 hr0 hsince hSlt ok hF hc hfo z hn4 hn8;go_enter Tryz.func22,Tryz.ntmps22
 go_wp2_with (first|(go_at_call 47;refine hm.mono ?_;rintro e w' ⟨rfl,rfl⟩))
 refine hcl1.mono ?_;clear hcl1 hm;rintro e w1 ⟨g,cg,rfl,ho1,hb1⟩;have lg:=ho1.lt2;have d2:w1.cell? ⟨p,2,none⟩=some (.slice aS n cS):=(hb1.cell (p:=⟨p,2,none⟩) hp).trans c2;have HO1:Hid (Own w.heap.size w1 (.slice (some ⟨g,0,none⟩) N cg) D.sure):=ho1;have HB1:Hid (Below w.heap.size w w1):=hb1;clear ho1 hb1;go_wp2;go_loopw [22] (fun i wr=>∃k:Nat,k<=n/\i=.int .i64 k/\Own 0 wr (.slice (some ⟨g,0,none⟩) N cg) (fallK D.sure D.since ch k)/\Below w.heap.size w wr) (fun i _=>n-(intOf i).toNat)
 case atStart=>exact ⟨0,jW _,rfl,HO1.out.zero,HB1.out⟩
 case round=>
  obtain ⟨k,hk,rfl,hown,hbr⟩:=hrel;have lg2:=hown.lt2;have sr:=hbr.size;by_cases hlt:k<n
  ·obtain ⟨gS,cS',hv,_,_⟩:=HS.out.form (by omega);simp only [Value.slice.injEq,true_and] at hv;obtain ⟨rfl,rfl⟩:=hv;have hgS:gS<w.heap.size:=HSlt.out gS rfl;obtain ⟨x,hx⟩:∃x,D.since.getD k (0,[])=x:=⟨_,rfl⟩;have hmem:x∈D.since:=by rw [<-hx,jA,jC (by have:=HNN.out;omega)];exact qA _
   have hxl:=HSL.out x hmem;have hxp:=HPG.out x hmem
   have hrg:wr.rangeAt gS (k*257) (wcells x):=by
    have:=gG (yN HS.out (fun j hj=>by simp [Value.ownBlock] at hj;subst hj;exact hbr.block gS hgS)) HNN.out.symm HSL.out k hlt
    rwa [hx] at this
   have rL:(LoadW (.pointer (some ⟨gS,k*257,none⟩))).run Tryz.prog wr=.ok (.agg (wcells x).toArray) wr:=VD wr gS (k*257) _ (zL hxl) hrg;have rS:=store_w wr zw (wcells x) hzw (zL hxl) (YO x);obtain ⟨cs,hcs⟩:∃cs,(wcells x).toArray=cs:=⟨_,rfl⟩;rw [hcs] at rL rS;have hb2:Below wr.heap.size wr (wr.alloc (.cells cs 111)):=(Below.refl _ wr).alloc (jB _) _
   have hwat:WriteAt (wr.alloc (.cells cs 111)) wr.heap.size 0 x.1 x.2:=by
    refine WriteAt.of_range hxl ?_;intro j v hj;rw [xE,cell_of_row _ _ j cs _ (0,0) (heap_alloc_new wr _),<-hcs]
    simpa using hj
   have hon:=fun (c:Int) (h0:0<=c) (h1:c<=255)=>gV (wr.alloc (.cells cs 111)) wr.heap.size 0 x.1 g N cg x.2 _ c hwat hxl (hown.kept (hb2.block g lg2.2)) (by have:=HLN.out;omega) hN4 (by omega) h0 h1
   have fin:∀(c:Int) (w2:World),(if k<ch.length then ch.getD k 0 else 15)=c->Own 0 w2 (.slice (some ⟨g,0,none⟩) N cg) (onto (fallK D.sure D.since ch k) x.1 x.2 c)->Ch (wr.alloc (.cells cs 111)).heap.size (fun j=>j=g) (wr.alloc (.cells cs 111)) w2->Own 0 w2 (.slice (some ⟨g,0,none⟩) N cg) (fallK D.sure D.since ch (k+1))/\Below w.heap.size w w2:=fun c w2 e ho hc=>by
    refine ⟨by rw [fallK,hx,e];exact ho,?_⟩;exact (hbr.trans (hb2.mono sr)).trans ((hc.mono (B':=w.heap.size) (F':=fun _=>False) (by simp;omega) (fun j hj e=>by omega)).below (fun _ e=>e.elim))
   have HON:Hid _:=hon;have HFI:Hid _:=fin;clear hon fin hwat hb2 hrg hmem hxl hxp hx hcs hown;by_cases hkc:k<ch.length
   ·obtain ⟨bb,off,rfl,hcell⟩:=HR.out.resolve_left (by intro e;rw [e] at hkc;exact absurd hkc (by simp));obtain ⟨c,hcc⟩:∃c:Int,ch.getD k 0=c:=⟨_,rfl⟩;have cb:=HBY.out.at k;rw [hcc] at cb;have hbb:bb<w.heap.size:=block_lt_of_cell (hcell k hkc)
    have hce:(wr.alloc (.cells cs 111)).cell? ⟨bb,off+k,none⟩=some (.int .u8 c):=by
     rw [World.cell?_alloc_lt _ _ _ (by show bb<wr.heap.size;omega),hbr.cell (p:=⟨bb,off+k,none⟩) hbb,hcell k hkc,hcc]
    have hon:=HON.out c cb.1 cb.2;have HC:Hid ((if k<ch.length then ch.getD k 0 else 15)=c):=by rw [if_pos hkc];exact hcc
    clear hcc hcell HON;go_wp2_with fail
    refine hon.mono ?_;rintro e w2 ⟨rfl,ho2,hc2⟩;have R:=HFI.out c w2 HC.out ho2 hc2;clear hon ho2 hc2 HFI;obtain ⟨R1,R2⟩:=R;go_wp2;go_roundw
    case rel=>exact ⟨k+1,by omega,by go_num,R1,R2⟩
    case measure=>simp [intOf];omega
   ·have hon:=HON.out 15 (by omega) (by omega);have HC:Hid ((if k<ch.length then ch.getD k 0 else 15)=15):=if_neg hkc;clear HON;go_wp2_with fail
    refine hon.mono ?_;rintro e w2 ⟨rfl,ho2,hc2⟩;have R:=HFI.out 15 w2 HC.out ho2 hc2;clear hon ho2 hc2 HFI;obtain ⟨R1,R2⟩:=R;go_wp2;go_roundw
    case rel=>exact ⟨k+1,by omega,by go_num,R1,R2⟩
    case measure=>simp [intOf];omega
  ·have e:k=n:=by omega
   subst e;have c:=HH.out ⟨g,0,none⟩ cg wr (by rw [HNN.out];exact (hown.row' (HBK.out k)).2);rw [show (fallK D.sure D.since ch D.since.length).length=N by rw [zX];exact HNS.out] at c;have HB:Hid (Below w.heap.size w wr):=hbr;clear hown hbr;go_wp2_with fail
   refine c.mono ?_;rintro e w2 ⟨q,F',rfl,hd,hb,hF'⟩;have HD:Hid (Dev w2 q F' (crashD D ch)):=hd;have HB2:Hid (Below w.heap.size w w2):=HB.out.trans (hb.mono sr);clear hd hb c;go_wp2;go_ret
   exact ⟨q,F',rfl,HD.out,HB2.out,fun j hj=>jR sr (hF' j hj)⟩
end Go.Proofs.YtaijfhadecennabGreat.Oct
namespace Go.Proofs.YtaijfhadecennabGreat.Oct
open Go.RowKit
section
variable {w:World} {p d N:Nat} {F:Nat->Prop} {D:Dv} {L:List Fr}
theorem Pool.dev (h:Pool w p d F D N L):∃Fd,Dev w d Fd D/\(∀k,Fd k->F k)/\∀(w':World) (D':Dv) (Fd':Nat->Prop),Dev w' d Fd' D'->D'.n=D.n->Step Fd Fd' w w'->∃F',Pool w' p d F' D' N L/\Step F F' w w':=by
 obtain ⟨Fd,m,e,bs,fr,ol,nw,h,rfl⟩:=h;refine ⟨Fd,h.dev,fun k hk=>(h.fd k hk).1,fun w' D' Fd' h' hn st=>?_⟩;have ht:=h.turn h' hn st;exact ⟨_,⟨Fd',m,e,bs,fr,ol,nw,ht.1,rfl⟩,ht.2⟩
theorem XI (h:Pool w p d F D N L) (hops:D.ops<=4611686018427387904) (hs:D.since.length<=1000000) (pg:Nat) (hpg:pg<D.n) (ad:Option Addr) (cap:Nat) (b:List Int) (hr:Row w ad cap b) (hb:b.length=256):
  Calls Tryz.prog 128 #[.pointer (some ⟨d,0,none⟩),.int .i64 pg,.slice ad 256 cap] w fun e w'=>e=.returned (.int .i64 (saysD D))/\∃F',Pool w' p d F' (writeD D pg b) N L/\Step F F' w w':=by
 obtain ⟨Fd,h1,_,h2⟩:=h.dev;refine (kG h1 hops hs pg hpg ad cap b hr hb).mono ?_;rintro x w1 ⟨rfl,Fd',h3,st⟩;exact ⟨rfl,h2 w1 _ Fd' h3 (zH ..) st⟩
theorem KY (h:Pool w p d F D N L) (hops:D.ops<=4611686018427387904):
  Calls Tryz.prog 86 #[.pointer (some ⟨d,0,none⟩)] w fun e w'=>e=.returned (.int .i64 (saysD D))/\∃F',Pool w' p d F' (syncD D) N L/\Step F F' w w':=by
 obtain ⟨Fd,h1,_,h2⟩:=h.dev;refine (sync_any h1 hops).mono ?_;rintro x w1 ⟨rfl,h3,st⟩;exact ⟨rfl,h2 w1 _ Fd h3 (uB D) (Step.of st)⟩
theorem JP (h:Pool w p d F D N L):Calls Tryz.prog 39 #[.pointer (some ⟨d,0,none⟩)] w fun e w'=>e=.returned (.int .i64 D.n)/\w=w':=by
 obtain ⟨Fd,h1,_,h2⟩:=h.dev;exact YB h1
end
end Go.Proofs.YtaijfhadecennabGreat.Oct
namespace Go.Proofs.YtaijfhadecennabGreat.Oct
open Go.RowKit
def ldF (zs:List Int) (n i:Nat):Bool:=!((decide (i<2)&&!bitR zs i)||(decide (n<=i)&&bitR zs i))
def ldOk (zs:List Int) (n:Nat):Bool:=decide (zs.length=(n+7)/8)&&(List.range (zs.length*8)).all (ldF zs n)
def ldE (zs:List Int) (n:Int):Int:=if 8<=n/\n<=4096 then (if ldOk zs n.toNat then 0 else 4) else 1
def ldS (zs:List Int) (n:Nat):List Int:=(List.range n).map fun i=>if bitR zs i then 1 else 0
def ldK (zs:List Int) (n k:Nat):List Int:=(List.range n).map fun i=>if decide (i<2)||(decide (i<k)&&bitR zs i) then 1 else 0
theorem ldK_len (zs:List Int) (n k:Nat):(ldK zs n k).length=n:=by simp [ldK]
theorem XB (zs:List Int) (n:Nat):(ldS zs n).length=n:=by simp [ldS]
theorem ldK_at {zs:List Int} {n k i:Nat} (h:i<n):(ldK zs n k).getD i 0=if decide (i<2)||(decide (i<k)&&bitR zs i) then 1 else 0:=by
 unfold ldK;rw [jA,jC (by simpa using h)];simp
theorem ldS_at {zs:List Int} {n i:Nat} (h:i<n):(ldS zs n).getD i 0=if bitR zs i then 1 else 0:=by
 unfold ldS;rw [jA,jC (by simpa using h)];simp
theorem ldK_zero (zs:List Int) {n:Nat}:ldK zs n 0=newS n:=by
 refine yV (by rw [ldK_len,JF]) fun i hi=>?_
 rw [ldK_len] at hi;rw [ldK_at hi];unfold newS;rw [jA];by_cases e1:i=1
 ·subst e1;rw [qT (by simp;omega)];rfl
 ·rw [xG (by omega)];by_cases e0:i=0
  ·subst e0;rw [qT (by simp;omega)];rfl
  ·rw [xG (by omega),qU,if_pos hi,if_neg (by simp;omega)];rfl
theorem ldS_ok (zs:List Int) {n:Nat} (h8:8<=n) (h4:n<=4096):SpOk (ldS zs n):=⟨by rw [XB];exact h8,by rw [XB];exact h4,fun z hz=>by
 obtain ⟨i,_,rfl⟩:=List.mem_map.1 hz;split<;>omega⟩
theorem GY {zs:List Int} {n:Nat} (hb:Bys zs) (h:ldOk zs n=true):bitL (ldS zs n)=zs:=by
 unfold ldOk at h;rw [jN,List.all_eq_true] at h;obtain ⟨h1,h2⟩:=h;have h1:=jZ h1;unfold bitL;rw [XB];refine Eq.trans (zA fun i hi=>?_) (VZ hb h1);by_cases e:i<n
 ·rw [ldS_at e];cases bitR zs i<;>rfl
 ·have:=h2 i (List.mem_range.2 (by rw [h1];exact hi));unfold ldF at this;rw [jA,jX (by rw [XB];omega)];cases hb':bitR zs i
  ·rfl
  ·rw [hb'] at this;simp [show n<=i by omega] at this
end Go.Proofs.YtaijfhadecennabGreat.Oct
