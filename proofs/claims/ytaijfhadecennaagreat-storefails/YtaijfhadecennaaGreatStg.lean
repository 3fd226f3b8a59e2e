/- Part of a proof. -/
import Derived.Test.YtaijfhadecennaaGreatIv
import Derived.Test.YtaijfhadecennaaGreatGm
import Derived.Test.YtaijfhadecennaaGreatGj
import Derived.Test.YtaijfhadecennaaGreatGb
import Derived.ArgAppend
import Derived.Maps.AppendAt
open Go.Proofs.Tryz
set_option maxHeartbeats 2000000
namespace Go.Proofs.YtaijfhadecennaaGreat.Oct
open Go.RowKit
theorem FI.set {D:Dv} {N:Nat} {L:List Fr} (h:FI D N L) {i:Nat} (hi:i<L.length) (ha:pageOf D.now (L.getD i fr0).page=(L.getD i fr0).b):
  FI D N (L.set i {L.getD i fr0 with dirty:=false})/\(∀k b,Tl D L k b->Tl D (L.set i {L.getD i fr0 with dirty:=false}) k b)/\
  (∀g∈L.set i {L.getD i fr0 with dirty:=false},g.dirty=true->g∈L/\g.page≠(L.getD i fr0).page):=by
 have hfm:=zW hi;obtain ⟨f,hf⟩:∃f,L.getD i fr0=f:=⟨_,rfl⟩;rw [hf] at hfm ha ⊢;obtain ⟨p1,p2⟩:=h.pg f hfm;have hfi:L[i]=f:=by rw [<-hf,jA,jC hi,qJ]
 have hmem:∀g∈L.set i {f with dirty:=false},g∈L\/g={f with dirty:=false}:=fun g hg=>List.mem_or_eq_of_mem_set hg
 have hmap:(L.set i {f with dirty:=false}).map (·.page)=L.map (·.page):=by
  apply List.ext_getElem?;intro j;rw [qH,qH,yD];by_cases hj:i=j
  ·subst hj;rw [if_pos rfl,if_pos hi,jC hi,hfi];rfl
  ·rw [if_neg hj]
 have hstay:∀g∈L,g.page≠f.page->g∈L.set i {f with dirty:=false}:=fun g hg hne=>by
  obtain ⟨j,hj,e⟩:=xV hg
  have hji:i≠j:=fun e2=>by
   subst e2;exact hne (by rw [<-e,hfi])
  have:(L.set i {f with dirty:=false})[j]'(by simpa using hj)=g:=by rw [List.getElem_set_ne hji];exact e
  rw [<-this];exact qB _
 have hnd:((L.set i {f with dirty:=false}).map (·.page)).Nodup:=by rw [hmap];exact h.nd
 have hnew:({f with dirty:=false}:Fr)∈L.set i {f with dirty:=false}:=List.mem_set hi _;refine ⟨⟨h.ok,by simpa using h.len,fun g hg=>?_,fun g hg=>?_,hnd,fun g hg hd=>?_⟩,fun k b ht=>⟨fun g hg e=>?_,fun hc=>?_⟩,fun g hg hd=>?_⟩
 ·rcases hmem g hg with h1|h1
  ·exact h.pins g h1
  ·rw [h1];exact h.pins f hfm
 ·rcases hmem g hg with h1|h1
  ·exact h.pg g h1
  ·rw [h1];exact ⟨p1,p2⟩
 ·rcases hmem g hg with h1|h1
  ·exact h.agree g h1 hd
  ·rw [h1];exact ha
 ·rcases hmem g hg with h1|h1
  ·exact ht.1 g h1 e
  ·rw [h1] at e ⊢;exact ht.1 f hfm e
 ·by_cases hk:f.page=k
  ·rw [<-ht.1 f hfm hk,<-hk];exact ha
  ·exact ht.2 (fun g hg e=>hc g (hstay g hg (fun e2=>hk (e2.symm.trans e))) e)
 ·rcases hmem g hg with h1|h1
  ·refine ⟨h1,fun e=>?_⟩;have:=kG hnd hg hnew e;rw [this] at hd;cases hd
  ·rw [h1] at hd;cases hd
theorem FI.flush1 {N:Nat} {Q:Nat->Prop}:∀(zs:List Int) {D:Dv} {L:List Fr},FI D N L->(∀z∈zs,fiP L z<L.length/\(L.getD (fiP L z) fr0).dirty=true)->zs.Nodup->(∀k,DP L k->Q k)->
  FI (flS zs D L).2.1 N (flS zs D L).2.2/\(∀k b,k<D.n->Tl D L k b->Tl (flS zs D L).2.1 (flS zs D L).2.2 k b)/\Acts Q zs.length D (flS zs D L).2.1/\(∀f∈(flS zs D L).2.2,f.dirty=true->f∈L)/\
   ((flS zs D L).1=0/\(∀f∈(flS zs D L).2.2,f.dirty=true->(f.page:Int)∉zs)\/((flS zs D L).1=7/\Bad D (flS zs D L).2.1))
 |[],D,L,h,_,_,_=>⟨h,fun _ _ _ ht=>ht,Acts.refl _ D,fun _ hf _=>hf,.inl ⟨rfl,fun _ _ _=>by simp⟩⟩
 |z::r,D,L,h,hz,hnd,hq=>by
  obtain ⟨hi,hdz⟩:=hz z (by simp);have hfm:=zW hi
  have hpz:((L.getD (fiP L z) fr0).page:Int)=z:=by
   have:=List.findIdx_getElem (w:=hi);simp only [jR] at this;rw [jA,jC hi,qJ];exact this
  obtain ⟨w1,w2,w3⟩:=h.wrote hfm hdz;obtain ⟨p1,p2⟩:=h.pg _ hfm;have hA:Acts Q 1 D (writeD D (L.getD (fiP L z) fr0).page (L.getD (fiP L z) fr0).b):=Acts.write (hq _ ⟨_,hfm,rfl,hdz⟩) p1 p2.1 p2.2;by_cases hs:saysD D=0
  ·have hstep:flS (z::r) D L=flS r (writeD D (L.getD (fiP L z) fr0).page (L.getD (fiP L z) fr0).b) (L.set (fiP L z) {L.getD (fiP L z) fr0 with dirty:=false}):=by
    show (if saysD D=0 then _ else _)=_;rw [if_pos hs]
   rw [hstep];obtain ⟨s1,s2,s3⟩:=w1.set hi (w3 hs);rw [xK] at hnd;have hset:∀y:Int,fiP (L.set (fiP L z) {L.getD (fiP L z) fr0 with dirty:=false}) y=fiP L y:=fun y=>fiP_set (f:={L.getD (fiP L z) fr0 with dirty:=false}) hi rfl y
   have hzr:∀y∈r,fiP (L.set (fiP L z) {L.getD (fiP L z) fr0 with dirty:=false}) y<(L.set (fiP L z) {L.getD (fiP L z) fr0 with dirty:=false}).length/\((L.set (fiP L z) {L.getD (fiP L z) fr0 with dirty:=false}).getD (fiP (L.set (fiP L z) {L.getD (fiP L z) fr0 with dirty:=false}) y) fr0).dirty=true:=fun y hy=>by
    obtain ⟨a,b⟩:=hz y (jM _ hy);rw [hset,jY];refine ⟨a,?_⟩
    have hyz:fiP L z≠fiP L y:=fun e=>by
     have h1:=List.findIdx_getElem (w:=a);simp only [jR] at h1
     have h2:((L.getD (fiP L y) fr0).page:Int)=y:=by
      rw [jA,jC a,qJ];exact h1
     rw [<-e,hpz] at h2;exact hnd.1 (by rw [h2];exact hy)
    rw [jA,xJ hyz,<-jA];exact b
   obtain ⟨g1,g2,g3,g4,g5⟩:=FI.flush1 (Q:=Q) r s1 hzr hnd.2 (fun k hk=>by
    obtain ⟨g,hg,e,d⟩:=hk;exact hq k ⟨g,(s3 g hg d).1,e,d⟩)
   refine ⟨g1,fun k b hk ht=>g2 k b (by rw [zO];exact hk) (s2 k b (w2 k b hk ht)),(hA.trans g3).mono (fun _ h=>h) (by simp;omega),fun f hf hd=>(s3 f (g4 f hf hd) hd).1,?_⟩;rcases g5 with ⟨g5,g6⟩|⟨g5,g6⟩
   ·refine .inl ⟨g5,fun f hf hd hm=>?_⟩;rcases List.mem_cons.1 hm with hm|hm
    ·exact (s3 f (g4 f hf hd) hd).2 (by omega)
    ·exact g6 f hf hd hm
   ·exact .inr ⟨g5,(mo_write D _ _).bad g6⟩
  ·have hstep:flS (z::r) D L=(saysD D,writeD D (L.getD (fiP L z) fr0).page (L.getD (fiP L z) fr0).b,L):=by
    show (if saysD D=0 then _ else _)=_;rw [if_neg hs]
   rw [hstep];exact ⟨w1,w2,hA.mono (fun _ h=>h) (by simp),fun f hf _=>hf,.inr ⟨by rcases zL D with e|e;exact absurd e hs;exact e,UF hs _ _⟩⟩
theorem FI.flush {D:Dv} {N:Nat} {L:List Fr} (h:FI D N L) {R:Int × Dv × List Fr} (hR:flS (pgsP L fitD) D L=R):
  FI R.2.1 N R.2.2/\(∀k b,k<D.n->Tl D L k b->Tl R.2.1 R.2.2 k b)/\Acts (DP L) N D R.2.1/\(∀k,DP R.2.2 k->DP L k)/\(R.1=0/\(∀k,¬DP R.2.2 k)\/(R.1=7/\Bad D R.2.1)):=by
 have hmem:∀z:Int,z∈pgsP L fitD↔∃f∈L,f.dirty=true/\(f.page:Int)=z:=fun z=>by
  unfold pgsP;rw [(VJ _).mem_iff,List.mem_map];constructor
  ·rintro ⟨f,hf,e⟩;exact ⟨f,(List.mem_filter.1 hf).1,(List.mem_filter.1 hf).2,e⟩
  ·rintro ⟨f,hf,d,e⟩;exact ⟨f,List.mem_filter.2 ⟨hf,d⟩,e⟩
 have hz:∀z∈pgsP L fitD,fiP L z<L.length/\(L.getD (fiP L z) fr0).dirty=true:=fun z hz=>by
  obtain ⟨f,hf,d,e⟩:=(hmem z).1 hz;obtain ⟨a,b⟩:=kZ ⟨f,hf,e⟩;refine ⟨a,?_⟩;rw [kG h.nd (zW a) hf (by omega)];exact d
 have hnd:(pgsP L fitD).Nodup:=by
  unfold pgsP;rw [(VJ _).nodup_iff];have h1:((L.filter fitD).map (·.page)).Nodup:=h.nd.sublist ((List.filter_sublist (p:=fitD)).map _);rw [xU] at h1 ⊢;rw [List.pairwise_map] at h1 ⊢;exact h1.imp (fun h e=>h (by omega))
 obtain ⟨a,b,c,d,e⟩:=FI.flush1 (Q:=DP L) _ h hz hnd (fun _ h=>h);have hlen:(pgsP L fitD).length<=N:=by rw [pgsP_len];have:=List.length_filter_le fitD L;have:=h.len;omega
 rw [hR] at a b c d e;refine ⟨a,b,c.mono (fun _ h=>h) hlen,fun k hk=>?_,?_⟩
 ·obtain ⟨f,hf,e1,e2⟩:=hk;exact ⟨f,d f hf e2,e1,e2⟩
 ·rcases e with ⟨e1,e2⟩|e
  ·refine .inl ⟨e1,fun k hk=>?_⟩;obtain ⟨f,hf,e3,e4⟩:=hk;exact e2 f hf e4 ((hmem _).2 ⟨f,d f hf e4,e4,rfl⟩)
  ·exact .inr e
structure PutI (N:Nat) (D:Dv) (L:List Fr) (pg:List Int) (zs:List (List Int)) (Q:Nat->Prop) (i:Nat) (D':Dv) (L':List Fr):Prop where
 fi:FI D' N L'
 acts:Acts Q i D D'
 dp:∀k,DP L' k->DP L k\/∃j,j<i/\pg.getD j 0=(k:Int)
 old:∀k b,k<D.n->(∀j,j<i->pg.getD j 0≠(k:Int))->Tl D L k b->Tl D' L' k b
 new:∀j,j<i->Tl D' L' (pg.getD j 0).toNat (zs.getD j [])
theorem PutI.zero {N:Nat} {D:Dv} {L:List Fr} (h:FI D N L) (pg:List Int) (zs:List (List Int)) (Q:Nat->Prop):PutI N D L pg zs Q 0 D L:=
 ⟨h,Acts.refl _ D,fun _ h=>.inl h,fun _ _ _ _ h=>h,fun _ h=>absurd h (Nat.not_lt_zero _)⟩
theorem PutI.next {N:Nat} {D:Dv} {L:List Fr} {pg:List Int} {zs:List (List Int)} {Q:Nat->Prop} {i:Nat} {D':Dv} {L':List Fr} (h:PutI N D L pg zs Q i D' L') (hN:0<N) (hn:∀j,j<i->pg.getD j 0≠pg.getD i 0) (h0:0<=pg.getD i 0) (hx:pg.getD i 0<(D.n:Int)) (hpl:∀j,j<i->0<=pg.getD j 0/\pg.getD j 0<(D.n:Int))
  (hQ:∀k,DP L k->Q k) (hQp:∀j,j<=i->Q (pg.getD j 0).toNat) (hb:(zs.getD i []).length=256) (hy:Bys (zs.getD i [])) {E:Int} {D2:Dv} {L2:List Fr} (hE:usE D' N L' (pg.getD i 0).toNat false=E) (hD:usD D' N L' (pg.getD i 0).toNat false=D2) (hL:ptF D' N L' (pg.getD i 0).toNat (zs.getD i [])=L2):
  (E=0/\PutI N D L pg zs Q (i+1) D2 L2)\/(E=7/\Bad D D2/\FI D2 N L2/\Acts Q (i+1) D D2/\(∀k,DP L2 k->DP L k\/∃j,j<i/\pg.getD j 0=(k:Int))/\∀k b,k<D.n->(∀j,j<i->pg.getD j 0≠(k:Int))->Tl D L k b->Tl D2 L2 k b):=by
 have hn':=h.acts.n;obtain ⟨a,b,c,d,e⟩:=h.fi.put hN (x:=(pg.getD i 0).toNat) (by omega) hb hy hE hD hL
 have hc:Acts Q (i+1) D D2:=h.acts.trans (c.mono (fun k hk=>by
  rcases h.dp k hk with h1|⟨j,hj,h1⟩
  ·exact hQ k h1
  ·have:=hQp j (by omega);rw [h1] at this;exact this) (jB _))
 rcases e with ⟨e,ht⟩|⟨e,hbad⟩
 ·refine .inl ⟨e,a,hc,fun k hk=>?_,fun k x hk hj ht=>?_,fun j hj=>?_⟩
  ·rcases d k hk with h1|h1
   ·rcases h.dp k h1 with h2|⟨j,hj,h2⟩
    ·exact .inl h2
    ·exact .inr ⟨j,by omega,h2⟩
   ·exact .inr ⟨i,by omega,by omega⟩
  ·refine b k x (by omega) (.inl fun e1=>?_) (h.old k x hk (fun j hj'=>hj j (by omega)) ht);exact hj i (by omega) (by omega)
  ·by_cases hji:j=i
   ·subst hji;exact ht
   ·have h1:=hn j (by omega);obtain ⟨h2,h3⟩:=hpl j (by omega);exact b _ _ (by omega) (.inl fun e1=>h1 (by omega)) (h.new j (by omega))
 ·refine .inr ⟨e,h.acts.mo.bad hbad,a,hc,fun k hk=>?_,fun k x hk hj ht=>?_⟩
  ·rcases d k hk with h1|h1
   ·exact h.dp k h1
   ·rw [e] at h1;cases h1.2
  ·exact b k x (by omega) (.inr (by rw [e];decide)) (h.old k x hk hj ht)
attribute [local go_sem ↓] loadW_eq allocW_eq storeW_eq
theorem fK:∀(l:List (Nat × List Int)),(∀x∈l,x.2.length=256)->∀(k j:Nat),j<257->k<l.length->(scells l)[k*257+j]?=(wcells (l.getD k (0,[])))[j]?
 |[],_,k,_,_,hk=>by simp at hk
 |x::r,h,0,j,hj,_=>by
  have hl:=zU (h x (by simp));show (wcells x++scells r)[0*257+j]?=_;rw [Nat.zero_mul,qT,qP (by omega)];rfl
 |x::r,h,k+1,j,hj,hk=>by
  have hl:=zU (h x (by simp));show (wcells x++scells r)[(k+1)*257+j]?=_;rw [qY (by omega),hl,show (k+1)*257+j-257=k*257+j by omega,fK r (fun y hy=>h y (by simp [hy])) k j hj (by simp at hk;omega)];rfl
theorem since_range {w:World} {g n cap:Nat} {l:List (Nat × List Int)} (h:w.ownsRow 0 111 257 (.slice (some ⟨g,0,none⟩) n cap) n (scells l)) (hn:n=l.length) (hl:∀x∈l,x.2.length=256) (k:Nat) (hk:k<n):w.rangeAt g (k*257) (wcells (l.getD k (0,[]))):=by
 intro j v hj;have hm:l.getD k (0,[])∈l:=by rw [jA,jC (by omega)];exact qB _
 have hj2:j<257:=by have:=(List.getElem?_eq_some_iff.1 hj).1;rw [zU (hl _ hm)] at this;exact this
 have hb:(k+1)*257<=n*257:=Nat.mul_le_mul_right _ hk;rw [World.ownsRow.cellAt h (k*257+j) (by omega),fK l hl k j hj2 (by omega)];exact hj
theorem fallK_ok {D:Dv} (h:D.ok) (ch:List Int) (k:Nat):Bys (fallK D.sure D.since ch k):=vY ch h.bsure (fun x hx=>(h.since x hx).2.2) k
theorem FG {w:World} {p:Nat} {F:Nat->Prop} {D:Dv} (h:Dev w p F D) (hs:D.since.length<=1000000) (a:Option Addr) (cap:Nat) (ch:List Int) (hr:Row w a cap ch):
  Calls prog 40 #[.pointer (some ⟨p,0,none⟩),.slice a ch.length cap] w fun e w'=>∃q F',e=.returned (.pointer (some ⟨q,0,none⟩))/\Dev w' q F' (crashD D ch)/\Below w.heap.size w w'/\∀k,F' k->w.heap.size<=k:=by
 have hm:=made_any h;obtain ⟨ok,hF,gN,gL,cN,cL,vS,vO,f,hc,hfo⟩:=h;obtain ⟨_,c1,c2,_,_,_,_,z⟩:=hc.at;have hlen:=ok.sure;have hn4:=ok.n4;have hn8:=ok.n8;have hcl1:=JP ⟨gL,0,none⟩ cL D.sure w (hc.sure.row' ok.bsure).2 (by omega);have hhold:=fun (ad:Addr) (cp:Nat) (w1:World) (h:Row w1 (some ad) cp (fallK D.sure D.since ch D.since.length))=>UM ad cp _ w1 h D.n (by rw [zX,hlen]) hn8 hn4
 have hsl:∀x∈D.since,x.2.length=256:=fun x hx=>(ok.since x hx).2.1
 have hpgs:∀x∈D.since,x.1<D.n:=fun x hx=>(ok.since x hx).1
 obtain ⟨zw,hzw,rAl⟩:=alloc_w;have hbk:∀k,Bys (fallK D.sure D.since ch k):=fallK_ok ok ch;have hSlt:∀k,vS.ownBlock=some k->k<w.heap.size:=fun k hk=>hF k (hfo k (.inr (.inr (.inr (.inl hk)))))
 have hsince:=hc.since;have hp:p<w.heap.size:=hF p (hfo p (.inl rfl));obtain ⟨N,hN⟩:∃N,D.sure.length=N:=⟨_,rfl⟩;have hN4:N<=1048576:=by omega
 have HSL:Hid (∀x∈D.since,x.2.length=256):=hsl;have HPG:Hid (∀x∈D.since,x.1<D.n):=hpgs;have HBK:Hid (∀k,Bys (fallK D.sure D.since ch k)):=hbk;have HH:Hid _:=hhold;have HLN:Hid (N=D.n*256):=hN▸hlen;have HNS:Hid (D.sure.length=N):=hN;rw [hN] at c1 hcl1;obtain ⟨n,hn⟩:∃n,D.since.length=n:=⟨_,rfl⟩;rw [hn] at hsince hs;have HNN:Hid (D.since.length=n):=hn;have hr0:=hr;obtain ⟨hby,hr2,hr3,hr4⟩:=hr;have HR:Hid (ch=[]\/∃b off,a=some ⟨b,off,none⟩/\∀i,i<ch.length->w.cell? ⟨b,off+i,none⟩=some (.int .u8 (ch.getD i 0))):=hr4;have HBY:Hid (Bys ch):=hby
 obtain ⟨aS,cS,hvS⟩:∃aS cS,vS=.slice aS n cS:=by
  rcases hsince.2 with ⟨e,e0⟩|⟨g,cp,cur,e,_⟩
  ·exact ⟨_,_,by rw [e,e0]⟩
  ·exact ⟨_,_,e⟩
 subst hvS;have HS:Hid (w.ownsRow 0 111 257 (.slice aS n cS) n (scells D.since)):=hsince;have HSlt:Hid (∀k,(Value.slice aS n cS).ownBlock=some k->k<w.heap.size):=hSlt;unfold maxLen at hr3;clear hsl hpgs hbk hhold hlen hN hn hby hr4 hr0 hsince hSlt ok hF hc hfo z hn4 hn8;go_enter func40,ntmps40
 go_wp2_with (first|(go_at_call 69;refine hm.mono ?_;rintro e w' ⟨rfl,rfl⟩))
 refine hcl1.mono ?_;clear hcl1 hm;rintro e w1 ⟨g,cg,rfl,ho1,hb1⟩;have lg:=ho1.lt2;have d2:w1.cell? ⟨p,2,none⟩=some (.slice aS n cS):=(hb1.cell (p:=⟨p,2,none⟩) hp).trans c2;have HO1:Hid (Own w.heap.size w1 (.slice (some ⟨g,0,none⟩) N cg) D.sure):=ho1;have HB1:Hid (Below w.heap.size w w1):=hb1;clear ho1 hb1;go_wp2;go_loopw [22] (fun i wr=>∃k:Nat,k<=n/\i=.int .i64 k/\Own 0 wr (.slice (some ⟨g,0,none⟩) N cg) (fallK D.sure D.since ch k)/\Below w.heap.size w wr) (fun i _=>n-(intOf i).toNat)
 case atStart=>exact ⟨0,jT _,rfl,HO1.out.zero,HB1.out⟩
 case round=>
  obtain ⟨k,hk,rfl,hown,hbr⟩:=hrel;have lg2:=hown.lt2;have sr:=hbr.size;by_cases hlt:k<n
  ·obtain ⟨gS,cS',hv,_,_⟩:=HS.out.form (by omega);simp only [Value.slice.injEq,true_and] at hv;obtain ⟨rfl,rfl⟩:=hv;have hgS:gS<w.heap.size:=HSlt.out gS rfl;obtain ⟨x,hx⟩:∃x,D.since.getD k (0,[])=x:=⟨_,rfl⟩;have hmem:x∈D.since:=by rw [<-hx,jA,jC (by have:=HNN.out;omega)];exact qB _
   have hxl:=HSL.out x hmem;have hxp:=HPG.out x hmem
   have hrg:wr.rangeAt gS (k*257) (wcells x):=by
    have:=since_range (yQ HS.out (fun j hj=>by simp [Value.ownBlock] at hj;subst hj;exact hbr.block gS hgS)) HNN.out.symm HSL.out k hlt
    rwa [hx] at this
   have rL:(LoadW (.pointer (some ⟨gS,k*257,none⟩))).run prog wr=.ok (.agg (wcells x).toArray) wr:=kK wr gS (k*257) _ (zU hxl) hrg;have rS:=store_w wr zw (wcells x) hzw (zU hxl) (ZE x);obtain ⟨cs,hcs⟩:∃cs,(wcells x).toArray=cs:=⟨_,rfl⟩;rw [hcs] at rL rS;have hb2:Below wr.heap.size wr (wr.alloc (.cells cs 111)):=(Below.refl _ wr).alloc (jB _) _
   have hwat:WriteAt (wr.alloc (.cells cs 111)) wr.heap.size 0 x.1 x.2:=by
    refine WriteAt.of_range hxl ?_;intro j v hj;rw [qT,cell_of_row _ _ j cs _ (0,0) (heap_alloc_new wr _),<-hcs]
    simpa using hj
   have hon:=fun (c:Int) (h0:0<=c) (h1:c<=255)=>onto_any (wr.alloc (.cells cs 111)) wr.heap.size 0 x.1 g N cg x.2 _ c hwat hxl (hown.kept (hb2.block g lg2.2)) (by have:=HLN.out;omega) hN4 (by omega) h0 h1
   have fin:∀(c:Int) (w2:World),(if k<ch.length then ch.getD k 0 else 15)=c->Own 0 w2 (.slice (some ⟨g,0,none⟩) N cg) (onto (fallK D.sure D.since ch k) x.1 x.2 c)->Ch (wr.alloc (.cells cs 111)).heap.size (fun j=>j=g) (wr.alloc (.cells cs 111)) w2->Own 0 w2 (.slice (some ⟨g,0,none⟩) N cg) (fallK D.sure D.since ch (k+1))/\Below w.heap.size w w2:=fun c w2 e ho hc=>by
    refine ⟨by rw [fallK,hx,e];exact ho,?_⟩;exact (hbr.trans (hb2.mono sr)).trans ((hc.mono (B':=w.heap.size) (F':=fun _=>False) (by simp;omega) (fun j hj e=>by omega)).below (fun _ e=>e.elim))
   have HON:Hid _:=hon;have HFI:Hid _:=fin;clear hon fin hwat hb2 hrg hmem hxl hxp hx hcs hown;by_cases hkc:k<ch.length
   ·obtain ⟨bb,off,rfl,hcell⟩:=HR.out.resolve_left (by intro e;rw [e] at hkc;exact absurd hkc (by simp));obtain ⟨c,hcc⟩:∃c:Int,ch.getD k 0=c:=⟨_,rfl⟩;have cb:=HBY.out.at k;rw [hcc] at cb;have hbb:bb<w.heap.size:=block_lt_of_cell (hcell k hkc)
    have hce:(wr.alloc (.cells cs 111)).cell? ⟨bb,off+k,none⟩=some (.int .u8 c):=by
     rw [World.cell?_alloc_lt _ _ _ (by show bb<wr.heap.size;omega),hbr.cell (p:=⟨bb,off+k,none⟩) hbb,hcell k hkc,hcc]
    have hon:=HON.out c cb.1 cb.2;have HC:Hid ((if k<ch.length then ch.getD k 0 else 15)=c):=by rw [if_pos hkc];exact hcc
    clear hcc hcell HON;go_wp2_with fail
    refine hon.mono ?_;rintro e w2 ⟨rfl,ho2,hc2⟩;have R:=HFI.out c w2 HC.out ho2 hc2;clear hon ho2 hc2 HFI;obtain ⟨R1,R2⟩:=R;go_wp2;go_roundw
    case rel=>exact ⟨k+1,by omega,by go_num,R1,R2⟩
    case measure=>simp [intOf];omega
   ·have hon:=HON.out 15 (by omega) (by omega);have HC:Hid ((if k<ch.length then ch.getD k 0 else 15)=15):=if_neg hkc;clear HON;go_wp2_with fail
    refine hon.mono ?_;rintro e w2 ⟨rfl,ho2,hc2⟩;have R:=HFI.out 15 w2 HC.out ho2 hc2;clear hon ho2 hc2 HFI;obtain ⟨R1,R2⟩:=R;go_wp2;go_roundw
    case rel=>exact ⟨k+1,by omega,by go_num,R1,R2⟩
    case measure=>simp [intOf];omega
  ·have e:k=n:=by omega
   subst e;have c:=HH.out ⟨g,0,none⟩ cg wr (by rw [HNN.out];exact (hown.row' (HBK.out k)).2);rw [show (fallK D.sure D.since ch D.since.length).length=N by rw [zX];exact HNS.out] at c;have HB:Hid (Below w.heap.size w wr):=hbr;clear hown hbr;go_wp2_with fail
   refine c.mono ?_;rintro e w2 ⟨q,F',rfl,hd,hb,hF'⟩;have HD:Hid (Dev w2 q F' (crashD D ch)):=hd;have HB2:Hid (Below w.heap.size w w2):=HB.out.trans (hb.mono sr);clear hd hb c;go_wp2;go_ret
   exact ⟨q,F',rfl,HD.out,HB2.out,fun j hj=>jP sr (hF' j hj)⟩
end Go.Proofs.YtaijfhadecennaaGreat.Oct
namespace Go.Proofs.YtaijfhadecennaaGreat.Oct
open Go.RowKit
theorem VQ {P:Program} (w:World) (t ty e:TypeId) (i:TypeInfo) (ht:P.underlying t=some (.slice e)) (hi:P.info? e=some i)
  (g off sLen sCap:Nat) (cur:Array Value) (hg:w.heap[g]?=some (.cells cur e (0,0)))
  (a:Addr) (m c:Nat) (news:List Value) (hl:news.length=m*i.size) (hnews:∀j u,news[j]?=some u->w.cell? (a.add j)=some u) (h1:∀u∈news,u.oneCell'=true)
  (hroom:sLen+m<=sCap) (hfit:off+sLen*i.size+news.length<=cur.size):
  (Builtin.append_ #[t,t] ty #[.slice (some ⟨g,off,none⟩) sLen sCap,.slice (some a) m c]).run P w=
   .ok (.slice (some ⟨g,off,none⟩) (sLen+m) sCap) (w.setRow g (cur.toList.take (off+sLen*i.size)++news++cur.toList.drop (off+sLen*i.size+news.length)).toArray):=by
 have hf:=run_firstCells_some (P:=P) w i.size m a m c news hl hnews;have hst:=run_storeCells_at P g (off+sLen*i.size) e news 0 cur w hg (by simpa using hfit) h1;simp only [Nat.add_zero] at hst;simp [Builtin.append_,run_underlying ht,sizeOf,typeInfo,hi,Builtin.lenOf,hroom,hf,Addr.add_lit,hst]
theorem OutAt.of_own {w:World} {base n:Nat} {v:Value} {zs:List Int} (h:w.ownsRow base 5 1 v n (zs.map (Value.int .u8))):OutAt w v zs:=by
 have hn:n=zs.length:=by have:=h.1;simp at this;omega
 subst hn;rcases h.2 with ⟨e,h0⟩|⟨g,cap,cur,e,_,hg,h1,h2,h3,h4⟩
 ·exact .inl ⟨by rw [e],qE h0⟩
 ·refine .inr ⟨g,0,cap,cur,e,hg,h1,h2,by omega,fun i hi=>?_⟩;rw [Nat.mul_one] at h4;have:(cur.toList.take zs.length)[i]?=some (.int .u8 (zs.getD i 0)):=by rw [h4,qH,jA,jC hi];rfl
  rw [xZ,if_pos hi] at this;rw [qT]
  simpa using this
theorem append_out (w:World) (v:Value) (zs ls:List Int) (hO:OutAt w v zs) (sa:Option Addr) (c:Nat) (hl:Row w sa c ls) (hnil:sa=none->c=0) (hsz:zs.length+ls.length<=1000000) (ty:TypeId):
  ∃v' w',(Builtin.append_ #[32,32] ty #[v,.slice sa ls.length c]).run prog w=.ok v' w'/\OutAt w' v' (zs++ls)/\w.grownBy w' v.ownBlock/\(∀k,v'.ownBlock=some k->v.ownBlock=some k\/w.heap.size<=k):=by
 obtain ⟨i0,hi,hz0,hz1,hz2⟩:=info_parts info5;cases sa with
 |none=>
  have hz:ls=[]:=by
   rcases hl.2.2.2 with h|⟨b,off,e,_⟩
   ·exact h
   ·exact absurd e (by simp)
  subst hz;rw [hnil rfl,xW];rcases id hO with ⟨rfl,rfl⟩|⟨g,off,cap,cur,rfl,hg,h1,h2,h3,h4⟩
  ·exact ⟨.slice none 0 0,w,by simp [Builtin.append_,run_underlying underlying32,sizeOf,typeInfo,hi,Builtin.lenOf,Builtin.firstCells],hO,⟨rfl,rfl,rfl,jB _,fun _ _ _=>rfl⟩,fun k hk=>.inl hk⟩
  ·exact ⟨.slice (some ⟨g,off,none⟩) zs.length cap,w,by simp [Builtin.append_,run_underlying underlying32,sizeOf,typeInfo,hi,Builtin.lenOf,Builtin.firstCells,h1,storeCells],hO,⟨rfl,rfl,rfl,jB _,fun _ _ _=>rfl⟩,fun k hk=>.inl hk⟩
 |some ad=>
  have hn:=QS hl;rcases id hO with ⟨rfl,rfl⟩|⟨g,off,cap,cur,rfl,hg,h1,h2,h3,h4⟩
  ·obtain ⟨v',w',hr,ho,hgr,_,hat⟩:=run_append_own_at (P:=prog) w 0 32 ty 5 i0 (.int .u8 0) 1 1 underlying32 hi hz0 hz1 hz2 rfl (by decide) _ _ _ (World.ownsRow_nil w 0 5 1) ad ls.length c (ls.map (Value.int .u8)) (by simp) hn (zQ ls) (by unfold maxLen;simp at hsz;omega) (by simp at hsz;omega) (by simp);exact ⟨v',w',hr,OutAt.of_own (by simpa using ho),hgr,fun k hk=>by rcases hat with e|e;exact .inl (by rw [<-e];exact hk);right;rw [e] at hk;simp at hk;omega⟩
  ·by_cases hr:zs.length+ls.length<=cap
   ·have hrun:=VQ (P:=prog) w 32 ty 5 i0 underlying32 hi g off zs.length cap cur hg ad ls.length c (ls.map (Value.int .u8)) (by rw [hz1];simp) hn (zQ ls) hr (by rw [hz1];simp;omega);refine ⟨_,_,hrun,.inr ⟨g,off,cap,_,by simp,setRow_heap w g cur _ _ _ hg,by simp;omega,h2,?_,fun i hi=>?_⟩,⟨rfl,rfl,rfl,by simp [World.setRow],fun k _ hk=>setRow_other w g k _ (by intro e;apply hk;rw [e];rfl)⟩,fun k hk=>.inl hk⟩
    ·simp [hz1];omega
    ·have hcl:cur.toList.length=cur.size:=by simp
     simp only [jN] at hi;rw [hz1,Nat.mul_one,qZ,QM];by_cases hlt:i<zs.length
     ·rw [if_pos hlt,jX,qP (by simp;omega),xZ,if_pos (by omega)]
      simpa using h4 i hlt
     ·rw [if_neg hlt,jX,qY (by simp;omega),qP (by simp;omega),qG,xX (by omega),show off+i-(off+zs.length)=i-zs.length by omega,qH,jA,jC (by omega)];rfl
   ·have hold:∀j u,(zs.map (Value.int .u8))[j]?=some u->w.cell? ((⟨g,off,none⟩:Addr).add j)=some u:=by
     intro j u hj;have hj2:j<zs.length:=by have:=(List.getElem?_eq_some_iff.1 hj).1;simpa using this
     rw [Addr.add_lit,cell_of_row w g (off+j) cur _ (0,0) hg,h4 j hj2,<-hj,qH,jA,jC hj2];rfl
    obtain ⟨v',w',hrun,ho,hgr⟩:=run_append_arg_grows (P:=prog) w 32 ty 5 i0 (.int .u8 0) 1 1 underlying32 hi hz0 hz1 hz2 rfl (by decide) ⟨g,off,none⟩ zs.length cap (zs.map (Value.int .u8)) (by simp) hold ad ls.length c (ls.map (Value.int .u8)) (by simp) hn (by omega) (by unfold maxLen;omega) (by omega);refine ⟨v',w',hrun,OutAt.of_own (by rw [qI];exact ho),⟨hgr.os,hgr.tape,hgr.output,hgr.size,fun k hk _=>hgr.block k hk (by simp)⟩,fun k hk=>.inr (World.ownsRow.lt ho k hk).1⟩
theorem OutAt.slice {w:World} {v:Value} {zs:List Int} (h:OutAt w v zs):∃a n c,v=.slice a n c:=by
 rcases h with ⟨h,_⟩|⟨g,off,cap,cur,e,_⟩
 ·exact ⟨_,_,_,h⟩
 ·exact ⟨_,_,_,e⟩
theorem ZR {w:World} {ops:Array Oper} {rest:List Oper} {o:Oper} {a:Act} {Q:Exit->Act->World->Prop} (hgd:o.guard=none) (s x:Operand)
  (ho:o.op=.call {callee:=.builtin .append,args:= #[s,x],argTypes:= #[32,32]})
  (v:Value) (zs ls:List Int) (hs:a.eval s=v) (hO:OutAt w v zs) (sa:Option Addr) (c:Nat) (hx:a.eval x=.slice sa ls.length c) (hl:Row w sa c ls) (hnil:sa=none->c=0) (hsz:zs.length+ls.length<=1000000)
  (h:∀b n k w',OutAt w' (.slice b n k) (zs++ls)->w.grownBy w' v.ownBlock->(∀k',(Value.slice b n k).ownBlock=some k'->v.ownBlock=some k'\/w.heap.size<=k')->wpList prog ops Q rest (a.put o.dst (.slice b n k)) w'):wpList prog ops Q (o::rest) a w:=by
 refine wpList_plain hgd fun K hK'=>?_
 obtain ⟨v',w',hr,h1,h2,h3⟩:=append_out w v zs ls hO sa c hl hnil hsz o.type;obtain ⟨b,n,k,rfl⟩:=h1.slice;unfold Oper.wp;simp [execOp,ho,resolve,invoke,builtin,hs,hx,hr,Result.andThen];exact hK' _ _ (h b n k w' h1 h2 h3)
theorem outed {w w2:World} {p:Nat} {F:Nat->Prop} {D:Dv} {gN gL cN cL:Nat} {vS vO v:Value} {f:Int} {l:List Int} (ok:(outD D l).ok) (hF:∀k,F k->k<w.heap.size) (h:DevC w p gN gL cN cL vS vO f D) (hfo:∀k,foot p gN gL vS vO k->F k)
  (ho:OutAt w2 v (D.out++l)) (hgrow:w.grownBy w2 vO.ownBlock) (hat:∀k,v.ownBlock=some k->vO.ownBlock=some k\/w.heap.size<=k) (hlt:∀k,v.ownBlock=some k->k<w2.heap.size):
  ∃F',Dev (w2.setCell ⟨p,3,none⟩ v) p F' (outD D l)/\Step F F' w (w2.setCell ⟨p,3,none⟩ v):=by
 have s2:=hgrow.size;have hp:p<w.heap.size:=hF p (hfo p (.inl rfl));have hN:gN<w.heap.size:=hF gN (hfo gN (.inr (.inl rfl)));have hL:gL<w.heap.size:=hF gL (hfo gL (.inr (.inr (.inl rfl))));have k2:∀k,k<w.heap.size->vO.ownBlock≠some k->w2.heap[k]?=w.heap[k]?:=fun k hk hne=>hgrow.block k hk (fun e=>hne e.symm)
 have k3:∀k,k≠p->(w2.setCell ⟨p,3,none⟩ v).heap[k]?=w2.heap[k]?:=fun k hk=>Below.heap_setCell w2 ⟨p,3,none⟩ _ k hk
 have nv:∀k,k<w.heap.size->vO.ownBlock≠some k->v.ownBlock≠some k:=fun k hk hne e=>by
  rcases hat k e with e2|e2
  ·exact hne e2
  ·omega
 have hcells:w2.heap[p]?=w.heap[p]?:=k2 p hp h.pO;refine ⟨fun k=>F k\/w.heap.size<=k/\k<w2.heap.size,⟨ok,fun k hk=>?_,gN,gL,cN,cL,vS,v,f,?_,fun k hk=>?_⟩,?_,?_⟩
 ·rw [yP];rcases hk with hk|hk
  ·have:=hF k hk;omega
  ·exact hk.2
 ·refine {h with cells:=?_,now:=?_,sure:=?_,since:=?_,out:=?_,fuse:=h.fuse,pO:=nv p hp h.pO,NO:=nv gN hN h.NO,LO:=nv gL hL h.LO,SO:=fun k hk=>nv k (hF k (hfo k (.inr (.inr (.inr (.inl hk)))))) (h.SO k hk)}
  ·rw [yO w2 p 3 v _ _ _ (hcells.trans h.cells)];rfl
  ·exact h.now.kept ((k3 gN h.pN.symm).trans (k2 gN hN h.NO))
  ·exact h.sure.kept ((k3 gL h.pL.symm).trans (k2 gL hL h.LO))
  ·exact yQ h.since (fun k hk=>(k3 k (fun e=>h.pS (e▸hk))).trans (k2 k (hF k (hfo k (.inr (.inr (.inr (.inl hk)))))) (h.SO k hk)))
  ·exact ho.keep (fun k hk=>k3 k (fun e=>nv p hp h.pO (e▸hk)))
 ·rcases hk with hk|hk|hk|hk|hk
  ·exact .inl (hfo k (.inl hk))
  ·exact .inl (hfo k (.inr (.inl hk)))
  ·exact .inl (hfo k (.inr (.inr (.inl hk))))
  ·exact .inl (hfo k (.inr (.inr (.inr (.inl hk)))))
  ·rcases hat k hk with e|e
   ·exact .inl (hfo k (.inr (.inr (.inr (.inr e)))))
   ·exact .inr ⟨e,hlt k hk⟩
 ·exact ((Ch.refl _ F w).grown hgrow (jB _) (fun k hk=>.inr (hfo k (.inr (.inr (.inr (.inr hk))))))).setCell (p:=⟨p,3,none⟩) (.inr (hfo p (.inl rfl))) _
 ·intro k hk;rcases hk with hk|hk
  ·exact .inl hk
  ·exact .inr hk.1
theorem OutAt.lt {w:World} {v:Value} {zs:List Int} (h:OutAt w v zs) (k:Nat) (hk:v.ownBlock=some k):k<w.heap.size:=by
 rcases h with ⟨rfl,_⟩|⟨g,off,cap,cur,rfl,hg,_⟩
 ·simp [Value.ownBlock] at hk
 ·simp [Value.ownBlock] at hk;subst hk;exact yR hg
theorem gT {w:World} {p:Nat} {F:Nat->Prop} {D:Dv} (h:Dev w p F D) (a:Option Addr) (cap:Nat) (l:List Int) (hr:Row w a cap l) (hnil:a=none->cap=0) (hsz:D.out.length+l.length<=1000000):
  Calls prog 43 #[.pointer (some ⟨p,0,none⟩),.slice a l.length cap] w fun e w'=>e=.returned (.tuple #[])/\∃F',Dev w' p F' (outD D l)/\Step F F' w w':=by
 have hm:=made_any h;have ok':=outD_ok h.1 hr.1;obtain ⟨ok,hF,gN,gL,cN,cL,vS,vO,f,hc,hfo⟩:=h;obtain ⟨_,_,_,c3,_,_,_,z⟩:=hc.at;have z3:=z 3;have hp:p<w.heap.size:=hF p (hfo p (.inl rfl));have hend:=fun (w2:World) (v:Value) ho hgrow hat hlt=>outed (w:=w) (w2:=w2) (v:=v) (l:=l) ok' hF hc hfo ho hgrow hat hlt
 have HE:Hid _:=hend;have HO:Hid (OutAt w vO D.out):=hc.out;have HR:Hid (Row w a cap l):=hr;have hpO:=hc.pO;obtain ⟨b0,n0,k0,hv0⟩:=hc.out.slice;rw [hv0] at HO hpO HE c3;clear hend ok ok' hF hc hfo z hr hv0;go_enter func43,ntmps43
 go_wp2_with (first|(go_at_call 69;refine hm.mono ?_;rintro e w' ⟨rfl,rfl⟩)|(at_builtin;refine ZR rfl (.tmp 10) (.tmp 11) rfl (.slice b0 n0 k0) D.out l rfl HO.out a cap rfl HR.out hnil hsz ?_;intro b n k w2 ho2 hgr2 hat2;have d3:w2.cell? ⟨p,3,none⟩=some (.slice b0 n0 k0):=(World.cell?_of_block (w:=w) (a:=⟨p,3,none⟩) (hgr2.block p hp (fun e=>hpO e.symm))).trans c3;have y3:w2.frozen? ⟨p,3,none⟩=false:=(World.frozen?_of_block (w:=w) (a:=⟨p,3,none⟩) (hgr2.block p hp (fun e=>hpO e.symm))).trans z3;have HX:Hid _:=HE.out w2 (.slice b n k) ho2 hgr2 hat2 ho2.lt;clear ho2 hgr2 hat2))
 go_end0
 exact ⟨rfl,HX.out⟩
end Go.Proofs.YtaijfhadecennaaGreat.Oct
namespace Go.Proofs.YtaijfhadecennaaGreat.Oct
open Go.RowKit
section
variable {w:World} {p d N:Nat} {F:Nat->Prop} {D:Dv} {L:List Fr}
theorem Pool.dev (h:Pool w p d F D N L):∃Fd,Dev w d Fd D/\(∀k,Fd k->F k)/\∀(w':World) (D':Dv) (Fd':Nat->Prop),Dev w' d Fd' D'->D'.n=D.n->Step Fd Fd' w w'->∃F',Pool w' p d F' D' N L/\Step F F' w w':=by
 obtain ⟨Fd,m,e,bs,fr,ol,nw,h,rfl⟩:=h;refine ⟨Fd,h.dev,fun k hk=>(h.fd k hk).1,fun w' D' Fd' h' hn st=>?_⟩;have ht:=h.turn h' hn st;exact ⟨_,⟨Fd',m,e,bs,fr,ol,nw,ht.1,rfl⟩,ht.2⟩
theorem YB (h:Pool w p d F D N L) (hops:D.ops<=4611686018427387904) (hs:D.since.length<=1000000) (pg:Nat) (hpg:pg<D.n) (ad:Option Addr) (cap:Nat) (b:List Int) (hr:Row w ad cap b) (hb:b.length=256):
  Calls prog 96 #[.pointer (some ⟨d,0,none⟩),.int .i64 pg,.slice ad 256 cap] w fun e w'=>e=.returned (.int .i64 (saysD D))/\∃F',Pool w' p d F' (writeD D pg b) N L/\Step F F' w w':=by
 obtain ⟨Fd,h1,_,h2⟩:=h.dev;refine (KV h1 hops hs pg hpg ad cap b hr hb).mono ?_;rintro x w1 ⟨rfl,Fd',h3,st⟩;exact ⟨rfl,h2 w1 _ Fd' h3 (zO ..) st⟩
theorem FQ (h:Pool w p d F D N L) (hops:D.ops<=4611686018427387904):
  Calls prog 97 #[.pointer (some ⟨d,0,none⟩)] w fun e w'=>e=.returned (.int .i64 (saysD D))/\∃F',Pool w' p d F' (syncD D) N L/\Step F F' w w':=by
 obtain ⟨Fd,h1,_,h2⟩:=h.dev;refine (sync_any h1 hops).mono ?_;rintro x w1 ⟨rfl,h3,st⟩;exact ⟨rfl,h2 w1 _ Fd h3 (vF D) (Step.of st)⟩
theorem QC (h:Pool w p d F D N L):Calls prog 48 #[.pointer (some ⟨d,0,none⟩)] w fun e w'=>e=.returned (.int .i64 D.n)/\w=w':=by
 obtain ⟨Fd,h1,_,h2⟩:=h.dev;exact YT h1
end
end Go.Proofs.YtaijfhadecennaaGreat.Oct
