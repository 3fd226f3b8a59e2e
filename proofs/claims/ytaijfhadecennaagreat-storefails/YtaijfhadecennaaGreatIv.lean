/- Part of a proof. -/
import Derived.Test.YtaijfhadecennaaGreatIq
import Derived.Test.YtaijfhadecennaaGreatVd
import Derived.Test.YtaijfhadecennaaGreatR
import Derived.Test.YtaijfhadecennaaGreatRi
import Derived.Deep.Slices
import Derived.ChangeSame
import Derived.ProofKit
namespace Go.Proofs.YtaijfhadecennaaGreat.Oct
open Go.RowKit
theorem GJ {L:List Fr} (hn:(L.map (·.page)).Nodup) {i:Nat} (hi:i<L.length):L.filter (fun g=>decide (g.page≠(L.getD i fr0).page))=L.eraseIdx i:=by
 induction L generalizing i with
 |nil=>simp at hi
 |cons b r ih=>
  simp only [qQ,xK] at hn;cases i with
  |zero=>
   simp only [List.getD_cons_zero,List.filter_cons,ne_eq,not_true_eq_false,decide_false,yC,if_false,List.eraseIdx_cons_zero];exact List.filter_eq_self.2 (fun g hg=>by simp only [jR];exact fun e=>hn.1 (e▸xL hg))
  |succ i=>
   have hi':i<r.length:=by simpa using hi
   have hne:b.page≠(r.getD i fr0).page:=fun e=>hn.1 (by rw [e];exact xL (zW hi'))
   simp only [List.getD_cons_succ,List.filter_cons,ne_eq,hne,not_false_eq_true,decide_true,if_true,List.eraseIdx_cons_succ];rw [<-ih hn.2 hi']
structure Mo (D E:Dv):Prop where
 dead:D.dead=true->E.dead=true
 out:E.out.length<=D.out.length
 fuse:D.fuse= -1->E.fuse= -1/\E.dead=D.dead
def Bad (D E:Dv):Prop:=E.dead=true\/E.out.length<D.out.length
theorem Mo.refl (D:Dv):Mo D D:=⟨fun h=>h,jB _,fun h=>⟨h,rfl⟩⟩
theorem Mo.trans {D E G:Dv} (h:Mo D E) (k:Mo E G):Mo D G:=⟨fun x=>k.dead (h.dead x),jP k.out h.out,fun x=>by
 obtain ⟨a,b⟩:=h.fuse x;obtain ⟨c,d⟩:=k.fuse a;exact ⟨c,d.trans b⟩⟩
theorem Mo.bad {D E G:Dv} (h:Mo D E) (k:Bad E G):Bad D G:=by
 rcases k with k|k
 ·exact .inl k
 ·exact .inr (by have:=h.out;omega)
theorem mo_op {D:Dv}:Mo D (opD D):=⟨fun h=>h,by simp [opD],fun h=>⟨by simp [opD,h],rfl⟩⟩
theorem mo_die {D:Dv} (h:D.fuse=0):Mo D (dieD D):=⟨fun _=>rfl,jB _,fun e=>by omega⟩
theorem mo_wr {D E:Dv} (h:Mo D E) (k:Nat) (b:List Int):Mo D (wrD E k b):=⟨h.dead,h.out,h.fuse⟩
theorem mo_set {D E:Dv} (h:Mo D E):Mo D (setD E):=⟨h.dead,h.out,h.fuse⟩
theorem mo_write (D:Dv) (k:Nat) (b:List Int):Mo D (writeD D k b):=by
 unfold writeD;split
 ·exact .refl D
 ·split
  ·next h=>exact mo_wr (mo_die h) k b
  ·split
   ·exact mo_op
   ·exact mo_wr mo_op k b
theorem gX (D:Dv):Mo D (syncD D):=by
 unfold syncD;split
 ·exact .refl D
 ·split
  ·next h=>exact mo_die h
  ·split
   ·exact mo_op
   ·exact mo_set mo_op
theorem mo_read (D:Dv):Mo D (readD D):=by
 unfold readD;split
 ·exact .refl D
 ·split
  ·next h=>exact mo_die h
  ·exact mo_op
theorem uL {D:Dv} (h:¬oc D=0):(opD D).out.length<D.out.length:=by
 unfold oc at h;cases e:D.out with
 |nil=>rw [e] at h;exact absurd rfl h
 |cons a l=>simp [opD,e]
theorem UF {D:Dv} (h:saysD D≠0) (k:Nat) (b:List Int):Bad D (writeD D k b):=by
 unfold saysD at h;unfold writeD;split
 ·next e=>exact .inl e
 ·next e=>
  rw [if_neg e] at h;split
  ·exact .inl rfl
  ·next e2=>
   rw [if_neg e2] at h;have ho:¬oc D=0:=fun e3=>h (if_pos e3)
   split
   ·exact .inr (uL ho)
   ·exact .inr (uL ho)
theorem bad_sync {D:Dv} (h:saysD D≠0):Bad D (syncD D):=by
 unfold saysD at h;unfold syncD;split
 ·next e=>exact .inl e
 ·next e=>
  rw [if_neg e] at h;split
  ·exact .inl rfl
  ·next e2=>
   rw [if_neg e2] at h;have ho:¬oc D=0:=fun e3=>h (if_pos e3)
   split
   ·exact .inr (uL ho)
   ·exact .inr (uL ho)
theorem bad_read {D:Dv} (h:tellsD D=false):Bad D (readD D):=by
 unfold tellsD at h;unfold readD;split
 ·next e=>exact .inl e
 ·next e=>
  split
  ·exact .inl rfl
  ·next e2=>
   have e3:D.dead=false:=by simpa using e
   rw [e3,jH e2] at h;have ho:oc D=1:=by simpa using h
   exact .inr (uL (by omega))
theorem VN {D:Dv} (h:saysD D=0) (k:Nat) (b:List Int):writeD D k b=wrD (opD D) k b:=by
 unfold saysD at h;unfold writeD;by_cases e:D.dead=true
 ·rw [if_pos e] at h;cases h
 ·rw [if_neg e] at h ⊢;by_cases e2:D.fuse=0
  ·rw [if_pos e2] at h;cases h
  ·rw [if_neg e2] at h ⊢;by_cases e3:oc D=0
   ·rw [if_neg (by omega)]
   ·rw [if_neg e3] at h;cases h
theorem vJ {D:Dv} (h:saysD D=0):syncD D=setD (opD D):=by
 unfold saysD at h;unfold syncD;by_cases e:D.dead=true
 ·rw [if_pos e] at h;cases h
 ·rw [if_neg e] at h ⊢;by_cases e2:D.fuse=0
  ·rw [if_pos e2] at h;cases h
  ·rw [if_neg e2] at h ⊢;by_cases e3:oc D=0
   ·rw [if_neg (by omega)]
   ·rw [if_neg e3] at h;cases h
theorem uZ {D:Dv} (ok:D.ok) {k q:Nat} {b:List Int} (hk:k<D.n) (hq:q<D.n) (hb:b.length=256):
  pageOf (writeD D k b).now q=pageOf D.now q\/(q=k/\pageOf (writeD D k b).now q=b):=by
 have hn:=ok.now
 have key:∀E:Dv,E.now=D.now->pageOf (wrD E k b).now q=pageOf D.now q\/(q=k/\pageOf (wrD E k b).now q=b):=fun E e=>by
  show pageOf (onto E.now k b 15) q=_\/(_/\pageOf (onto E.now k b 15) q=_);rw [e,QI (by omega) (by omega) hb];by_cases h:q=k
  ·exact .inr ⟨h,if_pos h⟩
  ·exact .inl (if_neg h)
 unfold writeD;split
 ·exact .inl rfl
 ·split
  ·exact key _ rfl
  ·split
   ·exact .inl rfl
   ·exact key _ rfl
theorem QT (D:Dv):(readD D).now=D.now:=by
 unfold readD;split
 ·rfl
 ·split<;>rfl
theorem VI (D:Dv):(syncD D).now=D.now:=by
 unfold syncD;split
 ·rfl
 ·split
  ·rfl
  ·split<;>rfl
theorem vF (D:Dv):(syncD D).n=D.n:=by
 unfold syncD;split
 ·rfl
 ·split
  ·rfl
  ·split<;>rfl
theorem sync_ops (D:Dv):(syncD D).ops<=D.ops+1/\(syncD D).since.length<=D.since.length:=by
 unfold syncD;split
 ·exact ⟨by omega,jB _⟩
 ·split
  ·exact ⟨jB _,jB _⟩
  ·split
   ·exact ⟨jB _,jB _⟩
   ·exact ⟨jB _,by simp [setD]⟩
theorem Well.sync {D:Dv} (h:Well D):Well (syncD D):=by
 have m:=gX D;obtain ⟨a,b⟩:=m.fuse h.fuse;exact ⟨b.trans h.dead,a,by have:=m.out;rw [h.out] at this;exact qE (by simpa using this)⟩
theorem Well.mo {D E:Dv} (h:Well D) (m:Mo D E):Well E:=by
 obtain ⟨a,b⟩:=m.fuse h.fuse;exact ⟨b.trans h.dead,a,by have:=m.out;rw [h.out] at this;exact qE (by simpa using this)⟩
theorem Well.not_bad {D E:Dv} (h:Well D) (m:Mo D E):¬Bad D E:=by
 have k:=h.mo m;rintro (x|x)
 ·rw [k.dead] at x;cases x
 ·rw [h.out] at x;exact absurd x (Nat.not_lt_zero _)
def actD (D:Dv) (x:Option (Nat × List Int)):Dv:=match x with
 |none=>readD D
 |some y=>writeD D y.1 y.2
def Acts (Q:Nat->Prop) (c:Nat) (D E:Dv):Prop:=∃l:List (Option (Nat × List Int)),l.length<=c/\(∀y,some y∈l->Q y.1/\y.1<D.n/\y.2.length=256/\Bys y.2)/\E=l.foldl actD D
theorem actD_n (D:Dv) (x:Option (Nat × List Int)):(actD D x).n=D.n:=by
 cases x with
 |none=>exact uA D
 |some y=>exact zO D _ _
theorem foldl_n (l:List (Option (Nat × List Int))):∀D:Dv,(l.foldl actD D).n=D.n:=by
 induction l with
 |nil=>intro D;rfl
 |cons x l ih=>intro D;rw [yI,ih,actD_n]
theorem Acts.refl (Q:Nat->Prop) (D:Dv):Acts Q 0 D D:=⟨[],jB _,fun y hy=>(by cases hy),rfl⟩
theorem Acts.n {Q:Nat->Prop} {c:Nat} {D E:Dv} (h:Acts Q c D E):E.n=D.n:=by
 obtain ⟨l,_,_,rfl⟩:=h;exact foldl_n l D
theorem Acts.trans {Q:Nat->Prop} {c e:Nat} {D E G:Dv} (h:Acts Q c D E) (k:Acts Q e E G):Acts Q (c+e) D G:=by
 have hn:=h.n;obtain ⟨l,a,b,rfl⟩:=h;obtain ⟨m,a',b',rfl⟩:=k;refine ⟨l++m,by rw [jN];omega,fun y hy=>?_,(List.foldl_append ..).symm⟩;rcases List.mem_append.1 hy with hy|hy
 ·exact b y hy
 ·have:=b' y hy;rw [hn] at this;exact this
theorem Acts.mono {Q P:Nat->Prop} {c e:Nat} {D E:Dv} (h:Acts Q c D E) (hq:∀k,Q k->P k) (hc:c<=e):Acts P e D E:=by
 obtain ⟨l,a,b,rfl⟩:=h;exact ⟨l,by omega,fun y hy=>⟨hq _ (b y hy).1,(b y hy).2⟩,rfl⟩
theorem Acts.read {Q:Nat->Prop} (D:Dv):Acts Q 1 D (readD D):=⟨[none],jB _,fun y hy=>by simp at hy,rfl⟩
theorem Acts.write {Q:Nat->Prop} {D:Dv} {k:Nat} {b:List Int} (hq:Q k) (hk:k<D.n) (hb:b.length=256) (hy:Bys b):Acts Q 1 D (writeD D k b):=⟨[some (k,b)],jB _,fun y h=>by
 simp at h;subst h;exact ⟨hq,hk,hb,hy⟩,rfl⟩
theorem Acts.ind {Q:Nat->Prop} {c:Nat} {D E:Dv} (h:Acts Q c D E) {P:Dv->Prop} (h0:P D) (hr:∀G,P G->P (readD G)) (hw:∀(G:Dv) k b,G.n=D.n->Q k->k<D.n->b.length=256->Bys b->P G->P (writeD G k b)):P E:=by
 obtain ⟨l,_,b,rfl⟩:=h
 have key:∀(l:List (Option (Nat × List Int))) (G:Dv),G.n=D.n->P G->(∀y,some y∈l->Q y.1/\y.1<D.n/\y.2.length=256/\Bys y.2)->P (l.foldl actD G):=by
  intro l
  induction l with
  |nil=>intro G _ h _;exact h
  |cons x l ih=>
   intro G hn h hb;rw [yI];refine ih _ (by rw [actD_n,hn]) ?_ (fun y hy=>hb y (jM _ hy));cases x with
   |none=>exact hr G h
   |some y=>
    obtain ⟨a,b,c,d⟩:=hb y (yB ..);exact hw G _ _ hn a b c d h
 exact key l D rfl h0 b
theorem Acts.mo {Q:Nat->Prop} {c:Nat} {D E:Dv} (h:Acts Q c D E):Mo D E:=
 h.ind (P:=Mo D) (.refl D) (fun G h=>h.trans (mo_read G)) (fun G k b _ _ _ _ _ h=>h.trans (mo_write G k b))
theorem Acts.ops {Q:Nat->Prop} {c:Nat} {D E:Dv} (h:Acts Q c D E):E.ops<=D.ops+c/\E.since.length<=D.since.length+c:=by
 obtain ⟨l,a,_,rfl⟩:=h
 have key:∀(l:List (Option (Nat × List Int))) (G:Dv),(l.foldl actD G).ops<=G.ops+l.length/\(l.foldl actD G).since.length<=G.since.length+l.length:=by
  intro l
  induction l with
  |nil=>intro G;exact ⟨jB _,jB _⟩
  |cons x l ih=>
   intro G;rw [yI,qN];have:=ih (actD G x)
   have h2:(actD G x).ops<=G.ops+1/\(actD G x).since.length<=G.since.length+1:=by
    cases x with
    |none=>
     have:=readD_ops G;exact ⟨this.1,by show (readD G).since.length<=_;rw [this.2];omega⟩
    |some y=>exact ZD G _ _
   omega
 have:=key l D;omega
theorem Acts.jv {Q:Nat->Prop} {c:Nat} {D E:Dv} {S:Sp} {pl:Nat} {r:Rp} {T:List (Sp × Rp)} (h:Acts Q c D E) (j:Jv D S pl r T) (hq:∀k,Q k->Apart r T k):Jv E S pl r T:=
 h.ind (P:=fun G=>Jv G S pl r T) j (fun _ h=>h.readD) (fun G k b hn q hk hb hy h=>h.writeD (by rw [hn];exact hk) (hq k q) hb hy)
theorem writeD_ok' {D:Dv} (h:D.ok) {f:Fr} (hp:f.page<D.n) (hf:f.ok):(writeD D f.page f.b).ok:=XF h hp hf.1 hf.2
theorem kG {L:List Fr} (hn:(L.map (·.page)).Nodup) {f g:Fr} (hf:f∈L) (hg:g∈L) (e:f.page=g.page):f=g:=by
 induction L with
 |nil=>simp at hf
 |cons b r ih=>
  simp only [qQ,xK] at hn;rcases List.mem_cons.1 hf with hf1|hf1
  ·rcases List.mem_cons.1 hg with hg1|hg1
   ·rw [hf1,hg1]
   ·exact absurd (List.mem_map.2 ⟨g,hg1,by rw [<-e,hf1]⟩) hn.1
  ·rcases List.mem_cons.1 hg with hg1|hg1
   ·exact absurd (List.mem_map.2 ⟨f,hf1,by rw [e,hg1]⟩) hn.1
   ·exact ih hn.2 hf1 hg1
structure FI (D:Dv) (N:Nat) (L:List Fr):Prop where
 ok:D.ok
 len:L.length<=N
 pins:∀f∈L,f.pins=0
 pg:∀f∈L,f.page<D.n/\f.ok
 nd:(L.map (·.page)).Nodup
 agree:∀f∈L,f.dirty=false->pageOf D.now f.page=f.b
def Tl (D:Dv) (L:List Fr) (k:Nat) (b:List Int):Prop:=(∀f∈L,f.page=k->f.b=b)/\((∀f∈L,f.page=k->f.dirty=false)->pageOf D.now k=b)
def DP (L:List Fr) (k:Nat):Prop:=∃f∈L,f.page=k/\f.dirty=true
theorem FI.nil {D:Dv} (h:D.ok) (N:Nat):FI D N []:=⟨h,jT _,fun _ h=>(by cases h),fun _ h=>(by cases h),List.nodup_nil,fun _ h=>(by cases h)⟩
theorem FI.perm {D:Dv} {N:Nat} {L M:List Fr} (h:FI D N L) (p:M.Perm L):FI D N M:=
 ⟨h.ok,by rw [p.length_eq];exact h.len,fun f hf=>h.pins f (p.mem_iff.1 hf),fun f hf=>h.pg f (p.mem_iff.1 hf),(p.map _).nodup_iff.2 h.nd,fun f hf=>h.agree f (p.mem_iff.1 hf)⟩
theorem Tl.perm {D:Dv} {L M:List Fr} {k:Nat} {b:List Int} (h:Tl D L k b) (p:M.Perm L):Tl D M k b:=
 ⟨fun f hf=>h.1 f (p.mem_iff.1 hf),fun hd=>h.2 (fun f hf=>hd f (p.mem_iff.2 hf))⟩
theorem DP.perm {L M:List Fr} {k:Nat} (h:DP M k) (p:M.Perm L):DP L k:=by
 obtain ⟨f,hf,e⟩:=h;exact ⟨f,p.mem_iff.1 hf,e⟩
theorem FI.now {D E:Dv} {N:Nat} {L:List Fr} (h:FI D N L) (ok:E.ok) (hn:E.n=D.n) (hw:E.now=D.now):FI E N L:=
 ⟨ok,h.len,h.pins,by rw [hn];exact h.pg,h.nd,by rw [hw];exact h.agree⟩
theorem Tl.now {D E:Dv} {L:List Fr} {k:Nat} {b:List Int} (h:Tl D L k b) (hw:E.now=D.now):Tl E L k b:=⟨h.1,by rw [hw];exact h.2⟩
theorem FI.read {D:Dv} {N:Nat} {L:List Fr} (h:FI D N L):FI (readD D) N L:=h.now (readD_ok h.ok) (uA D) (QT D)
theorem FI.sync {D:Dv} {N:Nat} {L:List Fr} (h:FI D N L):FI (syncD D) N L:=h.now (syncD_ok h.ok) (vF D) (VI D)
theorem FI.wrote {D:Dv} {N:Nat} {L:List Fr} (h:FI D N L) {f:Fr} (hf:f∈L) (hd:f.dirty=true):
  FI (writeD D f.page f.b) N L/\(∀k b,k<D.n->Tl D L k b->Tl (writeD D f.page f.b) L k b)/\(saysD D=0->pageOf (writeD D f.page f.b).now f.page=f.b):=by
 obtain ⟨p1,p2⟩:=h.pg f hf;have ok:=writeD_ok' h.ok p1 p2;refine ⟨⟨ok,h.len,h.pins,by rw [zO];exact h.pg,h.nd,fun g hg hgd=>?_⟩,fun k b hk ht=>⟨ht.1,fun hc=>?_⟩,fun hs=>?_⟩
 ·have hgf:g.page≠f.page:=fun e=>by
   have:=kG h.nd hg hf e;rw [this,hd] at hgd;cases hgd
  rcases uZ h.ok (k:=f.page) (q:=g.page) (b:=f.b) p1 (h.pg g hg).1 p2.1 with e|e
  ·exact e.trans (h.agree g hg hgd)
  ·exact absurd e.1 hgf
 ·rcases uZ h.ok (k:=f.page) (q:=k) (b:=f.b) p1 hk p2.1 with e|e
  ·exact e.trans (ht.2 hc)
  ·have:=hc f hf e.1.symm;rw [hd] at this;cases this
 ·rw [VN hs];have hn:=h.ok.now;show pageOf (onto D.now f.page f.b 15) f.page=_;rw [QI (by omega) (by omega) p2.1,if_pos rfl]
theorem zY {L:List Fr} {i:Nat}:∀f∈L.eraseIdx i,f∈L:=fun _ hf=>List.mem_of_mem_eraseIdx hf
theorem ZN {L:List Fr} {i:Nat} (hi:i<L.length) {g:Fr} (hg:g∈L):g∈L.eraseIdx i\/g=L.getD i fr0:=by
 rcases List.mem_append.1 ((ZM L fr0 i hi).mem_iff.2 hg) with h1|h1
 ·exact .inl h1
 ·exact .inr (by simpa using h1)
theorem KA {L:List Fr} (hn:(L.map (·.page)).Nodup) {i:Nat} (hi:i<L.length):∀f∈L.eraseIdx i,f.page≠(L.getD i fr0).page:=fun f hf=>by
 rw [<-GJ hn hi,List.mem_filter] at hf
 simpa using hf.2
theorem FI.erase {D:Dv} {N:Nat} {L:List Fr} (h:FI D N L) (i:Nat):FI D N (L.eraseIdx i):=
 ⟨h.ok,by have:=List.length_eraseIdx_le L i;have:=h.len;omega,fun f hf=>h.pins f (zY f hf),fun f hf=>h.pg f (zY f hf),by rw [YV];exact h.nd.sublist (List.eraseIdx_sublist _ _),fun f hf=>h.agree f (zY f hf)⟩
theorem Tl.erase {D:Dv} {L:List Fr} {i k:Nat} {b:List Int} (hi:i<L.length) (ha:pageOf D.now (L.getD i fr0).page=(L.getD i fr0).b) (h:Tl D L k b):Tl D (L.eraseIdx i) k b:=by
 refine ⟨fun f hf=>h.1 f (zY f hf),fun hc=>?_⟩;by_cases e:(L.getD i fr0).page=k
 ·have:=h.1 _ (zW hi) e;rw [e] at ha;rw [ha,this]
 ·refine h.2 (fun f hf ef=>?_);rcases ZN hi hf with h1|h1
  ·exact hc f h1 ef
  ·rw [h1] at ef;exact absurd ef e
theorem FI.evict {D:Dv} {N:Nat} {L:List Fr} (h:FI D N L) {i:Nat} (hi:i<L.length) {E:Int} {D':Dv} {L':List Fr} (hE:evE D (L.getD i fr0)=E) (hD:evD D (L.getD i fr0)=D') (hL:(if E=0 then L.eraseIdx i else L)=L'):
  FI D' N L'/\(∀k b,k<D.n->Tl D L k b->Tl D' L' k b)/\Acts (DP L) 1 D D'/\(∀g∈L',g∈L)/\(E=0\/(E=7/\Bad D D')):=by
 have hfm:=zW hi;subst hE hD hL;obtain ⟨f,hf⟩:∃f,L.getD i fr0=f:=⟨_,rfl⟩;have hback:=fun g (hg:g∈L)=>ZN hi hg
 rw [hf] at hfm ⊢;by_cases hd:f.dirty=true
 ·have eD:evD D f=writeD D f.page f.b:=by unfold evD;rw [if_pos hd]
  have eE:evE D f=saysD D:=by unfold evE;rw [if_pos hd]
  obtain ⟨p1,p2⟩:=h.pg f hfm;obtain ⟨h1,h2,h3⟩:=h.wrote hfm hd;rw [eD,eE];refine ⟨?_,fun k b hk ht=>?_,Acts.write ⟨f,hfm,rfl,hd⟩ p1 p2.1 p2.2,fun g hg=>?_,?_⟩
  ·split
   ·exact h1.erase i
   ·exact h1
  ·split
   ·next hs=>exact (h2 k b hk ht).erase hi (by rw [hf];exact h3 hs)
   ·exact h2 k b hk ht
  ·split at hg
   ·exact zY g hg
   ·exact hg
  ·by_cases hs:saysD D=0
   ·exact .inl hs
   ·exact .inr ⟨by rcases zL D with e|e;exact absurd e hs;exact e,UF hs _ _⟩
 ·have eD:evD D f=D:=by unfold evD;rw [if_neg hd]
  have eE:evE D f=0:=by unfold evE;rw [if_neg hd]
  rw [eD,eE,if_pos rfl];refine ⟨h.erase i,fun k b _ ht=>ht.erase hi (by rw [hf];exact h.agree f hfm (by simpa using hd)),(Acts.refl _ D).mono (fun _ h=>h) (by omega),fun g hg=>zY g hg,.inl rfl⟩
theorem FI.nu {D:Dv} {N:Nat} {L:List Fr} (h:FI D N L) (hl:0<L.length):nuP L 0=0:=nuP_hit hl (h.pins _ (zW hl))
theorem FI.take {D:Dv} {N:Nat} {L:List Fr} (h:FI D N L) (hN:0<N) {E:Int} {D':Dv} {L':List Fr} (hE:tkE D N L=E) (hD:tkD D N L=D') (hL:tkL D N L=L'):
  FI D' N L'/\(∀k b,k<D.n->Tl D L k b->Tl D' L' k b)/\Acts (DP L) 1 D D'/\(∀g∈L',g∈L)/\(E=0/\L'.length<N\/(E=7/\Bad D D')):=by
 by_cases hl:L.length<N
 ·have e1:tkE D N L=0:=by unfold tkE;rw [if_pos hl]
  have e2:tkD D N L=D:=by unfold tkD;rw [if_pos hl]
  have e3:tkL D N L=L:=by unfold tkL;rw [if_pos hl]
  rw [e1] at hE;rw [e2] at hD;rw [e3] at hL;subst hE hD hL;exact ⟨h,fun k b _ ht=>ht,(Acts.refl _ D).mono (fun _ h=>h) (by omega),fun g hg=>hg,.inl ⟨rfl,hl⟩⟩
 ·have hlen:=h.len;have h0:nuP L 0=0:=h.nu (by omega);have e1:tkE D N L=evE D (L.getD 0 fr0):=by unfold tkE;rw [if_neg hl,h0,if_pos (by omega)]
  have e2:tkD D N L=evD D (L.getD 0 fr0):=by unfold tkD;rw [if_neg hl,h0,if_pos (by omega)]
  have e3:tkL D N L=if evE D (L.getD 0 fr0)=0 then L.eraseIdx 0 else L:=by unfold tkL;rw [if_neg hl,h0,if_pos (by omega)]
  have hi:0<L.length:=by omega
  obtain ⟨a,b,c,d,e⟩:=h.evict hi rfl rfl rfl;rw [<-e1,<-e2,hE,hD] at*;have e3':(if E=0 then L.eraseIdx 0 else L)=L':=by rw [<-hL,e3]
  rw [e3'] at a b d;refine ⟨a,b,c,d,?_⟩;rcases e with e|e
  ·refine .inl ⟨e,?_⟩;rw [<-e3',if_pos e,xF hi];omega
  ·exact .inr e
theorem ZA {L:List Fr} {x:Nat} (hf:fiP L x<L.length):(L.getD (fiP L x) fr0).page=x:=by
 have:=List.findIdx_getElem (w:=hf);simp only [jR] at this;have:=(kZ ⟨_,qB hf,this⟩).2;omega
theorem UW {L:List Fr} {x:Nat} (hf:¬fiP L x<L.length):∀g∈L,g.page≠x:=fun g hg e=>hf (kZ ⟨g,hg,by rw [e]⟩).1
theorem FI.snoc {D:Dv} {N:Nat} {X:List Fr} (h:FI D N X) (hl:X.length<N) {f:Fr} (hne:∀g∈X,g.page≠f.page) (hp:f.pins=0) (hk:f.page<D.n) (hf:f.ok) (ha:f.dirty=false->pageOf D.now f.page=f.b):FI D N (X++[f]):=by
 refine ⟨h.ok,by simp;omega,fun g hg=>?_,fun g hg=>?_,?_,fun g hg hd=>?_⟩
 ·rcases List.mem_append.1 hg with hg|hg
  ·exact h.pins g hg
  ·simp at hg;rw [hg];exact hp
 ·rcases List.mem_append.1 hg with hg|hg
  ·exact h.pg g hg
  ·simp at hg;rw [hg];exact ⟨hk,hf⟩
 ·rw [qI];refine List.nodup_append.2 ⟨h.nd,by simp,fun a ha b' hb'=>?_⟩;simp at hb';subst hb';obtain ⟨g,hg,rfl⟩:=List.mem_map.1 ha;exact hne g hg
 ·rcases List.mem_append.1 hg with hg|hg
  ·exact h.agree g hg hd
  ·simp at hg;rw [hg] at hd ⊢;exact ha hd
theorem Tl.snoc {D:Dv} {X:List Fr} {k:Nat} {b:List Int} (h:Tl D X k b) {f:Fr} (hk:f.page≠k):Tl D (X++[f]) k b:=by
 refine ⟨fun g hg e=>?_,fun hc=>h.2 (fun g hg e=>hc g (qM _ hg) e)⟩;rcases List.mem_append.1 hg with hg|hg
 ·exact h.1 g hg e
 ·simp at hg;rw [hg] at e;exact absurd e hk
theorem Tl.last {D:Dv} {X:List Fr} {f:Fr} (hne:∀g∈X,g.page≠f.page) (ha:f.dirty=false->pageOf D.now f.page=f.b):Tl D (X++[f]) f.page f.b:=by
 refine ⟨fun g hg e=>?_,fun hc=>?_⟩
 ·rcases List.mem_append.1 hg with hg|hg
  ·exact absurd e (hne g hg)
  ·simp at hg;rw [hg]
 ·exact ha (hc f (by simp) rfl)
theorem Tl.eraseO {D:Dv} {L:List Fr} {i k:Nat} {b:List Int} (hi:i<L.length) (hk:(L.getD i fr0).page≠k) (h:Tl D L k b):Tl D (L.eraseIdx i) k b:=
 ⟨fun f hf=>h.1 f (zY f hf),fun hc=>h.2 (fun f hf ef=>by
  rcases ZN hi hf with h1|h1
  ·exact hc f h1 ef
  ·rw [h1] at ef;exact absurd ef hk)⟩
theorem FI.put {D:Dv} {N:Nat} {L:List Fr} (h:FI D N L) (hN:0<N) {x:Nat} (hx:x<D.n) {b:List Int} (hb:b.length=256) (hy:Bys b) {E:Int} {D':Dv} {L':List Fr} (hE:usE D N L x false=E) (hD:usD D N L x false=D') (hL:ptF D N L x b=L'):
  FI D' N L'/\(∀k c,k<D.n->(k≠x\/E≠0)->Tl D L k c->Tl D' L' k c)/\Acts (DP L) 1 D D'/\(∀k,DP L' k->DP L k\/(k=x/\E=0))/\(E=0/\Tl D' L' x b\/(E=7/\Bad D D')):=by
 by_cases hf:fiP L x<L.length
 ·obtain ⟨e1,e2,e3⟩:=FU (D:=D) (N:=N) (rd:=false) hf;have e4:=pt_yes (D:=D) (N:=N) hf b;rw [e1] at hE;rw [e2] at hD;rw [e4] at hL;subst hE hD hL;have hpx:=ZA hf;have hne:=KA h.nd hf;have hfm:=zW hf;obtain ⟨f,hff⟩:∃f,L.getD (fiP L x) fr0=f:=⟨_,rfl⟩;have hlen:=xF hf;have hl2:=h.len;rw [hff] at hpx hne hfm ⊢;obtain ⟨f',hf'⟩:∃f':Fr,({f with b:=b,dirty:=true}:Fr)=f':=⟨_,rfl⟩;have g1:f'.page=x:=by rw [<-hf'];exact hpx
  have g2:f'.pins=0:=by rw [<-hf'];exact h.pins f hfm
  have g3:f'.b=b:=by rw [<-hf']
  have g4:f'.dirty=true:=by rw [<-hf']
  have g5:∀g∈L.eraseIdx (fiP L x),g.page≠f'.page:=fun g hg e=>hne g hg (by rw [e,g1,hpx])
  rw [hf'];refine ⟨(h.erase _).snoc (by omega) g5 g2 (by rw [g1];exact hx) ⟨by rw [g3];exact hb,by rw [g3];exact hy⟩ (fun e=>by rw [g4] at e;cases e),fun k c hk hkx ht=>?_,(Acts.refl _ D).mono (fun _ h=>h) (by omega),fun k hk=>?_,.inl ⟨rfl,?_⟩⟩
  ·rcases hkx with hkx|hkx
   ·exact (ht.eraseO hf (by rw [hff,hpx];exact fun e=>hkx e.symm)).snoc (by rw [g1];exact fun e=>hkx e.symm)
   ·exact absurd rfl hkx
  ·obtain ⟨g,hg,e,d⟩:=hk;rcases List.mem_append.1 hg with hg|hg
   ·exact .inl ⟨g,zY g hg,e,d⟩
   ·simp at hg;rw [hg] at e;exact .inr ⟨e.symm.trans g1,rfl⟩
  ·have:=Tl.last (D:=D) g5 (fun e=>by rw [g4] at e;cases e);rw [g1,g3] at this;exact this
 ·have hnn:=UW hf;obtain ⟨t1,t2,t3,t4,t5⟩:=h.take hN rfl rfl rfl;have htn:=t3.n
  have eE:usE D N L x false=tkE D N L:=by
   unfold usE;rw [if_neg hf];by_cases e0:tkE D N L=0
   ·rw [if_pos e0,if_neg (by simp),e0]
   ·rw [if_neg e0]
  have eD:usD D N L x false=tkD D N L:=by
   unfold usD;rw [if_neg hf];by_cases e0:tkE D N L=0
   ·rw [if_pos e0];rfl
   ·rw [if_neg e0]
  rw [eE] at hE;rw [eD] at hD;rw [hE] at t5;rw [hD] at t1 t2 t3 t5 htn;rcases t5 with ⟨e0,hl⟩|⟨e0,hbad⟩
  ·have hu0:usE D N L x false=0:=by rw [eE,hE];exact e0
   have eL:L'=tkL D N L++[⟨x,b,true,0⟩]:=by
    rw [<-hL];unfold ptF;rw [if_pos hu0];have:usL D N L x false=tkL D N L++[⟨x,fst0 (tkD D N L) x false,false,0⟩]:=by unfold usL;rw [if_neg hf,if_pos hu0]
    rw [this,QK]
   rw [eL];have hne:∀g∈tkL D N L,g.page≠x:=fun g hg=>hnn g (t4 g hg)
   refine ⟨t1.snoc hl (f:=⟨x,b,true,0⟩) hne rfl (by rw [htn];exact hx) ⟨hb,hy⟩ (fun e=>by cases e),fun k c hk hkx ht=>?_,t3,fun k hk=>?_,.inl ⟨e0,?_⟩⟩
   ·rcases hkx with hkx|hkx
    ·exact (t2 k c hk ht).snoc (f:=⟨x,b,true,0⟩) (fun e=>hkx e.symm)
    ·exact absurd e0 hkx
   ·obtain ⟨g,hg,e,d⟩:=hk;rcases List.mem_append.1 hg with hg|hg
    ·exact .inl ⟨g,t4 g hg,e,d⟩
    ·simp at hg;rw [hg] at e;exact .inr ⟨e.symm,e0⟩
   ·exact Tl.last (D:=D') (X:=tkL D N L) (f:=⟨x,b,true,0⟩) hne (fun e=>by cases e)
  ·have hu0:¬usE D N L x false=0:=by rw [eE,hE,e0];decide
   have eL:L'=tkL D N L:=by
    rw [<-hL];unfold ptF;rw [if_neg hu0];unfold usL;rw [if_neg hf,if_neg hu0]
   rw [eL];refine ⟨t1,fun k c hk _ ht=>t2 k c hk ht,t3,fun k hk=>?_,.inr ⟨e0,hbad⟩⟩;obtain ⟨g,hg,e,d⟩:=hk;exact .inl ⟨g,t4 g hg,e,d⟩
theorem FI.pin {D:Dv} {N:Nat} {L:List Fr} (h:FI D N L) (hN:0<N) {x:Nat} (hx:x<D.n) {E:Int} {D':Dv} {L':List Fr} (hE:usE D N L x true=E) (hD:usD D N L x true=D') (hL:usL D N L x true=L'):
  FI D' N L'/\(∀k c,k<D.n->Tl D L k c->Tl D' L' k c)/\Acts (DP L) 2 D D'/\(∀k,DP L' k->DP L k)/\(E=0/\(∃X f,L'=X++[f]/\f.page=x/\(∀g∈X,g.page≠x)/\∀b,Tl D L x b->f.b=b)\/(E=7/\Bad D D')):=by
 by_cases hf:fiP L x<L.length
 ·obtain ⟨e1,e2,e3⟩:=FU (D:=D) (N:=N) (rd:=true) hf;rw [e1] at hE;rw [e2] at hD;rw [e3] at hL;subst hE hD hL;have hp:=ZM L fr0 _ hf;exact ⟨h.perm hp,fun k c _ ht=>ht.perm hp,(Acts.refl _ D).mono (fun _ h=>h) (by omega),fun k hk=>hk.perm hp,.inl ⟨rfl,_,_,rfl,ZA hf,by have:=KA h.nd hf;rw [ZA hf] at this;exact this,fun b hb=>hb.1 _ (zW hf) (ZA hf)⟩⟩
 ·have hnn:=UW hf;obtain ⟨t1,t2,t3,t4,t5⟩:=h.take hN rfl rfl rfl;have htn:=t3.n
  have hdp:∀{M:List Fr},(∀g∈M,g∈L\/g.dirty=false)->∀k,DP M k->DP L k:=fun hM k hk=>by
   obtain ⟨g,hg,e,d⟩:=hk;rcases hM g hg with h1|h1
   ·exact ⟨g,h1,e,d⟩
   ·rw [h1] at d;cases d
  by_cases e0:tkE D N L=0
  ·by_cases ht:tellsD (tkD D N L)=false
   ·have eE:usE D N L x true=7:=by unfold usE;rw [if_neg hf,if_pos e0,if_pos ⟨rfl,ht⟩]
    have eD:usD D N L x true=readD (tkD D N L):=by unfold usD;rw [if_neg hf,if_pos e0,if_pos rfl]
    have eL:usL D N L x true=tkL D N L:=by unfold usL;rw [if_neg hf,eE,if_neg (by decide)]
    rw [eE] at hE;rw [eD] at hD;rw [eL] at hL;subst hE hD hL;exact ⟨t1.read,fun k c hk h=>(t2 k c hk h).now (QT _),t3.trans (.read _),hdp (fun g hg=>.inl (t4 g hg)),.inr ⟨rfl,t3.mo.bad (bad_read ht)⟩⟩
   ·have eE:usE D N L x true=0:=by unfold usE;rw [if_neg hf,if_pos e0,if_neg (fun h=>ht h.2)]
    have eD:usD D N L x true=readD (tkD D N L):=by unfold usD;rw [if_neg hf,if_pos e0,if_pos rfl]
    have eL:usL D N L x true=tkL D N L++[⟨x,pageOf (tkD D N L).now x,false,0⟩]:=by
     unfold usL;rw [if_neg hf,if_pos eE];rfl
    rw [eE] at hE;rw [eD] at hD;rw [eL] at hL;subst hE hD hL;have hne:∀g∈tkL D N L,g.page≠x:=fun g hg=>hnn g (t4 g hg)
    have hl:(tkL D N L).length<N:=by
     rcases t5 with t5|t5
     ·exact t5.2
     ·rw [e0] at t5;cases t5.1
    have hxn:x<(tkD D N L).n:=by rw [htn];exact hx
    refine ⟨t1.read.snoc hl (f:=⟨x,pageOf (tkD D N L).now x,false,0⟩) hne rfl (by rw [uA];exact hxn) ⟨pgLen t1.ok hxn,pgBys t1.ok x⟩ (fun _=>by rw [QT]),fun k c hk h=>?_,t3.trans (.read _),hdp (fun g hg=>?_),.inl ⟨rfl,_,_,rfl,rfl,hne,fun b hb=>?_⟩⟩
    ·have h2:=(t2 k c hk h).now (QT (tkD D N L));by_cases hkx:k=x
     ·subst hkx;have h3:=h2.2 (fun g hg e=>absurd e (hne g hg));have:=Tl.last (D:=readD (tkD D N L)) (X:=tkL D N L) (f:=⟨k,pageOf (tkD D N L).now k,false,0⟩) hne (fun _=>by rw [QT]);rw [QT] at h3;rw [<-h3];exact this
     ·exact h2.snoc (f:=⟨x,pageOf (tkD D N L).now x,false,0⟩) (fun e=>hkx e.symm)
    ·rcases List.mem_append.1 hg with hg|hg
     ·exact .inl (t4 g hg)
     ·simp at hg;rw [hg];exact .inr rfl
    ·exact (t2 x b hx hb).2 (fun g hg e=>absurd e (hne g hg))
  ·have e7:tkE D N L=7:=by
    rcases t5 with t5|t5
    ·exact absurd t5.1 e0
    ·exact t5.1
   have eE:usE D N L x true=7:=by unfold usE;rw [if_neg hf,if_neg e0,e7]
   have eD:usD D N L x true=tkD D N L:=by unfold usD;rw [if_neg hf,if_neg e0]
   have eL:usL D N L x true=tkL D N L:=by unfold usL;rw [if_neg hf,eE,if_neg (by decide)]
   rw [eE] at hE;rw [eD] at hD;rw [eL] at hL;subst hE hD hL;refine ⟨t1,t2,t3.mono (fun _ h=>h) (by omega),hdp (fun g hg=>.inl (t4 g hg)),.inr ⟨rfl,?_⟩⟩;rcases t5 with t5|t5
   ·exact absurd t5.1 e0
   ·exact t5.2
theorem FI.forget {D:Dv} {N:Nat} {L:List Fr} (h:FI D N L) (x:Nat) {L':List Fr} (hL:fgL L x=L'):FI D N L'/\(∀k c,k≠x->Tl D L k c->Tl D L' k c)/\(∀k,DP L' k->DP L k/\k≠x)/\(∀g∈L',g∈L/\g.page≠x):=by
 by_cases hf:fiP L x<L.length
 ·have hp:=h.pins _ (zW hf)
  have e:fgL L x=L.eraseIdx (fiP L x):=by
   unfold fgL fgB;rw [jE hf,jE hp,xP,if_pos rfl]
  rw [e] at hL;subst hL;have hne:=KA h.nd hf;rw [ZA hf] at hne
  exact ⟨h.erase _,fun k c hk ht=>ht.eraseO hf (by rw [ZA hf];exact fun e=>hk e.symm),fun k hk=>by
   obtain ⟨g,hg,e,d⟩:=hk;exact ⟨⟨g,zY g hg,e,d⟩,fun e2=>hne g hg (e.trans e2)⟩,fun g hg=>⟨zY g hg,hne g hg⟩⟩
 ·have e:fgL L x=L:=by
   unfold fgL fgB;rw [jH hf,Bool.false_and,if_neg (by simp)]
  rw [e] at hL;subst hL
  exact ⟨h,fun k c _ ht=>ht,fun k hk=>⟨hk,fun e2=>by
   obtain ⟨g,hg,e,_⟩:=hk;exact UW hf g hg (e.trans e2)⟩,fun g hg=>⟨hg,UW hf g hg⟩⟩
theorem FI.past {D:Dv} {N:Nat} {L:List Fr} (h:FI D N L) {x:Nat} (hx:x<D.n) (hne:∀g∈L,g.page≠x) {b:List Int} (hb:b.length=256) (hy:Bys b):
  FI (writeD D x b) N L/\(∀k c,k<D.n->k≠x->Tl D L k c->Tl (writeD D x b) L k c):=by
 have same:∀k,k<D.n->k≠x->pageOf (writeD D x b).now k=pageOf D.now k:=fun k hk hkx=>by
  rcases uZ h.ok (k:=x) (q:=k) (b:=b) hx hk hb with e|e
  ·exact e
  ·exact absurd e.1 hkx
 exact ⟨⟨XF h.ok hx hb hy,h.len,h.pins,by rw [zO];exact h.pg,h.nd,fun f hf hd=>by rw [same _ (h.pg f hf).1 (hne f hf)];exact h.agree f hf hd⟩,fun k c hk hkx ht=>⟨ht.1,fun hc=>by rw [same k hk hkx];exact ht.2 hc⟩⟩
end Go.Proofs.YtaijfhadecennaaGreat.Oct
