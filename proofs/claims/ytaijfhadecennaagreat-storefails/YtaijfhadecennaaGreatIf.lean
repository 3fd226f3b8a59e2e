/- Part of a proof. -/
import Derived.Test.YtaijfhadecennaaGreatIb
import Derived.Deep.LoopGhost
import Derived.LaidEqlPtr
import Derived.Lib.Builder
open Go.Proofs.Tryz
set_option maxHeartbeats 4000000
namespace Go.Proofs.YtaijfhadecennaaGreat.Oct
open Go.RowKit
def evE (D:Dv) (f:Fr):Int:=if f.dirty=true then saysD D else 0
def evD (D:Dv) (f:Fr):Dv:=if f.dirty=true then writeD D f.page f.b else D
theorem zO (D:Dv) (pg:Nat) (b:List Int):(writeD D pg b).n=D.n:=by
 unfold writeD;split
 ·rfl
 ·split
  ·rfl
  ·split<;>rfl
theorem evD_n (D:Dv) (f:Fr):(evD D f).n=D.n:=by
 unfold evD;split
 ·exact zO ..
 ·rfl
theorem zL (D:Dv):saysD D=0\/saysD D=7:=by
 unfold saysD;split
 ·exact .inr rfl
 ·split
  ·exact .inr rfl
  ·split
   ·exact .inl rfl
   ·exact .inr rfl
theorem Step.undrew {F F':Nat->Prop} {w w1:World} (h:Step F F' w.drew w1):Step F F' w w1:=⟨⟨h.1.os,h.1.tape,h.1.output,h.1.size,h.1.block⟩,h.2⟩
theorem Ch.undrew {B:Nat} {F:Nat->Prop} {w w1:World} (h:Ch B F w.drew w1):Ch B F w w1:=⟨h.os,h.tape,h.output,h.size,h.block⟩
section
variable {w:World} {p d m e N:Nat} {Fd F:Nat->Prop} {D:Dv} {bs:List Nat} {fr:Nat->Fr} {ol nw:Nat->Nat}
theorem PD.mem {w':World} (h:PD w p d m e N Fd F D bs fr ol nw) (k:Mem w w'):PD w' p d m e N Fd F D bs fr ol nw:=h.keep (by rw [k.1];exact jB _) (fun g _=>k.heap g)
theorem PD.setN {w':World} (h:PD w p d m e N Fd F D bs fr ol nw) {g:Nat} (hg:g∈bs) (f:Fr) (hn:Node w' g f (ol g) (nw g)) (hk:∀k,k≠g->w'.heap[k]?=w.heap[k]?) (hs:w'.heap.size=w.heap.size) (hok:f.ok) (hpg:f.page=(fr g).page):
  PD w' p d m e N Fd F D bs (upF fr g f) ol nw:=by
 obtain ⟨a1,a2,a3,a4,a5,a6⟩:=h.pool.apart;have hg':g∈e::bs:=jM _ hg;refine ⟨h.dev.keep (xS hs.symm) (fun k hk'=>hk k (fun e1=>(h.fd k hk').2 (.inr (.inr (e1▸hg'))))),?_,h.fd,h.fp,fun k hk'=>by rw [hs];exact h.flt k hk'⟩;refine h.pool.re (hk p (fun e1=>a2 (e1▸hg'))) (hk m (fun e1=>a3 (e1▸hg'))) (fun x hx=>?_) (fun x hx=>?_) (fun x=>?_)
 ·by_cases e1:x=g
  ·subst e1;rw [yV];exact hn
  ·rw [yT _ _ e1];exact (h.pool.node x hx).keep (hk x e1)
 ·by_cases e1:x=g
  ·subst e1;rw [yV];exact hok
  ·rw [yT _ _ e1];exact h.pool.ok x hx
 ·by_cases e1:x=g
  ·subst e1;rw [yV];exact hpg
  ·rw [yT _ _ e1]
theorem PD.setDirty (h:PD w p d m e N Fd F D bs fr ol nw) {g:Nat} (hg:g∈bs) (x:Bool):PD (w.setCell ⟨g,257,none⟩ (.bool x)) p d m e N Fd F D bs (upF fr g {fr g with dirty:=x}) ol nw:=by
 have hg':g∈e::bs:=jM _ hg;refine h.setN hg _ ?_ (fun k hk=>Below.heap_setCell w ⟨g,257,none⟩ _ k hk) (yP _ _ _) (h.pool.ok g hg') rfl;have:=(h.pool.node g hg').set 257 (.bool x);rw [set_dirty (h.pool.ok g hg')] at this;exact this
theorem PD.setPins (h:PD w p d m e N Fd F D bs fr ol nw) {g:Nat} (hg:g∈bs) (x:Nat):PD (w.setCell ⟨g,258,none⟩ (.int .i64 x)) p d m e N Fd F D bs (upF fr g {fr g with pins:=x}) ol nw:=by
 have hg':g∈e::bs:=jM _ hg;refine h.setN hg _ ?_ (fun k hk=>Below.heap_setCell w ⟨g,258,none⟩ _ k hk) (yP _ _ _) (h.pool.ok g hg') rfl;have:=(h.pool.node g hg').set 258 (.int .i64 x);rw [set_pins (h.pool.ok g hg')] at this;exact this
def clF (s:Int) (fr:Nat->Fr) (g:Nat):Nat->Fr:=if s=0 then upF fr g {fr g with dirty:=false} else fr
set_option maxRecDepth 20000 in
theorem FJ (h:PD w p d m e N Fd F D bs fr ol nw) (hops:D.ops<=4611686018427387904) (hs:D.since.length<=1000000) (g:Nat) (hg:g∈bs):
  Calls prog 169 #[.pointer (some ⟨p,0,none⟩),.pointer (some ⟨g,0,none⟩)] w fun x w'=>CEnd (saysD D) x/\∃Fd' F',PD w' p d m e N Fd' F' (writeD D (fr g).page (fr g).b) bs (clF (saysD D) fr g) ol nw/\Step F F' w w':=by
 have hg':g∈e::bs:=jM _ hg;obtain ⟨c0,c1,c2,c3⟩:=h.pool.at;obtain ⟨g0,_,_,_,_,gz⟩:=(h.pool.node _ hg').at (h.pool.ok _ hg');have hok:=h.pool.ok _ hg';have hd:=h.mem (Mem.drew w);have hwr:=KV hd.dev hops hs (fr g).page (h.pool.pg g hg) (some ⟨g,1,none⟩) 256 (fr g).b ((hd.pool.node _ hg').row hok) hok.1
 have hend:∀(w1:World) Fd',Dev w1 d Fd' (writeD D (fr g).page (fr g).b)->Step Fd Fd' w.drew w1->∃F',PD w1 p d m e N Fd' F' (writeD D (fr g).page (fr g).b) bs fr ol nw/\Step F F' w w1:=fun w1 Fd' h1 h2=>by
  obtain ⟨t1,t2⟩:=hd.turn h1 (zO ..) h2;exact ⟨_,t1,t2.undrew⟩
 have HE:Hid (∀(w1:World) Fd',Dev w1 d Fd' (writeD D (fr g).page (fr g).b)->Step Fd Fd' w.drew w1->∃F',PD w1 p d m e N Fd' F' (writeD D (fr g).page (fr g).b) bs fr ol nw/\Step F F' w w1):=hend;obtain ⟨P,hP⟩:∃P,(fr g).page=P:=⟨_,rfl⟩;rw [hP] at hwr g0;have HP:Hid ((fr g).page=P):=hP;have HG:Hid (g∈bs):=hg;have hck:=check_ok;have hcn:=check_no 7 (by decide);clear h hd hend hP gz hok c1 c2 c3 hg hg';rcases zL D with s0|s0
 ·rw [s0] at hwr ⊢;go_enter func169,ntmps169
  go_wp2_with fail
  go_still_tail 12,(by kernel_rfl)
  go_wp2_with fail
  refine hwr.mono ?_;clear hwr;rintro x w1 ⟨rfl,Fd',h1,h2⟩;rw [<-HP.out] at h1;obtain ⟨F',h3,h4⟩:=HE.out w1 Fd' h1 h2;obtain ⟨_,e1,_,_,_,ez⟩:=(h3.pool.node _ (jM _ HG.out)).at (h3.pool.ok _ (jM _ HG.out));have e2:=ez 257;have H5:Hid (PD (w1.setCell ⟨g,257,none⟩ (.bool false)) p d m e N Fd' F' (writeD D (fr g).page (fr g).b) bs (clF 0 fr g) ol nw):=h3.setDirty HG.out false
  have H6:Hid (Step F F' w (w1.setCell ⟨g,257,none⟩ (.bool false))):=⟨h4.1.trans ((Ch.refl _ F w1).setCell (p:=⟨g,257,none⟩) (by
   by_cases hl:g<w.heap.size
   ·rcases h4.2 g (h3.fp g (.inr (.inr (jM _ HG.out)))) with e3|e3
    ·exact .inr e3
    ·omega
   ·exact .inl (by show w.heap.size<=g;omega)) _),h4.2⟩
  obtain ⟨bd,hbd⟩:∃bd,(fr g).dirty=bd:=⟨_,rfl⟩;rw [hbd] at e1;clear h1 h2 h3 h4 ez hbd;go_wp2_with (go_at_call 172;refine (hck _).mono ?_;rintro x w2 ⟨rfl,rfl⟩)
  go_end0
  exact ⟨.inl ⟨rfl,rfl⟩,Fd',F',H5.out,H6.out⟩
 ·rw [s0] at hwr ⊢;go_enter func169,ntmps169
  go_wp2_with fail
  go_still_tail 12,(by kernel_rfl)
  go_wp2_with fail
  refine hwr.mono ?_;clear hwr;rintro x w1 ⟨rfl,Fd',h1,h2⟩;rw [<-HP.out] at h1;obtain ⟨F',h3,h4⟩:=HE.out w1 Fd' h1 h2;have H5:Hid (PD w1 p d m e N Fd' F' (writeD D (fr g).page (fr g).b) bs (clF 7 fr g) ol nw):=h3;have H6:Hid (Step F F' w w1):=h4;clear h1 h2 h3 h4;go_wp2_with (go_at_call 172;refine (hcn _).mono ?_;rintro x w2 ⟨rfl,rfl⟩;unfold thrown)
  exact ⟨rfl,.inr ⟨by decide,rfl⟩,Fd',F',H5.out,H6.out⟩
theorem fQ (hn:bs.Nodup) {i:Nat} (hi:i<bs.length):bs.getD i e∉bs.eraseIdx i:=by
 intro hm;rw [jA,jC hi,qJ] at hm;obtain ⟨j,hj,he⟩:=xV hm;rw [List.getElem_eraseIdx] at he;have hp:=List.pairwise_iff_getElem.1 hn;have hl:(bs.eraseIdx i).length=bs.length-1:=xF hi;split at he
 ·rename_i h1;exact hp j i _ _ h1 he
 ·rename_i h1;exact hp i (j+1) _ _ (by omega) he.symm
def evB (s:Int) (bs:List Nat) (i:Nat):List Nat:=if s=0 then bs.eraseIdx i else bs
theorem FA (h:PD w p d m e N Fd F D bs fr ol nw) (hops:D.ops<=4611686018427387904) (hs:D.since.length<=1000000) (i:Nat) (hi:i<bs.length):
  Calls prog 122 #[.pointer (some ⟨p,0,none⟩),.pointer (some ⟨bs.getD i e,0,none⟩)] w fun x w'=>CEnd (evE D (fr (bs.getD i e))) x/\∃Fd' F' fr' ol' nw',PD w' p d m e N Fd' F' (evD D (fr (bs.getD i e))) (evB (evE D (fr (bs.getD i e))) bs i) fr' ol' nw'/\Step F F' w w'/\∀x∈evB (evE D (fr (bs.getD i e))) bs i,fr' x=fr x:=by
 have hg:bs.getD i e∈bs:=zS hi;have hg':bs.getD i e∈e::bs:=jM _ hg;obtain ⟨_,g1,_,_,_,_⟩:=(h.pool.node _ hg').at (h.pool.ok _ hg');have hnd:=h.pool.apart.2.2.2.2.2;have hcl:=FJ h hops hs _ hg;have hlv:∀(w1:World) (Fd1 F1:Nat->Prop) (D1:Dv) (fr1:Nat->Fr),PD w1 p d m e N Fd1 F1 D1 bs fr1 ol nw->Calls prog 170 #[.pointer (some ⟨p,0,none⟩),.pointer (some ⟨bs.getD i e,0,none⟩)] w1 fun x w'=>x=.returned (.tuple #[])/\(∃ol' nw',PD w' p d m e N Fd1 F1 D1 (bs.eraseIdx i) fr1 ol' nw')/\Ch w1.heap.size F1 w1 w':=fun w1 Fd1 F1 D1 fr1 h1=>fV h1 i hi
 have hne:=fQ (e:=e) hnd hi;obtain ⟨g,hge⟩:∃g,bs.getD i e=g:=⟨_,rfl⟩;rw [hge] at hcl hlv g1 hne ⊢;obtain ⟨f,hf⟩:∃f,fr g=f:=⟨_,rfl⟩;have Hcl:Hid (Calls prog 169 #[.pointer (some ⟨p,0,none⟩),.pointer (some ⟨g,0,none⟩)] w fun x w'=>CEnd (saysD D) x/\∃Fd' F',PD w' p d m e N Fd' F' (writeD D f.page f.b) bs (clF (saysD D) fr g) ol nw/\Step F F' w w'):=by rw [<-hf];exact hcl
 have Hlv:Hid (∀(w1:World) (Fd1 F1:Nat->Prop) (D1:Dv) (fr1:Nat->Fr),PD w1 p d m e N Fd1 F1 D1 bs fr1 ol nw->Calls prog 170 #[.pointer (some ⟨p,0,none⟩),.pointer (some ⟨g,0,none⟩)] w1 fun x w'=>x=.returned (.tuple #[])/\(∃ol' nw',PD w' p d m e N Fd1 F1 D1 (bs.eraseIdx i) fr1 ol' nw')/\Ch w1.heap.size F1 w1 w'):=hlv;have HP:Hid (PD w p d m e N Fd F D bs fr ol nw):=h;have HF:Hid (fr g=f):=hf;rw [hf] at g1 ⊢;clear hcl hlv hf hge hg hg' h hnd hi;cases hd:f.dirty with
 |true=>
  rw [hd] at g1;have e1:evE D f=saysD D:=by simp [evE,hd]
  have e2:evD D f=writeD D f.page f.b:=by simp [evD,hd]
  rw [e1,e2];clear e1 e2 hd;rcases zL D with s0|s0
  ·rw [s0];rw [s0] at Hcl;go_enter func122,ntmps122
   go_wp2_with fail
   refine Hcl.out.mono ?_;clear Hcl;rintro x w1 ⟨hx,Fd',F',h1,h2⟩
   obtain rfl:x=.returned (.tuple #[]):=by
    rcases hx with hx|hx
    ·exact hx.2
    ·exact absurd rfl hx.1
   have hl1:=Hlv.out w1 Fd' F' _ _ h1;have H1:Hid (PD w1 p d m e N Fd' F' (writeD D f.page f.b) bs (clF 0 fr g) ol nw):=h1;have H2:Hid (Step F F' w w1):=h2;clear h1 h2 hx Hlv;go_wp2_with (go_at_call 170;refine hl1.mono ?_;rintro x w2 ⟨rfl,hp2,hc2⟩)
   go_end0
   obtain ⟨ol',nw',hp2⟩:=hp2;refine ⟨.inl ⟨rfl,rfl⟩,Fd',F',clF 0 fr g,ol',nw',hp2,⟨?_,H2.out.2⟩,fun x hx=>?_⟩
   ·exact H2.out.1.trans (hc2.mono H2.out.1.size (fun k hk h3=>by
     rcases H2.out.2 k h3 with e3|e3
     ·exact e3
     ·omega))
   ·show upF fr g _ x=_;have hxg:x≠g:=fun e3=>hne (by rw [<-e3];exact hx)
    rw [yT _ _ hxg]
  ·rw [s0];rw [s0] at Hcl;go_enter func122,ntmps122
   go_wp2_with fail
   refine Hcl.out.mono ?_;clear Hcl;rintro x w1 ⟨hx,Fd',F',h1,h2⟩
   obtain rfl:x=thrown 7:=by
    rcases hx with hx|hx
    ·exact absurd hx.1 (by decide)
    ·exact hx.2
   have H1:Hid (PD w1 p d m e N Fd' F' (writeD D f.page f.b) bs (clF 7 fr g) ol nw):=h1;have H2:Hid (Step F F' w w1):=h2;clear h1 h2 hx Hlv;unfold thrown;go_wp2;exact ⟨rfl,.inr ⟨by decide,rfl⟩,Fd',F',fr,ol,nw,H1.out,H2.out,fun _ _=>rfl⟩
 |false=>
  rw [hd] at g1;have e1:evE D f=0:=by simp [evE,hd]
  have e2:evD D f=D:=by simp [evD,hd]
  rw [e1,e2];clear e1 e2 hd Hcl;have hl1:=Hlv.out w Fd F _ _ HP.out;clear Hlv;go_enter func122,ntmps122
  go_wp2_with (go_at_call 170;refine hl1.mono ?_;rintro x w2 ⟨rfl,hp2,hc2⟩)
  go_end0
  obtain ⟨ol',nw',hp2⟩:=hp2;exact ⟨.inl ⟨rfl,rfl⟩,Fd,F,fr,ol',nw',hp2,⟨hc2,fun _ h=>.inl h⟩,fun _ _=>rfl⟩
end
def nuP (L:List Fr) (j:Nat):Nat:=j+(L.drop j).findIdx (fun f=>decide (f.pins=0))
theorem nuP_hit {L:List Fr} {j:Nat} (hj:j<L.length) (h:(L.getD j fr0).pins=0):nuP L j=j:=by
 unfold nuP;rw [xY hj,List.findIdx_cons];rw [jA,jC hj,qJ] at h;simp [h]
theorem nuP_skip {L:List Fr} {j:Nat} (hj:j<L.length) (h:(L.getD j fr0).pins≠0):nuP L j=nuP L (j+1):=by
 unfold nuP;rw [xY hj,List.findIdx_cons];rw [jA,jC hj,qJ] at h;simp [h];omega
theorem nuP_end (L:List Fr):nuP L L.length=L.length:=by simp [nuP]
theorem infF:(prog.info? 118).map (·.size)=some 261:=by kernel_rfl
theorem infoF:∃j,prog.info? 118=some j/\j.size≠0:=by
 have h:=infF;cases hi:prog.info? 118 with
 |none=>rw [hi] at h;simp at h
 |some j=>rw [hi] at h;simp at h;exact ⟨j,rfl,by omega⟩
theorem neq_same (w:World) (a:Addr):(binOp .neq 116 (.pointer (some a)) (.pointer (some a))).run prog w=.ok (.bool false) w:=by
 obtain ⟨j,hj,_⟩:=infoF;exact Lib.run_neq_ptr_same w a underlying116 hj
theorem neq_other (w:World) {a b:Addr} {ca cb:Array Value} {ta tb:TypeId} (hne:a≠b) (ha:w.heap[a.block]?=some (.cells ca ta (0,0))) (hb:w.heap[b.block]?=some (.cells cb tb (0,0))):
  (binOp .neq 116 (.pointer (some a)) (.pointer (some b))).run prog w=.ok (.bool true) w:=by
 obtain ⟨j,hj,hsz⟩:=infoF
 have h:∀d:Nat,(Op.equalIn (d+1) 116 (.pointer (some a)) (.pointer (some b))).run prog w=.ok false w:=fun d=>by
  simp [Op.equalIn,run_underlying underlying116,sizeOf,typeInfo,hj,hsz,run_sameAddr_other w hne ha hb]
 simp only [binOp];simp [Op.equal,Op.maxDepth,h 9999]
def PtrAt (w:World) (q x:Nat) (t:TypeId):Prop:=w.heap[q]?=some (.cells #[.pointer (some ⟨x,0,none⟩)] t (0,0))
theorem PtrAt.at {w:World} {q x:Nat} {t:TypeId} (h:PtrAt w q x t):w.cell? ⟨q,0,none⟩=some (.pointer (some ⟨x,0,none⟩))/\w.frozen? ⟨q,0,none⟩=false:=by
 unfold PtrAt at h;refine ⟨?_,?_⟩
 ·rw [cell_of_row w q _ _ _ (0,0) h];rfl
 ·unfold World.frozen?;rw [h];simp
theorem PtrAt.set {w:World} {q x:Nat} {t:TypeId} (h:PtrAt w q x t) (y:Nat):PtrAt (w.setCell ⟨q,0,none⟩ (.pointer (some ⟨y,0,none⟩))) q y t:=by
 unfold PtrAt at h ⊢;rw [yO w q 0 _ _ _ _ h];rfl
theorem PtrAt.keep {w w':World} {q x:Nat} {t:TypeId} (h:PtrAt w q x t) (k:w'.heap[q]?=w.heap[q]?):PtrAt w' q x t:=k.trans h
def lvO (bs:List Nat) (fr:Nat->Fr) (e j:Nat):Option Nat:=if nuP (bs.map fr) j<bs.length then some (bs.getD (nuP (bs.map fr) j) e) else none
def lvX (bs:List Nat) (fr:Nat->Fr) (e j:Nat):Nat:=cyc e bs (min (nuP (bs.map fr) j+2) (bs.length+1))
section
variable {w:World} {p d m e N:Nat} {Fd F:Nat->Prop} {D:Dv} {bs:List Nat} {fr:Nat->Fr} {ol nw:Nat->Nat}
theorem leavers_any (h:PD w p d m e N Fd F D bs fr ol nw):
  Calls prog 121 #[.pointer (some ⟨p,0,none⟩)] w fun x w'=>x=.returned (.func (.func 168) #[] #[.pointer (some ⟨w.heap.size+1,0,none⟩),.pointer (some ⟨w.heap.size,0,none⟩)])/\
   w'=(w.alloc (.cells #[.pointer (some ⟨p,0,none⟩)] 73)).alloc (.cells #[.pointer (some ⟨cyc e bs 1,0,none⟩)] 116):=by
 obtain ⟨c0,c1,c2,c3⟩:=h.pool.at;have hmf:∀(fn:Fn) (first cap:Array Value) (w:World),(Instr.makeFunc fn first cap).run prog w=.ok (.func fn first cap) w:=fun _ _ _ _=>rfl
 obtain ⟨_,_,_,_,e4,_⟩:=(h.pool.node e (by simp)).at (h.pool.ok e (by simp));have hnw:nw e=cyc e bs 1:=(h.pool.ring 0 (by omega)).1;rw [hnw] at e4;have lp:=h.pool.lt p (.inl rfl);have le:=h.pool.lt e (.inr (.inr (by simp)));clear h hnw;go_enter func121,ntmps121
 go_wp2;go_ret
 exact ⟨rfl,rfl⟩
set_option maxRecDepth 20000 in
theorem leaver_any (h:PD w p d m e N Fd F D bs fr ol nw) (q r j:Nat) (hj:j<=bs.length) (hq:PtrAt w q (cyc e bs (j+1)) 116) (hr:PtrAt w r p 73) (hqF:¬F q) (hqr:q≠r):
  Calls prog 168 #[.pointer (some ⟨q,0,none⟩),.pointer (some ⟨r,0,none⟩)] w fun x w'=>x=.returned (mkP (lvO bs fr e j))/\Ch w.heap.size (fun k=>k=q) w w'/\PtrAt w' q (lvX bs fr e j) 116:=by
 have HP:Hid (PD w p d m e N Fd F D bs fr ol nw):=h;have HR:Hid (PtrAt w r p 73):=hr;have hql:q<w.heap.size:=yR hq;go_enter func168,ntmps168
 go_wp2;go_loopg [3] (bs.length+1-j) (fun k _ wr=>∃i:Nat,k=bs.length+1-i/\i<=bs.length/\nuP (bs.map fr) i=nuP (bs.map fr) j/\Ch w.heap.size (fun k=>k=q) w wr/\PtrAt wr q (cyc e bs (i+1)) 116)
 case atStart=>exact ⟨j,rfl,hj,rfl,Ch.refl _ _ _,hq⟩
 case round=>
  obtain ⟨i,hk,hi,hnu,hc,hqi⟩:=hrel;have hpd:PD wr p d m e N Fd F D bs fr ol nw:=HP.out.ch hc (fun k hk e1=>hqF (e1▸hk));have hr1:PtrAt wr r p 73:=HR.out.keep (hc.block r (yR HR.out) (fun e1=>hqr e1.symm));obtain ⟨q1,q2⟩:=hqi.at;obtain ⟨r1,_⟩:=hr1.at;obtain ⟨_,_,_,c3⟩:=hpd.pool.at;have hce:=zN e bs (i+1);have HC:Hid (Ch w.heap.size (fun k=>k=q) w wr):=hc;have HQ:Hid (PtrAt wr q (cyc e bs (i+1)) 116):=hqi;have HN:Hid (nuP (bs.map fr) i=nuP (bs.map fr) j):=hnu;by_cases hlt:i<bs.length
  ·have hcy:=JD e bs i hlt;have hgm:bs.getD i e∈bs:=zS hlt
   have hne:cyc e bs (i+1)≠e:=by
    rw [hcy];exact fun e1=>hpd.pool.apart.2.2.2.2.1 (e1▸hgm)
   have hneq:=neq_other wr.drew (a:=⟨cyc e bs (i+1),0,none⟩) (b:=⟨e,0,none⟩) (fun e1=>hne (congrArg Addr.block e1)) (hpd.pool.node _ hce) (hpd.pool.node e (by simp));have hgm':bs.getD i e∈e::bs:=jM _ hgm;obtain ⟨_,_,x2,_,x4,_⟩:=(hpd.pool.node _ hgm').at (hpd.pool.ok _ hgm');have hnx:nw (bs.getD i e)=cyc e bs (i+2):=by rw [<-hcy];exact (hpd.pool.ring (i+1) (by omega)).1
   rw [hnx] at x4;rw [hcy] at q1 hneq HQ;have hxq:bs.getD i e≠q:=fun e1=>hqF (e1▸hpd.fp _ (.inr (.inr hgm')))
   have hpn:=fun (W:World) hW=>ZH W (bs.getD i e) (fr (bs.getD i e)).pins hW
   have hLi:((bs.map fr).getD i fr0)=fr (bs.getD i e):=by
    simp [jC hlt]
   have hll:i<(bs.map fr).length:=by simpa using hlt
   obtain ⟨x,hx⟩:∃x,bs.getD i e=x:=⟨_,rfl⟩;obtain ⟨y,hy⟩:∃y,cyc e bs (i+2)=y:=⟨_,rfl⟩;obtain ⟨z,hz⟩:∃z,(fr x).pins=z:=⟨_,rfl⟩;have HX:Hid (bs.getD i e=x):=hx;have HY:Hid (cyc e bs (i+2)=y):=hy;rw [hx] at q1 hneq HQ x2 x4 hxq hpn hLi;rw [hz] at x2 hpn;rw [hy] at x4;have HS:Hid (PtrAt (wr.setCell ⟨q,0,none⟩ (.pointer (some ⟨y,0,none⟩))) q y 116):=HQ.out.set y;have HS2:Hid (Ch w.heap.size (fun k=>k=q) w (wr.setCell ⟨q,0,none⟩ (.pointer (some ⟨y,0,none⟩)))):=HC.out.setCell (p:=⟨q,0,none⟩) (.inr rfl) _;have HK:Hid (gk=bs.length+1-i):=hk;have hpn1:=hpn ((wr.setCell ⟨q,0,none⟩ (.pointer (some ⟨y,0,none⟩))).drew) (by go_simp);by_cases hz0:z=0
   ·have HU:Hid (nuP (bs.map fr) j=i):=by
     show nuP (bs.map fr) j=i;rw [<-HN.out];exact nuP_hit hll (by rw [hLi,hz,hz0])
    have hz1:decide (0<z)=false:=by simp [hz0]
    rw [hz1] at hpn1;clear hpd hr1 hcy hgm hne hce hgm' hnx hLi hll hx hy hz hqi hc hnu hk h hq hr hpn hz0 hz1 HQ HC HN;go_wp2_with fail
    go_still_tail 5,(by kernel_rfl)
    go_wp2_with (go_at_call 125;refine hpn1.mono ?_;rintro x w2 ⟨rfl,rfl⟩)
    go_ret
    refine ⟨?_,HS2.out.drew,?_⟩
    ·rw [show lvO bs fr e j=some x by unfold lvO;rw [HU.out,if_pos hlt,HX.out]];rfl
    ·rw [show lvX bs fr e j=y by unfold lvX;rw [HU.out,xX (by omega),HY.out]];exact HS.out
   ·have HU:Hid (nuP (bs.map fr) (i+1)=nuP (bs.map fr) j):=by
     show nuP (bs.map fr) (i+1)=nuP (bs.map fr) j;rw [<-HN.out];exact (nuP_skip hll (by rw [hLi,hz];exact hz0)).symm
    have hz1:decide (0<z)=true:=by simp;omega
    rw [hz1] at hpn1;clear hpd hr1 hcy hgm hne hce hgm' hnx hLi hll hx hy hz hqi hc hnu hk h hq hr hpn hz0 hz1 HQ HC HN;go_wp2_with fail
    go_still_tail 5,(by kernel_rfl)
    go_wp2_with (go_at_call 125;refine hpn1.mono ?_;rintro x w2 ⟨rfl,rfl⟩)
    go_roundg (bs.length+1-(i+1))
    case measure=>rw [HK.out];omega
    case rel=>exact ⟨i+1,rfl,by omega,HU.out,HS2.out.drew,by rw [HY.out];exact HS.out⟩
  ·have hie:i=bs.length:=by omega
   subst hie;have hcy:=ZC e bs;have hneq:=neq_same wr.drew ⟨e,0,none⟩;rw [hcy] at q1
   have HU:Hid (nuP (bs.map fr) j=bs.length):=by
    show nuP (bs.map fr) j=bs.length;rw [<-HN.out];have:=nuP_end (bs.map fr)
    simpa using this
   clear hpd hr1 hce hqi hc hnu hk h hq hr HN hcy;go_wp2_with fail
   go_still_tail 5,(by kernel_rfl)
   go_wp2;go_ret
   refine ⟨?_,HC.out.drew,?_⟩
   ·rw [show lvO bs fr e j=none by unfold lvO;rw [HU.out,if_neg (by omega)]];rfl
   ·rw [show lvX bs fr e j=cyc e bs (bs.length+1) by unfold lvX;rw [HU.out,Nat.min_eq_right (by omega)]];exact HQ.out
end
def tkE (D:Dv) (N:Nat) (L:List Fr):Int:=if L.length<N then 0 else if nuP L 0<L.length then evE D (L.getD (nuP L 0) fr0) else 6
def tkD (D:Dv) (N:Nat) (L:List Fr):Dv:=if L.length<N then D else if nuP L 0<L.length then evD D (L.getD (nuP L 0) fr0) else D
def tkB (D:Dv) (N:Nat) (bs:List Nat) (fr:Nat->Fr):List Nat:=if bs.length<N then bs else if nuP (bs.map fr) 0<bs.length then evB (evE D ((bs.map fr).getD (nuP (bs.map fr) 0) fr0)) bs (nuP (bs.map fr) 0) else bs
theorem tkD_n (D:Dv) (N:Nat) (L:List Fr):(tkD D N L).n=D.n:=by
 unfold tkD;split
 ·rfl
 ·split
  ·exact evD_n ..
  ·rfl
theorem FB (D:Dv) (f:Fr):evE D f=0\/evE D f=7:=by
 unfold evE;split
 ·exact zL D
 ·exact .inl rfl
section
variable {w:World} {p d m e N:Nat} {Fd F:Nat->Prop} {D:Dv} {bs:List Nat} {fr:Nat->Fr} {ol nw:Nat->Nat}
def TakeEnd (p d m e N:Nat) (F:Nat->Prop) (D:Dv) (bs:List Nat) (fr:Nat->Fr) (w:World) (w':World):Prop:=
 ∃Fd' F' fr' ol' nw',PD w' p d m e N Fd' F' (tkD D N (bs.map fr)) (tkB D N bs fr) fr' ol' nw'/\Step F F' w w'/\∀x∈tkB D N bs fr,fr' x=fr x
theorem memN (w:World) (n:Nat):Mem w (w.drewN n):=⟨rfl,rfl,rfl,rfl⟩
set_option maxRecDepth 20000 in
theorem take_any (h:PD w p d m e N Fd F D bs fr ol nw) (hops:D.ops<=4611686018427387904) (hs:D.since.length<=1000000):
  Calls prog 156 #[.pointer (some ⟨p,0,none⟩)] w fun x w'=>CEnd (tkE D N (bs.map fr)) x/\TakeEnd p d m e N F D bs fr w w':=by
 obtain ⟨c0,c1,c2,c3⟩:=h.pool.at;have hlen:=fun (W:World) (hW:W.heap[m]?=w.heap[m]?) (ty:TypeId)=>(h.pool.held.keep hW).len ty
 have hl:(psOf bs fr).length=bs.length:=by simp [psOf]
 rw [hl] at hlen;have hlen0:=hlen w rfl;have hlen1:=hlen w.drew rfl;have hlen2:=fun n=>hlen (w.drewN n) rfl
 have hLL:(bs.map fr).length=bs.length:=by simp
 have hle:=h.pool.len;clear hlen hl;by_cases hlt:bs.length<N
 ·have e1:tkE D N (bs.map fr)=0:=by unfold tkE;rw [hLL,if_pos hlt]
  have e2:∀n,TakeEnd p d m e N F D bs fr w (w.drewN n):=by
   intro n;refine ⟨Fd,F,fr,ol,nw,?_,⟨(memN w n).ch _ _,fun _ h=>.inl h⟩,fun _ _=>rfl⟩;unfold tkD tkB;rw [hLL,if_pos hlt,if_pos hlt];exact h.mem (memN w n)
  rw [e1];have H2:Hid (∀n,TakeEnd p d m e N F D bs fr w (w.drewN n)):=e2;have hlt':(bs.length:Int)<(N:Int):=by omega
  clear e1 e2 h hle hLL;go_enter func156,ntmps156
  go_wp2_with fail
  go_quiet (fail)
  go_wp2;refine bodyPost_ret (results_none rfl _ _ _) rfl ?_;exact ⟨.inl ⟨rfl,rfl⟩,H2.out _⟩
 ·have hlt':¬(bs.length:Int)<(N:Int):=by omega
  have hlv:∀W,Mem w W->Calls prog 121 #[.pointer (some ⟨p,0,none⟩)] W fun x w'=>x=.returned (.func (.func 168) #[] #[.pointer (some ⟨W.heap.size+1,0,none⟩),.pointer (some ⟨W.heap.size,0,none⟩)])/\
   w'=(W.alloc (.cells #[.pointer (some ⟨p,0,none⟩)] 73)).alloc (.cells #[.pointer (some ⟨cyc e bs 1,0,none⟩)] 116):=fun W hW=>leavers_any (h.mem hW)
  have hlz:∀W,Mem w W->Calls prog 168 #[.pointer (some ⟨W.heap.size+1,0,none⟩),.pointer (some ⟨W.heap.size,0,none⟩)] ((W.alloc (.cells #[.pointer (some ⟨p,0,none⟩)] 73)).alloc (.cells #[.pointer (some ⟨cyc e bs 1,0,none⟩)] 116)) fun x w'=>
    x=.returned (mkP (lvO bs fr e 0))/\PD w' p d m e N Fd F D bs fr ol nw/\Ch w.heap.size (fun _=>False) w w':=fun W hW=>by
   have hpd:=h.mem hW;have hb:Below W.heap.size W ((W.alloc (.cells #[.pointer (some ⟨p,0,none⟩)] 73)).alloc (.cells #[.pointer (some ⟨cyc e bs 1,0,none⟩)] 116)):=((Below.refl _ W).alloc (jB _) _).alloc (by simp) _;have h2:=hpd.below hb
   have hq:PtrAt ((W.alloc (.cells #[.pointer (some ⟨p,0,none⟩)] 73)).alloc (.cells #[.pointer (some ⟨cyc e bs 1,0,none⟩)] 116)) (W.heap.size+1) (cyc e bs (0+1)) 116:=by
    have:=heap_alloc_new (W.alloc (.cells #[.pointer (some ⟨p,0,none⟩)] 73)) (.cells #[.pointer (some ⟨cyc e bs 1,0,none⟩)] 116)
    simpa [PtrAt] using this
   have hr:PtrAt ((W.alloc (.cells #[.pointer (some ⟨p,0,none⟩)] 73)).alloc (.cells #[.pointer (some ⟨cyc e bs 1,0,none⟩)] 116)) W.heap.size p 73:=by
    unfold PtrAt;rw [Below.heap_alloc _ _ _ (by simp)];exact heap_alloc_new W _
   have hF:¬F (W.heap.size+1):=fun e1=>by have:=hpd.flt _ e1;omega
   refine (leaver_any h2 (W.heap.size+1) W.heap.size 0 (by omega) hq hr hF (by omega)).mono ?_;rintro x w' ⟨rfl,hc,_⟩;refine ⟨rfl,h2.ch hc (fun k hk e1=>hF (e1▸hk)),?_⟩;have hsz:w.heap.size=W.heap.size:=by rw [hW.1]
   refine (hW.ch _ _).trans ((Ch.of _ hb).mono (by omega) (fun _ _ e=>e) |>.trans (hc.mono (by simp;omega) (fun k hk e1=>by omega)))
  have hev:∀W,PD W p d m e N Fd F D bs fr ol nw->∀i,i<bs.length->_:=fun W hW i hi=>FA hW hops hs i hi
  have HLV:Hid _:=hlv;have HLZ:Hid _:=hlz;have HEV:Hid _:=hev;cases ho:lvO bs fr e 0 with
  |none=>
   have hn:¬nuP (bs.map fr) 0<bs.length:=by
    intro e1;unfold lvO at ho;rw [if_pos e1] at ho;cases ho
   have e1:tkE D N (bs.map fr)=6:=by unfold tkE;rw [hLL,if_neg hlt,if_neg hn]
   have e2:∀W,PD W p d m e N Fd F D bs fr ol nw->Ch w.heap.size (fun _=>False) w W->TakeEnd p d m e N F D bs fr w W:=fun W h1 h2=>by
    refine ⟨Fd,F,fr,ol,nw,?_,⟨h2.mono (jB _) (fun _ _ e=>e.elim),fun _ h=>.inl h⟩,fun _ _=>rfl⟩;unfold tkD tkB;rw [hLL,if_neg hlt,if_neg hlt,if_neg hn,if_neg hn];exact h1
   rw [e1];rw [ho] at HLZ;have H2:Hid _:=e2;clear e1 e2 h hle hLL hlv hlz hev HEV ho hn hlt;go_enter func156,ntmps156
   go_wp2_with fail
   go_quiet (fail)
   go_wp2_with fail
   refine (HLV.out _ (memN w _)).mono ?_;rintro x w2 ⟨rfl,rfl⟩
   have hz:Calls prog 168 #[.pointer (some ⟨w.heap.size+1,0,none⟩),.pointer (some ⟨w.heap.size,0,none⟩)] (((w.drewN nq).alloc (.cells #[.pointer (some ⟨p,0,none⟩)] 73)).alloc (.cells #[.pointer (some ⟨cyc e bs 1,0,none⟩)] 116)) fun x w'=>
    x=.returned (.pointer none)/\PD w' p d m e N Fd F D bs fr ol nw/\Ch w.heap.size (fun _=>False) w w':=HLZ.out _ (memN w nq)
   go_wp2_with fail
   refine hz.mono ?_;rintro x w3 ⟨rfl,h3,k3⟩;have H3:Hid (TakeEnd p d m e N F D bs fr w w3):=H2.out w3 h3 k3;clear hz HLZ HLV H2 h3 k3;go_wp2;exact ⟨rfl,.inr ⟨by decide,rfl⟩,H3.out⟩
  |some g=>
   have hn:nuP (bs.map fr) 0<bs.length:=by
    by_cases e1:nuP (bs.map fr) 0<bs.length
    ·exact e1
    ·unfold lvO at ho;rw [if_neg e1] at ho;cases ho
   have hg:bs.getD (nuP (bs.map fr) 0) e=g:=by
    unfold lvO at ho;rw [if_pos hn] at ho
    simpa using ho
   have hLg:(bs.map fr).getD (nuP (bs.map fr) 0) fr0=fr g:=by
    rw [<-hg];simp [jC hn]
   have e1:tkE D N (bs.map fr)=evE D (fr g):=by unfold tkE;rw [hLL,if_neg hlt,if_pos hn,hLg]
   have hee:∀W,PD W p d m e N Fd F D bs fr ol nw->Ch w.heap.size (fun _=>False) w W->Calls prog 122 #[.pointer (some ⟨p,0,none⟩),.pointer (some ⟨g,0,none⟩)] W fun x w'=>CEnd (evE D (fr g)) x/\TakeEnd p d m e N F D bs fr w w':=fun W h1 h2=>by
    have:=FA h1 hops hs _ hn;rw [hg] at this;refine this.mono ?_;rintro x w' ⟨hx,Fd',F',fr',ol',nw',h3,h4,h5⟩;refine ⟨hx,Fd',F',fr',ol',nw',?_,?_,?_⟩
    ·unfold tkD tkB;rw [hLL,if_neg hlt,if_neg hlt,if_pos hn,if_pos hn,hLg];exact h3
    ·have e0:Step F F w W:=⟨h2.mono (jB _) (fun _ _ e=>e.elim),fun _ h=>.inl h⟩;exact e0.trans h4
    ·unfold tkB;rw [if_neg hlt,if_pos hn,hLg];exact h5
   rw [e1];rw [ho] at HLZ;have H2:Hid (∀W,PD W p d m e N Fd F D bs fr ol nw->Ch w.heap.size (fun _=>False) w W->Calls prog 122 #[.pointer (some ⟨p,0,none⟩),.pointer (some ⟨g,0,none⟩)] W fun x w'=>CEnd (evE D (fr g)) x/\TakeEnd p d m e N F D bs fr w w'):=hee;have hec:=FB D (fr g);obtain ⟨E,hE⟩:∃E,evE D (fr g)=E:=⟨_,rfl⟩;rw [hE] at H2 hec ⊢;clear e1 hee h hle hLL hlv hlz hev HEV ho hn hlt hg hLg hE;go_enter func156,ntmps156
   go_wp2_with fail
   go_quiet (fail)
   go_wp2_with fail
   refine (HLV.out _ (memN w _)).mono ?_;rintro x w2 ⟨rfl,rfl⟩
   have hz:Calls prog 168 #[.pointer (some ⟨w.heap.size+1,0,none⟩),.pointer (some ⟨w.heap.size,0,none⟩)] (((w.drewN nq).alloc (.cells #[.pointer (some ⟨p,0,none⟩)] 73)).alloc (.cells #[.pointer (some ⟨cyc e bs 1,0,none⟩)] 116)) fun x w'=>
    x=.returned (.pointer (some ⟨g,0,none⟩))/\PD w' p d m e N Fd F D bs fr ol nw/\Ch w.heap.size (fun _=>False) w w':=HLZ.out _ (memN w nq)
   go_wp2_with fail
   refine hz.mono ?_;rintro x w3 ⟨rfl,h3,k3⟩;have H3:=H2.out w3 h3 k3;clear hz HLZ HLV H2 h3 k3;go_wp2_with fail
   refine H3.mono ?_;clear H3;rintro x w4 ⟨hx,ht⟩;have HT:Hid (TakeEnd p d m e N F D bs fr w w4):=ht;clear ht;rcases hec with rfl|rfl
   ·obtain rfl:x=.returned (.tuple #[]):=by
     rcases hx with hx|hx
     ·exact hx.2
     ·exact absurd rfl hx.1
    clear hx;go_wp2;go_end0
    exact ⟨.inl ⟨rfl,rfl⟩,HT.out⟩
   ·obtain rfl:x=thrown 7:=by
     rcases hx with hx|hx
     ·exact absurd hx.1 (by decide)
     ·exact hx.2
    clear hx;unfold thrown;go_wp2;exact ⟨rfl,.inr ⟨by decide,rfl⟩,HT.out⟩
end
theorem findP_perm {ps ps':List (Nat × Nat)} (hn':(ps'.map (·.1)).Nodup) (hp:∀x,x∈ps↔x∈ps') (k:Int):findP ps' k=findP ps k:=by
 cases h:findP ps k with
 |none=>
  have h1:=XZ h;cases h':findP ps' k with
  |none=>rfl
  |some g=>
   obtain ⟨pg,e1,h2⟩:=XY h';exact absurd e1.symm (h1 _ ((hp _).2 h2))
 |some g=>
  obtain ⟨pg,e1,h2⟩:=XY h;rw [e1];exact QP hn' ((hp _).1 h2)
theorem Held.perm {w:World} {m:Nat} {ps ps':List (Nat × Nat)} (h:Held w m ps) (hp:ps.Perm ps'):Held w m ps':=by
 obtain ⟨h1,h1',D,h2,h3,h4,h5⟩:=h;have hn':(ps'.map (·.1)).Nodup:=(hp.map _).nodup_iff.1 h1;have hf:=findP_perm hn' (fun x=>hp.mem_iff);exact ⟨hn',fun x hx=>h1' x (hp.mem_iff.2 hx),D,by rw [<-hp.length_eq];exact h2,fun k=>by rw [hf];exact h3 k,fun k=>by rw [hf];exact h4 k,by rw [<-hp.length_eq];exact h5⟩
theorem ZM {α:Type} (l:List α) (e:α) (i:Nat) (hi:i<l.length):(l.eraseIdx i++[l.getD i e]).Perm l:=by
 induction l generalizing i with
 |nil=>simp at hi
 |cons a r ih=>
  cases i with
  |zero=>exact List.perm_append_singleton a r
  |succ i=>exact (ih i (by simpa using hi)).cons a
theorem node_two {w:World} {x:Nat} {f:Fr} {ol nw:Nat->Nat} (h:Node w x f (ol x) (nw x)) (k0:f.ok) (a c y z:Nat):
  Node ((w.setCell ⟨a,260,none⟩ (.pointer (some ⟨y,0,none⟩))).setCell ⟨c,259,none⟩ (.pointer (some ⟨z,0,none⟩))) x f (upF ol c z x) (upF nw a y x):=by
 have o1:∀(W:World) (q i:Nat) (v:Value),x≠q->(W.setCell ⟨q,i,none⟩ v).heap[x]?=W.heap[x]?:=fun W q i v hq=>Below.heap_setCell W ⟨q,i,none⟩ v x hq
 have s1:Node (w.setCell ⟨a,260,none⟩ (.pointer (some ⟨y,0,none⟩))) x f (ol x) (upF nw a y x):=by
  by_cases h1:x=a
  ·subst h1;rw [yV];have:=h.set 260 (.pointer (some ⟨y,0,none⟩));rw [fJ k0] at this;exact this
  ·rw [yT _ _ h1];exact h.keep (o1 _ _ _ _ h1)
 by_cases h2:x=c
 ·subst h2;rw [yV];have:=s1.set 259 (.pointer (some ⟨z,0,none⟩));rw [vI k0] at this;exact this
 ·rw [yT _ _ h2];exact s1.keep (o1 _ _ _ _ h2)
theorem link_in {w w1:World} {p d m e N np g:Nat} {bs:List Nat} {fr:Nat->Fr} {ol nw:Nat->Nat} {vo vn:Value}
  (hc:w.heap[p]?=some (.cells #[.pointer (some ⟨d,0,none⟩),.int .i64 N,.map (some m),.pointer (some ⟨e,0,none⟩)] 121 (0,0)))
  (hh:Held w m (psOf (bs++[g]) fr)) (hn:∀x∈e::bs,Node w x (fr x) (ol x) (nw x)) (hg:w.heap[g]?=some (.cells (frV (fr g) vo vn).toArray 118 (0,0)))
  (hr:Ring e bs ol nw) (hok:∀x∈e::(bs++[g]),(fr x).ok) (hpg:∀x∈bs++[g],(fr x).page<np) (hap:(p::m::e::(bs++[g])).Nodup) (n8:8<=N) (n4:N<=4096) (hlen:bs.length+1<=N) (np4:np<=4096)
  (hm:Mem ((((w.setCell ⟨g,259,none⟩ (.pointer (some ⟨cyc e bs bs.length,0,none⟩))).setCell ⟨g,260,none⟩ (.pointer (some ⟨e,0,none⟩))).setCell ⟨cyc e bs bs.length,260,none⟩ (.pointer (some ⟨g,0,none⟩))).setCell ⟨e,259,none⟩ (.pointer (some ⟨g,0,none⟩))) w1):
  PoolC w1 p d m e N np (bs++[g]) fr (upF (upF ol g (cyc e bs bs.length)) e g) (upF (upF nw g e) (cyc e bs bs.length) g):=by
 have hap':=hap;simp only [xK,yK,qV,yM,or_false,not_or,List.nodup_append] at hap';obtain ⟨⟨a1,a2,a3,a4⟩,⟨b1,b2,b3⟩,⟨c1,c2⟩,d1,d2,d3⟩:=hap'
 have hge:g∉e::bs:=by
  intro e1;rcases List.mem_cons.1 e1 with e1|e1
  ·exact c2 e1.symm
  ·exact d3 g e1 g rfl rfl
 have hne:(e::bs).Nodup:=by simp [c1,d1]
 have ha:=zN e bs bs.length
 have hpa:∀k,k∉e::bs->k≠g->w1.heap[k]?=w.heap[k]?:=fun k hk hkg=>by
  rw [hm.heap,Below.heap_setCell _ ⟨e,259,none⟩ _ k (fun e1=>hk (by rw [e1];simp)),Below.heap_setCell _ ⟨cyc e bs bs.length,260,none⟩ _ k (fun e1=>hk (e1▸ha)),Below.heap_setCell _ ⟨g,260,none⟩ _ k hkg,Below.heap_setCell _ ⟨g,259,none⟩ _ k hkg]
 have hg0:Node ((w.setCell ⟨g,259,none⟩ (.pointer (some ⟨cyc e bs bs.length,0,none⟩))).setCell ⟨g,260,none⟩ (.pointer (some ⟨e,0,none⟩))) g (fr g) (cyc e bs bs.length) e:=by
  unfold Node;have s1:=yO w g 259 (.pointer (some ⟨cyc e bs bs.length,0,none⟩)) _ _ _ hg;rw [yO _ g 260 (.pointer (some ⟨e,0,none⟩)) _ _ _ s1];have:=frV_set (hok g (by simp)) vo vn (.pointer (some ⟨cyc e bs bs.length,0,none⟩)) (.pointer (some ⟨e,0,none⟩));rw [frV_frC] at this;rw [<-this];simp
 refine ⟨?_,?_,fun x hx=>?_,hr.snoc hne g hge,hok,hpg,hap,n8,n4,by simpa using hlen,np4⟩
 ·rw [hpa p (by simp;exact ⟨a2,a3⟩) a4];exact hc
 ·exact hh.keep (hpa m (by simp;exact ⟨b1,b2⟩) b3)
 ·refine Node.keep ?_ (hm.heap x);refine node_two (ol:=upF ol g (cyc e bs bs.length)) (nw:=upF nw g e) ?_ (hok x hx) _ _ _ _;by_cases hxg:x=g
  ·subst hxg;rw [yV,yV];exact hg0
  ·have hx':x∈e::bs:=by
    simp only [yK,qV,yM,or_false] at hx ⊢;rcases hx with hx|hx|hx
    ·exact .inl hx
    ·exact .inr hx
    ·exact absurd hx hxg
   rw [yT _ _ hxg,yT _ _ hxg];exact (hn x hx').keep (by rw [Below.heap_setCell _ ⟨g,260,none⟩ _ x hxg,Below.heap_setCell _ ⟨g,259,none⟩ _ x hxg])
section
variable {w:World} {p d m e N:Nat} {Fd F:Nat->Prop} {D:Dv} {bs:List Nat} {fr:Nat->Fr} {ol nw:Nat->Nat}
def LinkAsk (w:World) (g e a:Nat):Prop:=
 w.cell? ⟨e,259,none⟩=some (.pointer (some ⟨a,0,none⟩))/\(∃v,w.cell? ⟨g,259,none⟩=some v)/\(∃v,w.cell? ⟨g,260,none⟩=some v)/\(∃v,w.cell? ⟨a,260,none⟩=some v)/\w.frozen? ⟨a,260,none⟩=false/\w.frozen? ⟨e,259,none⟩=false/\w.frozen? ⟨g,259,none⟩=false/\w.frozen? ⟨g,260,none⟩=false/\¬a=g/\¬e=g
def LinkW (w:World) (g e a:Nat):World:=(((w.setCell ⟨g,259,none⟩ (.pointer (some ⟨a,0,none⟩))).setCell ⟨g,260,none⟩ (.pointer (some ⟨e,0,none⟩))).setCell ⟨a,260,none⟩ (.pointer (some ⟨g,0,none⟩))).setCell ⟨e,259,none⟩ (.pointer (some ⟨g,0,none⟩))
theorem link_ask {g e a:Nat} (h:LinkAsk w g e a):Calls prog 158 #[.pointer (some ⟨g,0,none⟩),.pointer (some ⟨e,0,none⟩)] w fun x w'=>x=.returned (.tuple #[])/\Mem (LinkW w g e a) w':=by
 obtain ⟨h0,⟨v1,h1⟩,⟨v2,h2⟩,⟨va,h3⟩,z1,z2,z3,z4,n1,n2⟩:=h;exact link_any w g e a v1 v2 va h0 h1 h2 h3 z1 z2 z3 z4 n1 n2
theorem ask_of {g:Nat} {f:Fr} {vo vn:Value} (hn:∀x∈e::bs,Node w x (fr x) (ol x) (nw x)) (hok:∀x∈e::bs,(fr x).ok) (hr:Ring e bs ol nw) (hg:w.heap[g]?=some (.cells (frV f vo vn).toArray 118 (0,0))) (hf:f.ok) (hge:g∉e::bs):LinkAsk w g e (cyc e bs bs.length):=by
 have ha:=zN e bs bs.length
 have hoe:ol e=cyc e bs bs.length:=by
  have:=(hr bs.length (jB _)).2
  rwa [ZC] at this
 obtain ⟨_,_,_,e3,_,ez⟩:=(hn e (by simp)).at (hok e (by simp));obtain ⟨_,_,_,_,a4,az⟩:=(hn _ ha).at (hok _ ha);obtain ⟨v1,v2⟩:=frV_at hf vo vn;rw [hoe] at e3
 have gz:∀i,w.frozen? ⟨g,i,none⟩=false:=fun i=>by
  unfold World.frozen?;rw [hg];simp
 refine ⟨e3,⟨vo,?_⟩,⟨vn,?_⟩,⟨_,a4⟩,az _,ez _,gz _,gz _,fun e1=>hge (e1▸ha),fun e1=>hge (by rw [<-e1];simp)⟩
 ·rw [cell_of_row w g _ _ _ (0,0) hg];simpa using v1
 ·rw [cell_of_row w g _ _ _ (0,0) hg];simpa using v2
theorem linkW_ch {g a:Nat} {G:Nat->Prop} {w0:World} {B:Nat} (h:Ch B G w0 w) (hg:B<=g\/G g) (ha:B<=a\/G a) (he:B<=e\/G e):Ch B G w0 (LinkW w g e a):=
 (((h.setCell (p:=⟨g,259,none⟩) hg _).setCell (p:=⟨g,260,none⟩) hg _).setCell (p:=⟨a,260,none⟩) ha _).setCell (p:=⟨e,259,none⟩) he _
theorem kL {g a k:Nat} (h1:k≠g) (h2:k≠a) (h3:k≠e):(LinkW w g e a).heap[k]?=w.heap[k]?:=by
 unfold LinkW;rw [Below.heap_setCell _ ⟨e,259,none⟩ _ k h3,Below.heap_setCell _ ⟨a,260,none⟩ _ k h2,Below.heap_setCell _ ⟨g,260,none⟩ _ k h1,Below.heap_setCell _ ⟨g,259,none⟩ _ k h1]
theorem PD.relink (h:PD w p d m e N Fd F D bs fr ol nw) {i:Nat} (hi:i<bs.length) {w1:World}
  (hm:Mem ((w.setCell ⟨cyc e bs i,260,none⟩ (.pointer (some ⟨cyc e bs (i+2),0,none⟩))).setCell ⟨cyc e bs (i+2),259,none⟩ (.pointer (some ⟨cyc e bs i,0,none⟩))) w1):
  LinkAsk w1 (bs.getD i e) e (cyc e (bs.eraseIdx i) (bs.eraseIdx i).length)/\w1.cell? ⟨p,3,none⟩=some (.pointer (some ⟨e,0,none⟩))/\
  ∀w2,Mem (LinkW w1 (bs.getD i e) e (cyc e (bs.eraseIdx i) (bs.eraseIdx i).length)) w2->(∃ol' nw',PD w2 p d m e N Fd F D (bs.eraseIdx i++[bs.getD i e]) fr ol' nw')/\Ch w.heap.size F w w2:=by
 obtain ⟨a1,a2,a3,a4,a5,a6⟩:=h.pool.apart;have hF:=h.flt;have ha:=zN e bs i;have hc:=zN e bs (i+2);have hg:bs.getD i e∈bs:=zS hi;have hg':bs.getD i e∈e::bs:=jM _ hg
 have hge:bs.getD i e∉e::bs.eraseIdx i:=by
  intro e1;rcases List.mem_cons.1 e1 with e1|e1
  ·exact a5 (e1▸hg)
  ·exact fQ a6 hi e1
 have hl:(bs.eraseIdx i).length=bs.length-1:=xF hi
 have hperm:(bs.eraseIdx i++[bs.getD i e]).Perm bs:=by
  exact ZM bs e i hi
 have hsub:∀x,x∈e::bs.eraseIdx i->x∈e::bs:=fun x hx=>by
  rcases List.mem_cons.1 hx with hx|hx
  ·simp [hx]
  ·exact jM _ (QQ hx)
 have hring:=h.pool.ring.out a4 i hi;have hnode:∀x∈e::bs,Node w1 x (fr x) (upF ol (cyc e bs (i+2)) (cyc e bs i) x) (upF nw (cyc e bs i) (cyc e bs (i+2)) x):=fun x hx=>(fR h.pool.node h.pool.ok _ _ x hx).keep (hm.heap x)
 have k1:∀k,k∉e::bs->w1.heap[k]?=w.heap[k]?:=fun k hk=>by
  rw [hm.heap,Below.heap_setCell _ ⟨cyc e bs (i+2),259,none⟩ _ k (fun e1=>hk (e1▸hc)),Below.heap_setCell _ ⟨cyc e bs i,260,none⟩ _ k (fun e1=>hk (e1▸ha))]
 have hask:LinkAsk w1 (bs.getD i e) e (cyc e (bs.eraseIdx i) (bs.eraseIdx i).length):=
  ask_of (f:=fr (bs.getD i e)) (fun x hx=>hnode x (hsub x hx)) (fun x hx=>h.pool.ok x (hsub x hx)) hring (hnode _ hg') (h.pool.ok _ hg') hge
 have c1:Ch w.heap.size F w w1:=by
  refine Ch.trans ?_ (hm.ch _ _);exact ((Ch.refl w.heap.size F w).setCell (p:=⟨cyc e bs i,260,none⟩) (.inr (h.fp _ (.inr (.inr ha)))) _).setCell (p:=⟨cyc e bs (i+2),259,none⟩) (.inr (h.fp _ (.inr (.inr hc)))) _
 have hca:=hsub _ (zN e (bs.eraseIdx i) (bs.eraseIdx i).length);refine ⟨hask,?_,fun w2 hm2=>?_⟩
 ·obtain ⟨_,_,_,c3⟩:=h.pool.at;rw [<-c3];exact World.cell?_of_block (a:=⟨p,3,none⟩) (k1 p a2)
 have hpool:=link_in (np:=D.n) (vo:=_) (vn:=_) ((k1 p a2).trans h.pool.cells) (((h.pool.held.keep (k1 m a3)).perm (hperm.symm.map _))) (fun x hx=>hnode x (hsub x hx)) (hnode _ hg') hring (fun x hx=>by
   refine h.pool.ok x ?_;rcases List.mem_cons.1 hx with hx|hx
   ·simp [hx]
   ·exact jM _ (hperm.mem_iff.1 hx)) (fun x hx=>h.pool.pg x (hperm.mem_iff.1 hx)) (List.Perm.nodup_iff (((hperm.cons e).cons m).cons p) |>.2 h.pool.ap) h.pool.n8 h.pool.n4 (by have:=h.pool.len;omega) h.pool.np4 hm2
 have hsz:w2.heap.size=w1.heap.size:=by
  rw [hm2.1];simp [LinkW]
 refine ⟨⟨_,_,⟨?_,hpool,fun k hk=>?_,fun k hk=>?_,fun k hk=>?_⟩⟩,?_⟩
 ·have k2:∀k,k∉e::bs->w2.heap[k]?=w1.heap[k]?:=fun k hk=>by
   rw [hm2.heap];exact kL (fun e1=>hk (by rw [e1];exact hg')) (fun e1=>hk (by rw [e1];exact hca)) (fun e1=>hk (by rw [e1];simp))
  refine h.dev.keep (by rw [hsz];exact c1.size) (fun k hk=>?_);have hk2:k∉e::bs:=fun e1=>(h.fd k hk).2 (.inr (.inr e1))
  exact (k2 k hk2).trans (k1 k hk2)
 ·refine ⟨(h.fd k hk).1,fun e1=>(h.fd k hk).2 ?_⟩;rcases e1 with e1|e1|e1
  ·exact .inl e1
  ·exact .inr (.inl e1)
  ·exact .inr (.inr ((hperm.cons e).mem_iff.1 e1))
 ·refine h.fp k ?_;rcases hk with e1|e1|e1
  ·exact .inl e1
  ·exact .inr (.inl e1)
  ·exact .inr (.inr ((hperm.cons e).mem_iff.1 e1))
 ·rw [hsz];exact qA (hF k hk) c1.size
 ·exact (linkW_ch c1 (.inr (h.fp _ (.inr (.inr hg')))) (.inr (h.fp _ (.inr (.inr hca)))) (.inr (h.fp _ (.inr (.inr (by simp)))))).trans (hm2.ch _ _)
theorem PD.newlink (h:PD w p d m e N Fd F D bs fr ol nw) {w1:World} (g:Nat) (f:Fr) (hf:f.ok) (hpg:f.page<D.n) (hl:bs.length<N) (hgn:w.heap.size<=g) (hg:w1.heap[g]?=some (.cells (frV f (.pointer none) (.pointer none)).toArray 118 (0,0)))
  (hh:Held w1 m (psOf bs fr++[(f.page,g)])) (hk:∀k,k≠m->k<w.heap.size->w1.heap[k]?=w.heap[k]?) (hc:Ch w.heap.size F w w1):
  LinkAsk w1 g e (cyc e bs bs.length)/\w1.cell? ⟨p,3,none⟩=some (.pointer (some ⟨e,0,none⟩))/\
  ∀w2,Mem (LinkW w1 g e (cyc e bs bs.length)) w2->(∃ol' nw',PD w2 p d m e N Fd (fun k=>F k\/k=g) D (bs++[g]) (upF fr g f) ol' nw')/\Ch w.heap.size F w w2:=by
 obtain ⟨a1,a2,a3,a4,a5,a6⟩:=h.pool.apart;have hF:=h.flt;have hlt:=h.pool.lt;have hgl:g<w1.heap.size:=yR hg;have hge:g∉e::bs:=fun e1=>by have:=hlt g (.inr (.inr e1));omega
 have hgp:p≠g:=fun e1=>by have:=hlt p (.inl rfl);omega
 have hgm:m≠g:=fun e1=>by have:=hlt m (.inr (.inl rfl));omega
 have hxg:∀x,x∈e::bs->x≠g:=fun x hx e1=>hge (e1▸hx)
 have hnode:∀x∈e::bs,Node w1 x (upF fr g f x) (ol x) (nw x):=fun x hx=>by
  rw [yT _ _ (hxg x hx)];exact (h.pool.node x hx).keep (hk x (fun e1=>a3 (e1▸hx)) (hlt x (.inr (.inr hx))))
 have hok:∀x∈e::bs,(upF fr g f x).ok:=fun x hx=>by rw [yT _ _ (hxg x hx)];exact h.pool.ok x hx
 have hask:LinkAsk w1 g e (cyc e bs bs.length):=ask_of hnode hok h.pool.ring hg hf hge;have hca:=zN e bs bs.length;refine ⟨hask,?_,fun w2 hm2=>?_⟩
 ·obtain ⟨_,_,_,c3⟩:=h.pool.at;rw [<-c3];exact World.cell?_of_block (a:=⟨p,3,none⟩) (hk p a1 (hlt p (.inl rfl)))
 have hps:psOf (bs++[g]) (upF fr g f)=psOf bs fr++[(f.page,g)]:=by
  unfold psOf;rw [qI]
  congr 1
  ·exact xC (fun x hx=>by rw [yT _ _ (hxg x (jM _ hx))])
  ·simp [yV]
 have hpool:=link_in (w:=w1) (d:=d) (N:=N) (np:=D.n) (fr:=upF fr g f) (vo:=.pointer none) (vn:=.pointer none) ((hk p a1 (hlt p (.inl rfl))).trans h.pool.cells) (by rw [hps];exact hh) hnode (by rw [yV];exact hg) h.pool.ring (fun x hx=>by
   by_cases e1:x=g
   ·subst e1;rw [yV];exact hf
   ·refine hok x ?_;simp only [yK,qV,yM,or_false] at hx ⊢;rcases hx with hx|hx|hx
    ·exact .inl hx
    ·exact .inr hx
    ·exact absurd hx e1) (fun x hx=>by
   by_cases e1:x=g
   ·subst e1;rw [yV];exact hpg
   ·rw [yT _ _ e1];refine h.pool.pg x ?_;simp only [qV,yK,yM,or_false] at hx;rcases hx with hx|hx
    ·exact hx
    ·exact absurd hx e1) (by
   have:=h.pool.ap;have e1:(p::m::e::(bs++[g])).Perm (g::p::m::e::bs):=(List.perm_append_singleton g (p::m::e::bs));rw [e1.nodup_iff,xK];refine ⟨?_,this⟩;simp only [yK,not_or];simp only [yK,not_or] at hge;exact ⟨fun e2=>hgp e2.symm,fun e2=>hgm e2.symm,hge.1,hge.2⟩) h.pool.n8 h.pool.n4 (by omega) h.pool.np4 hm2
 have hsz:w2.heap.size=w1.heap.size:=by
  rw [hm2.1];simp [LinkW]
 refine ⟨⟨_,_,⟨?_,hpool,fun k hk'=>?_,fun k hk'=>?_,fun k hk'=>?_⟩⟩,?_⟩
 ·refine h.dev.keep (by rw [hsz];exact hc.size) (fun k hk'=>?_);have hk2:k∉e::bs:=fun e1=>(h.fd k hk').2 (.inr (.inr e1))
  have hkl:=hF k (h.fd k hk').1;rw [hm2.heap,kL (fun e1=>by omega) (fun e1=>hk2 (by rw [e1];exact hca)) (fun e1=>hk2 (by rw [e1];simp))];exact hk k (fun e1=>(h.fd k hk').2 (.inr (.inl e1))) hkl
 ·have hkl:=hF k (h.fd k hk').1;refine ⟨.inl (h.fd k hk').1,fun e1=>(h.fd k hk').2 ?_⟩;rcases e1 with e1|e1|e1
  ·exact .inl e1
  ·exact .inr (.inl e1)
  ·simp only [yK,qV,yM,or_false] at e1;rcases e1 with e1|e1|e1
   ·exact .inr (.inr (by simp [e1]))
   ·exact .inr (.inr (jM _ e1))
   ·omega
 ·rcases hk' with e1|e1|e1
  ·exact .inl (h.fp k (.inl e1))
  ·exact .inl (h.fp k (.inr (.inl e1)))
  ·simp only [yK,qV,yM,or_false] at e1;rcases e1 with e1|e1|e1
   ·exact .inl (h.fp k (.inr (.inr (by simp [e1]))))
   ·exact .inl (h.fp k (.inr (.inr (jM _ e1))))
   ·exact .inr e1
 ·rw [hsz];rcases hk' with e1|e1
  ·exact qA (hF k e1) hc.size
  ·rw [e1];exact hgl
 ·exact (linkW_ch hc (.inl hgn) (.inr (h.fp _ (.inr (.inr hca)))) (.inr (h.fp _ (.inr (.inr (by simp)))))).trans (hm2.ch _ _)
end
end Go.Proofs.YtaijfhadecennaaGreat.Oct
