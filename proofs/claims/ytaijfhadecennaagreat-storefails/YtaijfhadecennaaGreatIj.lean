/- Part of a proof. -/
import Derived.Test.YtaijfhadecennaaGreatIf
open Go.Proofs.Tryz
set_option maxHeartbeats 4000000
namespace Go.Proofs.YtaijfhadecennaaGreat.Oct
open Go.RowKit
attribute [local go_sem ↓] YL allocA_eq YQ buildA_eq
theorem XD (b:Nat) (t:TypeId) (fr:Nat × Nat):∀(vs:List Value) (o:Nat) (w:World) (cur:Array Value),w.heap[b]?=some (.cells cur t fr)->o+vs.length<=cur.size->
  (w.setCells b o vs).heap[b]?=some (.cells (cur.toList.take o++vs++cur.toList.drop (o+vs.length)).toArray t fr)
 |[],o,w,cur,h,_=>by simp [World.setCells,h]
 |v::r,o,w,cur,h,hl=>by
  simp only [qN] at hl;have h1:=yO w b o v cur t fr h;have:=XD b t fr r (o+1) _ _ h1 (by simp;omega);rw [World.setCells,this];have hl2:cur.toList.length=cur.size:=by simp
  simp only [Array.toList_setIfInBounds,qN];rw [xM,List.take_set_of_le (by omega),qX (by omega),List.drop_set_of_lt (by omega)];simp [yJ,Nat.add_comm 1]
theorem QR (b:Nat):∀(vs:List Value) (o:Nat) (w:World) (k:Nat),k≠b->(w.setCells b o vs).heap[k]?=w.heap[k]?
 |[],_,_,_,_=>rfl
 |v::r,o,w,k,hk=>by
  rw [World.setCells,QR b r (o+1) _ k hk];exact Below.heap_setCell w ⟨b,o,none⟩ v k hk
theorem XO {B:Nat} {G:Nat->Prop} (b:Nat):∀(vs:List Value) (o:Nat) (w0 w:World),Ch B G w0 w->(B<=b\/G b)->Ch B G w0 (w.setCells b o vs)
 |[],_,_,_,h,_=>h
 |v::r,o,w0,_,h,hb=>XO b r (o+1) w0 _ (h.setCell (p:=⟨b,o,none⟩) hb v) hb
theorem QD (b:Nat):∀(vs:List Value) (o:Nat) (w:World),(w.setCells b o vs).heap.size=w.heap.size
 |[],_,_=>rfl
 |v::r,o,w=>by rw [World.setCells,QD b r (o+1)];exact yP _ _ _
theorem fG (w:World) (b o:Nat) (cur:Array Value) (t:TypeId) (cs:List Value) (h:w.heap[b]?=some (.cells cur t (0,0))) (hl:cs.length=256) (ho:o+256<=cur.size) (h1:∀v∈cs,v.oneCell'=true):
  (StoreA (.pointer (some ⟨b,o,none⟩)) (.agg cs.toArray)).run prog w=.ok () (w.setCells b o cs):=by
 have:=run_storeAt_mid (P:=prog) w b o 109 cs.toArray (fun j hj=>by
  simp [hl] at hj;refine ⟨?_,?_⟩
  ·rw [cell_of_row w b _ _ _ (0,0) h];simp;omega
  ·unfold World.frozen?;rw [h];simp) (by rw [size62];simp [hl]) (all_oneCell_toArray h1)
 simpa [StoreA] using this
theorem zeA_cells:zeA=((List.replicate 256 (0:Int)).map (Value.int .u8)).toArray:=by unfold zeA;rw [List.map_replicate]
theorem unread_any (w:World) (pg:Int):Calls prog 108 #[.int .i64 pg] w fun x w'=>x=.returned (.agg zeA)/\Below w.heap.size w w':=by
 have rA:=alloc_a w;have rB:=build_a (w.alloc (.cells zeA 109))
 have rS:(StoreA (.pointer (some ⟨w.heap.size,0,none⟩)) (.agg zeA)).run prog (w.alloc (.cells zeA 109))=.ok () (w.alloc (.cells zeA 109)):=
  store_a w zeA (List.replicate 256 (Value.int .u8 0)) VA jK (fun v hv=>by rw [(List.mem_replicate.1 hv).2];rfl)
 have hz:=VA;obtain ⟨Z,hZ⟩:∃Z,zeA=Z:=⟨_,rfl⟩;rw [hZ] at rA rB rS hz ⊢;clear hZ;go_enter func108,ntmps108
 go_wp2;refine bodyPost_ret (results_cell_row rfl _ _ w.heap.size _ Z (0,0) _ rfl (heap_alloc_new w _) underlying109 rfl (by rw [size62,hz])) rfl ?_;exact ⟨rfl,(Below.refl _ _).alloc (jB _) _⟩
theorem uA (D:Dv):(readD D).n=D.n:=by
 unfold readD;split
 ·rfl
 ·split<;>rfl
def PrEnd (D:Dv) (pg:Nat) (x:Ending):Prop:=(tellsD D=true/\x=.returned (.agg ((pageOf D.now pg).map (Value.int .u8)).toArray))\/(tellsD D=false/\x=thrown 7)
theorem pgLen {D:Dv} (h:D.ok) {pg:Nat} (hp:pg<D.n):(pageOf D.now pg).length=256:=by
 have:=h.now;simp [pageOf];omega
theorem pgBys {D:Dv} (h:D.ok) (pg:Nat):Bys (pageOf D.now pg):=fun z hz=>h.bnow z (jV (jU hz))
section
variable {w:World} {p d m e N:Nat} {Fd F:Nat->Prop} {D:Dv} {bs:List Nat} {fr:Nat->Fr} {ol nw:Nat->Nat}
theorem pread_any (h:PD w p d m e N Fd F D bs fr ol nw) (hops:D.ops<=4611686018427387904) (pg:Nat) (hpg:pg<D.n):
  Calls prog 127 #[.pointer (some ⟨p,0,none⟩),.int .i64 pg] w fun x w'=>PrEnd D pg x/\PD w' p d m e N Fd F (readD D) bs fr ol nw/\Ch w.heap.size F w w':=by
 have rA:=alloc_a w;have hb0:Below w.heap.size w (w.alloc (.cells zeA 109)):=(Below.refl _ w).alloc (jB _) _;have h0:=h.below hb0;obtain ⟨c0,c1,c2,c3⟩:=h0.pool.at;have hrd:=VV h0.dev hops pg hpg;have hpl:=pgLen h.dev.1 hpg;have hpb:=pgBys h.dev.1 pg;have hck:=check_ok;have hcn:=check_no 7 (by decide)
 have hend:∀w1,Dev w1 d Fd (readD D)->Ch (w.alloc (.cells zeA 109)).heap.size Fd (w.alloc (.cells zeA 109)) w1->PD w1 p d m e N Fd F (readD D) bs fr ol nw/\Ch w.heap.size F w w1/\w1.heap[w.heap.size]?=some (.cells zeA 109 (0,0)):=fun w1 h1 h2=>by
  refine ⟨⟨h1,?_,h0.fd,h0.fp,fun k hk=>qA (h0.flt k hk) h2.size⟩,(Ch.of F hb0).trans (h2.mono (by simp) (fun k _ hk=>(h0.fd k hk).1)),?_⟩
  ·rw [uA];exact h0.pool.keep (fun g hg=>h2.block g (h0.flt g (h0.fp g hg)) (fun e1=>(h0.fd g e1).2 hg))
  ·rw [h2.block w.heap.size (by simp) (fun e1=>by have:=h.flt _ (h.fd _ e1).1;omega)];exact heap_alloc_new w _
 have HE:Hid (∀w1,Dev w1 d Fd (readD D)->Ch (w.alloc (.cells zeA 109)).heap.size Fd (w.alloc (.cells zeA 109)) w1->PD w1 p d m e N Fd F (readD D) bs fr ol nw/\Ch w.heap.size F w w1/\w1.heap[w.heap.size]?=some (.cells zeA 109 (0,0))):=hend;have hz:=VA;have HF:Hid (∀k,F k->k<w.heap.size):=h.flt;clear h h0 hend hb0 c1 c2 c3;obtain ⟨Z,hZ⟩:∃Z,zeA=Z:=⟨_,rfl⟩;rw [hZ] at rA hz HE hrd c0;clear hZ;cases ht:tellsD D with
 |true=>
  go_enter func127,ntmps127
  go_wp2_with fail
  refine hrd.mono ?_;clear hrd;rintro x w1 ⟨hx,h1,h2⟩;unfold ReadEnd at hx;rw [if_pos ht] at hx;obtain ⟨g,c,rfl,hown⟩:=hx;obtain ⟨e1,e2,e3⟩:=HE.out w1 h1 h2;have hrow:=(hown.row' hpb).2;obtain ⟨zs,hzs⟩:∃zs,pageOf D.now pg=zs:=⟨_,rfl⟩;rw [hzs] at hrow hpl;have rL:=load_a w1 g 0 (zs.map (Value.int .u8)) (by simp [hpl]) (vK hrow);have rT:(Instr.arrayAt 109 (.slice (some ⟨g,0,none⟩) 256 c)).run prog w1=.ok (.pointer (some ⟨g,0,none⟩)) w1:=by simp [Instr.arrayAt,run_underlying underlying109]
  have rS:=fG w1 w.heap.size 0 Z 109 (zs.map (Value.int .u8)) e3 (by simp [hpl]) (by omega) (zQ zs);have hres:=XD w.heap.size 109 (0,0) (zs.map (Value.int .u8)) 0 w1 Z e3 (by simp [hpl,hz])
  rw [show Z.toList.take 0++zs.map (Value.int .u8)++Z.toList.drop (0+(zs.map (Value.int .u8)).length)=zs.map (Value.int .u8) by
   rw [List.drop_eq_nil_of_le (by simp [hz,hpl])];simp] at hres
  have H1:Hid (PD (w1.setCells w.heap.size 0 (zs.map (Value.int .u8))) p d m e N Fd F (readD D) bs fr ol nw):=e1.keep (xS (QD ..).symm) (fun k hk=>QR _ _ _ _ _ (fun e4=>by have:=HF.out k hk;omega));have H2:Hid (Ch w.heap.size F w (w1.setCells w.heap.size 0 (zs.map (Value.int .u8)))):=XO _ _ _ _ _ e2 (.inl (jB _));have HP:Hid (PrEnd D pg (.returned (.agg (zs.map (Value.int .u8)).toArray))):=.inl ⟨ht,by rw [hzs]⟩;obtain ⟨w2,hw2⟩:∃w2,w1.setCells w.heap.size 0 (zs.map (Value.int .u8))=w2:=⟨_,rfl⟩;rw [hw2] at rS hres H1 H2;have hcz:(zs.map (Value.int .u8)).toArray.size=256:=by simp [hpl]
  obtain ⟨cs,hcs⟩:∃cs,(zs.map (Value.int .u8)).toArray=cs:=⟨_,rfl⟩;rw [hcs] at rL rS hres HP hcz;clear hw2 hcs hzs hrow hown h1 h2 e1 e2 e3 HE hpl hpb;go_wp2_with (go_at_call 172;refine (hck _).mono ?_;rintro x w3 ⟨rfl,rfl⟩)
  refine bodyPost_ret (results_cell_row rfl _ _ w.heap.size _ cs (0,0) _ rfl hres underlying109 rfl (by rw [size62,hcz])) rfl ?_;exact ⟨HP.out,H1.out,H2.out⟩
 |false=>
  go_enter func127,ntmps127
  go_wp2_with fail
  refine hrd.mono ?_;clear hrd;rintro x w1 ⟨hx,h1,h2⟩;unfold ReadEnd at hx;rw [if_neg (by rw [ht];simp)] at hx;obtain rfl:=hx;obtain ⟨e1,e2,_⟩:=HE.out w1 h1 h2;have H1:Hid (PD w1 p d m e N Fd F (readD D) bs fr ol nw):=e1;have H2:Hid (Ch w.heap.size F w w1):=e2;clear h1 h2 e1 e2 HE;go_wp2_with (go_at_call 172;refine (hcn _).mono ?_;rintro x w3 ⟨rfl,rfl⟩;unfold thrown)
  exact ⟨rfl,.inr ⟨ht,rfl⟩,H1.out,H2.out⟩
end
end Go.Proofs.YtaijfhadecennaaGreat.Oct
namespace Go.Proofs.YtaijfhadecennaaGreat.Oct
open Go.RowKit
attribute [local go_sem ↓] FO boxF_eq
def fiP (L:List Fr) (pg:Int):Nat:=L.findIdx (fun f=>decide ((f.page:Int)=pg))
def tkL (D:Dv) (N:Nat) (L:List Fr):List Fr:=if L.length<N then L else if nuP L 0<L.length then (if evE D (L.getD (nuP L 0) fr0)=0 then L.eraseIdx (nuP L 0) else L) else L
def usE (D:Dv) (N:Nat) (L:List Fr) (pg:Nat) (rd:Bool):Int:=if fiP L pg<L.length then 0 else if tkE D N L=0 then (if rd=true/\tellsD (tkD D N L)=false then 7 else 0) else tkE D N L
def usD (D:Dv) (N:Nat) (L:List Fr) (pg:Nat) (rd:Bool):Dv:=if fiP L pg<L.length then D else if tkE D N L=0 then (if rd=true then readD (tkD D N L) else tkD D N L) else tkD D N L
def fst0 (D:Dv) (pg:Nat) (rd:Bool):List Int:=if rd=true then pageOf D.now pg else List.replicate 256 0
def usL (D:Dv) (N:Nat) (L:List Fr) (pg:Nat) (rd:Bool):List Fr:=
 if fiP L pg<L.length then L.eraseIdx (fiP L pg)++[L.getD (fiP L pg) fr0] else if usE D N L pg rd=0 then tkL D N L++[⟨pg,fst0 (tkD D N L) pg rd,false,0⟩] else tkL D N L
theorem YV {α β:Type} (f:α->β) (l:List α) (i:Nat):(l.eraseIdx i).map f=(l.map f).eraseIdx i:=by
 induction l generalizing i with
 |nil=>simp
 |cons a r ih=>cases i<;>simp [ih]
theorem uQ {bs:List Nat} {fr:Nat->Fr} {i e:Nat} (hi:i<bs.length):(bs.map fr).getD i fr0=fr (bs.getD i e):=by
 simp [jC hi]
theorem FW (D:Dv) (N:Nat) (bs:List Nat) (fr:Nat->Fr):(tkB D N bs fr).map fr=tkL D N (bs.map fr):=by
 unfold tkB tkL evB;have hl:(bs.map fr).length=bs.length:=by simp
 rw [hl];split
 ·rfl
 ·split
  ·split
   ·exact YV ..
   ·rfl
  ·rfl
theorem tkB_sub {D:Dv} {N:Nat} {bs:List Nat} {fr:Nat->Fr} {x:Nat} (h:x∈tkB D N bs fr):x∈bs:=by
 unfold tkB evB at h;split at h
 ·exact h
 ·split at h
  ·split at h
   ·exact QQ h
   ·exact h
  ·exact h
theorem tkB_lt {D:Dv} {N:Nat} {bs:List Nat} {fr:Nat->Fr} (hl:bs.length<=N) (h8:8<=N) (h:tkE D N (bs.map fr)=0):(tkB D N bs fr).length<N:=by
 have hll:(bs.map fr).length=bs.length:=by simp
 unfold tkE at h;unfold tkB evB;rw [hll] at h;by_cases h1:bs.length<N
 ·rw [if_pos h1];exact h1
 ·rw [if_neg h1] at h;rw [if_neg h1];by_cases h2:nuP (bs.map fr) 0<bs.length
  ·rw [if_pos h2] at h;rw [if_pos h2,if_pos h,xF h2];omega
  ·rw [if_neg h2] at h;exact absurd h (by decide)
theorem ZD (D:Dv) (pg:Nat) (b:List Int):(writeD D pg b).ops<=D.ops+1/\(writeD D pg b).since.length<=D.since.length+1:=by
 unfold writeD;split
 ·omega
 ·split
  ·simp [wrD,dieD]
  ·split
   ·simp [opD]
   ·simp [wrD,opD]
theorem readD_ops (D:Dv):(readD D).ops<=D.ops+1/\(readD D).since=D.since:=by
 unfold readD;split
 ·exact ⟨by omega,rfl⟩
 ·split
  ·exact ⟨by simp [dieD],rfl⟩
  ·exact ⟨by simp [opD],rfl⟩
theorem evD_ops (D:Dv) (f:Fr):(evD D f).ops<=D.ops+1/\(evD D f).since.length<=D.since.length+1:=by
 unfold evD;split
 ·exact ZD ..
 ·omega
theorem tkD_ops (D:Dv) (N:Nat) (L:List Fr):(tkD D N L).ops<=D.ops+1/\(tkD D N L).since.length<=D.since.length+1:=by
 unfold tkD;split
 ·omega
 ·split
  ·exact evD_ops ..
  ·omega
theorem QV {bs:List Nat} {fr:Nat->Fr} (k:Int) (e:Nat):findP (psOf bs fr) k=if fiP (bs.map fr) k<bs.length then some (bs.getD (fiP (bs.map fr) k) e) else none:=by
 unfold fiP findP psOf
 induction bs with
 |nil=>simp
 |cons b r ih=>
  simp only [qQ,List.find?_cons,List.findIdx_cons,qN];by_cases h:((fr b).page:Int)=k
  ·simp [h]
  ·simp only [h,decide_false,cond_false];rw [ih];by_cases h2:List.findIdx (fun f=>decide ((f.page:Int)=k)) (List.map fr r)<r.length
   ·rw [if_pos h2,if_pos (by omega)];simp
   ·rw [if_neg h2,if_neg (by omega)]
section
variable {w:World} {p d m e N:Nat} {Fd F:Nat->Prop} {D:Dv} {bs:List Nat} {fr:Nat->Fr} {ol nw:Nat->Nat}
def UseEnd (p d N:Nat) (F:Nat->Prop) (D:Dv) (L:List Fr) (pg:Nat) (rd:Bool) (w:World) (x:Ending) (w':World):Prop:=
 ∃m e Fd' F' bs' fr' ol' nw',PD w' p d m e N Fd' F' (usD D N L pg rd) bs' fr' ol' nw'/\bs'.map fr'=usL D N L pg rd/\Step F F' w w'/\((usE D N L pg rd=0/\∃g cs,bs'=cs++[g]/\x=.returned (.pointer (some ⟨g,0,none⟩)))\/(¬usE D N L pg rd=0/\x=thrown (usE D N L pg rd)))
theorem KZ (D:Dv) (N:Nat) (L:List Fr):tkE D N L=0\/tkE D N L=7\/tkE D N L=6:=by
 unfold tkE;split
 ·exact .inl rfl
 ·split
  ·rcases FB D (L.getD (nuP L 0) fr0) with h|h
   ·exact .inl h
   ·exact .inr (.inl h)
  ·exact .inr (.inr rfl)
theorem use_full {x:Ending} {w':World} {pg:Nat} {rd:Bool} (hf:¬fiP (bs.map fr) pg<(bs.map fr).length) (hk:¬tkE D N (bs.map fr)=0) (hx:x=thrown (tkE D N (bs.map fr))) (ht:TakeEnd p d m e N F D bs fr w w'):UseEnd p d N F D (bs.map fr) pg rd w x w':=by
 obtain ⟨Fd',F',fr',ol',nw',h1,h2,h3⟩:=ht;have e1:usE D N (bs.map fr) pg rd=tkE D N (bs.map fr):=by unfold usE;rw [if_neg hf,if_neg hk]
 have e2:usD D N (bs.map fr) pg rd=tkD D N (bs.map fr):=by unfold usD;rw [if_neg hf,if_neg hk]
 refine ⟨m,e,Fd',F',_,fr',ol',nw',by rw [e2];exact h1,?_,h2,.inr ⟨by rw [e1];exact hk,by rw [e1];exact hx⟩⟩;unfold usL;rw [if_neg hf,e1,if_neg hk,<-FW];exact xC h3
set_option maxRecDepth 20000 in
theorem KY (h:PD w p d m e N Fd F D bs fr ol nw) (pg:Nat) (rd:Bool) (v:Value) (hf:fiP (bs.map fr) pg<bs.length):
  Calls prog 107 #[.pointer (some ⟨p,0,none⟩),.int .i64 pg,v] w fun x w'=>UseEnd p d N F D (bs.map fr) pg rd w x w':=by
 obtain ⟨i,hi⟩:∃i,fiP (bs.map fr) pg=i:=⟨_,rfl⟩;have hfind:=QV (bs:=bs) (fr:=fr) pg e;rw [if_pos hf] at hfind;have hLL:(bs.map fr).length=bs.length:=by simp
 have e1:usE D N (bs.map fr) pg rd=0:=by unfold usE;rw [hLL,if_pos hf]
 have e2:usD D N (bs.map fr) pg rd=D:=by unfold usD;rw [hLL,if_pos hf]
 have e3:usL D N (bs.map fr) pg rd=(bs.eraseIdx i++[bs.getD i e]).map fr:=by
  unfold usL;rw [hLL,if_pos hf,hi,qI,YV];rw [uQ (e:=e) (by omega)];rfl
 rw [hi] at hf hfind;have hgm:bs.getD i e∈bs:=zS hf
 have hpgE:(fr (bs.getD i e)).page=pg:=by
  have:=(vQ hfind).2;omega
 have hwf:(Lit.int .i64 (pg:Int)).wf=true:=wfN (by have:=h.pool.pg _ hgm;have:=h.pool.np4;omega);have hlook:=h.pool.held.look pg hwf;rw [hfind] at hlook;have hgm':bs.getD i e∈e::bs:=jM _ hgm;obtain ⟨c0,c1,c2,c3⟩:=h.pool.at;have hcy:cyc e bs (i+1)=bs.getD i e:=JD e bs i hf;have ho:ol (bs.getD i e)=cyc e bs i:=by rw [<-hcy];exact (h.pool.ring i (by omega)).2
 have hw:nw (bs.getD i e)=cyc e bs (i+2):=by rw [<-hcy];exact (h.pool.ring (i+1) (by omega)).1
 obtain ⟨g0,_,_,g3,g4,gz⟩:=(h.pool.node _ hgm').at (h.pool.ok _ hgm');rw [ho] at g3;rw [hw] at g4;obtain ⟨_,_,_,_,ha4,haz⟩:=(h.pool.node _ (zN e bs i)).at (h.pool.ok _ (zN e bs i));obtain ⟨_,_,_,hc3,_,hcz⟩:=(h.pool.node _ (zN e bs (i+2))).at (h.pool.ok _ (zN e bs (i+2)));have hun:=VE w (bs.getD i e) (cyc e bs i) (cyc e bs (i+2)) _ _ g3 g4 ha4 hc3 (haz _) (hcz _)
 have hend:∀w1,Mem ((w.setCell ⟨cyc e bs i,260,none⟩ (.pointer (some ⟨cyc e bs (i+2),0,none⟩))).setCell ⟨cyc e bs (i+2),259,none⟩ (.pointer (some ⟨cyc e bs i,0,none⟩))) w1->
   w1.cell? ⟨p,3,none⟩=some (.pointer (some ⟨e,0,none⟩))/\Calls prog 158 #[.pointer (some ⟨bs.getD i e,0,none⟩),.pointer (some ⟨e,0,none⟩)] w1 fun x w2=>x=.returned (.tuple #[])/\UseEnd p d N F D (bs.map fr) pg rd w (.returned (.pointer (some ⟨bs.getD i e,0,none⟩))) w2:=fun w1 hm=>by
  obtain ⟨r1,r2,r3⟩:=h.relink hf hm;refine ⟨r2,(link_ask r1).mono ?_⟩;rintro x w2 ⟨rfl,hm2⟩;obtain ⟨⟨ol',nw',t1⟩,t2⟩:=r3 w2 hm2;refine ⟨rfl,m,e,Fd,F,_,fr,ol',nw',by rw [e2];exact t1,e3.symm,⟨t2,fun _ h=>.inl h⟩,.inl ⟨e1,_,_,rfl,rfl⟩⟩
 obtain ⟨g,hg⟩:∃g,bs.getD i e=g:=⟨_,rfl⟩;rw [hg] at hun hend hlook;have HE:Hid _:=hend;have hlook':(Instr.lookup 119 (.map (some m)) (.int .i64 pg) false).run prog w=.ok (.pointer (some ⟨g,0,none⟩)) w:=hlook;clear hlook hend h e1 e2 e3 hfind hi hf hgm hgm' hcy ho hw g0 g3 g4 gz ha4 haz hc3 hcz hg hLL hpgE hwf;go_enter func107,ntmps107
 go_wp2_with fail
 refine hun.mono ?_;rintro x w1 ⟨rfl,hm⟩;obtain ⟨d3,hlk⟩:=HE.out w1 hm;clear hm hun HE hlook';go_wp2_with fail
 refine hlk.mono ?_;clear hlk;rintro x w2 ⟨rfl,hu⟩;have HX:Hid (UseEnd p d N F D (bs.map fr) pg rd w (.returned (.pointer (some ⟨g,0,none⟩))) w2):=hu;clear hu;go_wp2;go_ret
 exact HX.out
def NewAsk (p d m:Nat) (N:Nat) (F:Nat->Prop) (D:Dv) (L:List Fr) (pg:Nat) (rd:Bool) (w:World) (zs:List Int) (w2:World):Prop:=
 zs.length=256/\(∀o,(w2.alloc o).cell? ⟨p,2,none⟩=some (.map (some m)))/\∃ps,Held (w2.alloc (.cells (frV ⟨pg,zs,false,0⟩ (.pointer none) (.pointer none)).toArray 118)) m ps/\pg<=1000000/\ps.length<=1000000/\findP ps pg=none/\
  ∀w4,Held w4 m (ps++[(pg,w2.heap.size)])->(w2.alloc (.cells (frV ⟨pg,zs,false,0⟩ (.pointer none) (.pointer none)).toArray 118)).mapTurned w4 m->∃e',w4.cell? ⟨p,3,none⟩=some (.pointer (some ⟨e',0,none⟩))/\Calls prog 158 #[.pointer (some ⟨w2.heap.size,0,none⟩),.pointer (some ⟨e',0,none⟩)] w4 fun x w5=>x=.returned (.tuple #[])/\UseEnd p d N F D L pg rd w (.returned (.pointer (some ⟨w2.heap.size,0,none⟩))) w5
theorem new_ask {w0 w2:World} {F0:Nat->Prop} {D0:Dv} {L0:List Fr} {pg:Nat} {rd:Bool} {zs:List Int} (h:PD w2 p d m e N Fd F D bs fr ol nw) (hzl:zs.length=256) (hzb:Bys zs) (hpg:pg<D.n) (hl:bs.length<N) (hff:findP (psOf bs fr) pg=none) (hst:Step F0 F w0 w2)
  (e1:usE D0 N L0 pg rd=0) (e2:usD D0 N L0 pg rd=D) (e3:usL D0 N L0 pg rd=bs.map fr++[⟨pg,zs,false,0⟩]):NewAsk p d m N F0 D0 L0 pg rd w0 zs w2:=by
 have hb:Below w2.heap.size w2 (w2.alloc (.cells (frV ⟨pg,zs,false,0⟩ (.pointer none) (.pointer none)).toArray 118)):=(Below.refl _ _).alloc (jB _) _;have h3:=h.below hb;have hlt:=h.pool.lt;have hml:=hlt m (.inr (.inl rfl));have hpl:=hlt p (.inl rfl);have hF:=h.flt;obtain ⟨_,_,c2,_⟩:=h.pool.at;have hnp:=h.pool.np4;refine ⟨hzl,fun o=>(World.cell?_alloc_lt _ _ _ hpl).trans c2,psOf bs fr,h3.pool.held,by omega,by simp [psOf];have:=h.pool.len;have:=h.pool.n4;omega,hff,fun w4 hh ht=>?_⟩;have hk:∀k,k≠m->k<w2.heap.size+1->w4.heap[k]?=(w2.alloc (.cells (frV ⟨pg,zs,false,0⟩ (.pointer none) (.pointer none)).toArray 118)).heap[k]?:=fun k hk hl=>UG ht hk (by simp;omega)
 have hgn:w4.heap[w2.heap.size]?=some (.cells (frV ⟨pg,zs,false,0⟩ (.pointer none) (.pointer none)).toArray 118 (0,0)):=(hk _ (by omega) (by omega)).trans (heap_alloc_new w2 _);have hch:Ch w2.heap.size F w2 w4:=(Ch.of F hb).trans ⟨ht.grown.os,ht.grown.tape,ht.grown.output,ht.grown.size,fun k hk' hf=>ht.grown.block k (by simp;omega) (fun e4=>hf (by simp at e4;rw [e4];exact h.fp m (.inr (.inl rfl))))⟩;obtain ⟨r1,r2,r3⟩:=h.newlink (w1:=w4) w2.heap.size ⟨pg,zs,false,0⟩ ⟨hzl,hzb⟩ hpg hl (jB _) hgn hh (fun k hk1 hk2=>(hk k hk1 (by omega)).trans (Below.heap_alloc _ _ _ hk2)) hch;refine ⟨e,r2,(link_ask r1).mono ?_⟩;rintro x w5 ⟨rfl,hm⟩;obtain ⟨⟨ol',nw',t1⟩,t2⟩:=r3 w5 hm;refine ⟨rfl,m,e,Fd,_,_,_,ol',nw',by rw [e2];exact t1,?_,hst.trans ⟨t2,fun k hk'=>?_⟩,.inl ⟨e1,_,_,rfl,rfl⟩⟩
 ·rw [e3,qI]
  congr 1
  ·exact xC (fun x hx=>yT _ _ (fun e4=>by have:=hlt x (.inr (.inr (jM _ hx)));omega))
  ·simp [yV]
 ·rcases hk' with hk'|hk'
  ·exact .inl hk'
  ·exact .inr (by omega)
set_option maxRecDepth 20000 in
theorem use_put (h:PD w p d m e N Fd F D bs fr ol nw) (hops:D.ops<=1000000000) (hs:D.since.length<=1000000) (pg:Nat) (hpg:pg<D.n) (hf:¬fiP (bs.map fr) pg<bs.length):
  Calls prog 107 #[.pointer (some ⟨p,0,none⟩),.int .i64 pg,.func (.func 108) #[] #[]] w fun x w'=>UseEnd p d N F D (bs.map fr) pg false w x w':=by
 have hfind:=QV (bs:=bs) (fr:=fr) pg e;rw [if_neg hf] at hfind;have hLL:(bs.map fr).length=bs.length:=by simp
 have hpl:pg<=1000000:=by have:=h.pool.np4;omega
 have hlook:=h.pool.held.look pg (wfN hpl);rw [hfind] at hlook;have hlook':(Instr.lookup 119 (.map (some m)) (.int .i64 pg) false).run prog w=.ok (.pointer none) w:=hlook;have htk:=take_any h (by omega) hs;obtain ⟨c0,c1,c2,c3⟩:=h.pool.at;have hfull:=fun (x:Ending) (w':World) hk hx ht=>use_full (p:=p) (d:=d) (m:=m) (e:=e) (F:=F) (w:=w) (x:=x) (w':=w') (pg:=pg) (rd:=false) (D:=D) (N:=N) (bs:=bs) (fr:=fr) (by rw [hLL];exact hf) hk hx ht
 have hlen:=h.pool.len;have h8:=h.pool.n8;have HU:Hid _:=hfull;rcases KZ D N (bs.map fr) with t0|t0
 ·rw [t0] at htk;have hlt:=tkB_lt hlen h8 t0
  have hgo:∀w1,TakeEnd p d m e N F D bs fr w w1->w1.cell? ⟨p,2,none⟩=some (.map (some m))/\Calls prog 108 #[.int .i64 pg] w1 fun x w2=>x=.returned (.agg ((List.replicate 256 (0:Int)).map (Value.int .u8)).toArray)/\NewAsk p d m N F D (bs.map fr) pg false w (List.replicate 256 0) w2:=fun w1 ht=>by
   obtain ⟨Fd1,F1,fr1,ol1,nw1,p1,p2,p3⟩:=ht;refine ⟨p1.pool.at.2.2.1,?_⟩;have hn1:(tkD D N (bs.map fr)).n=D.n:=tkD_n ..
   have hff:findP (psOf (tkB D N bs fr) fr1) pg=none:=by
    cases hq:findP (psOf (tkB D N bs fr) fr1) pg with
    |none=>rfl
    |some g=>
     obtain ⟨q1,q2⟩:=vQ hq;rw [p3 g q1] at q2;have:=XZ hfind ((fr g).page,g) (List.mem_map.2 ⟨g,tkB_sub q1,rfl⟩);exact absurd q2.symm this
   have hmp:(tkB D N bs fr).map fr1=tkL D N (bs.map fr):=by rw [<-FW];exact xC p3
   refine (unread_any w1 pg).mono ?_;rintro x w2 ⟨rfl,hb2⟩;refine ⟨by rw [zeA_cells],?_⟩;refine new_ask (p1.below hb2) jK (XC 256) (by rw [hn1];exact hpg) hlt hff (p2.trans ⟨Ch.of F1 hb2,fun _ h=>.inl h⟩) ?_ ?_ ?_
   ·unfold usE;rw [hLL,if_neg hf,if_pos t0,if_neg (by simp)]
   ·unfold usD;rw [hLL,if_neg hf,if_pos t0,if_neg (by simp)]
   ·have eE:usE D N (bs.map fr) pg false=0:=by unfold usE;rw [hLL,if_neg hf,if_pos t0,if_neg (by simp)]
    unfold usL;rw [hLL,if_neg hf,eE,if_pos rfl,hmp];rfl
  have HG:Hid _:=hgo;clear hgo hlen h8 hlook hfind hfull HU h hf hLL hlt;go_enter func107,ntmps107
  go_wp2_with fail
  refine htk.mono ?_;clear htk;rintro x w1 ⟨hx,ht⟩
  obtain rfl:x=.returned (.tuple #[]):=by
   rcases hx with hx|hx
   ·exact hx.2
   ·exact absurd rfl hx.1
  obtain ⟨d2,hfs⟩:=HG.out w1 ht;clear HG ht hx hlook';go_wp2_with fail
  refine hfs.mono ?_;clear hfs;rintro x w2 ⟨rfl,hask⟩;obtain ⟨zs,hzs⟩:∃zs:List Int,List.replicate 256 0=zs:=⟨_,rfl⟩;rw [hzs] at hask ⊢;clear hzs;obtain ⟨hzl,d3,ps,hh,hp1,hp2,hp3,hnx⟩:=hask;have rB:=build_f w2 pg zs hzl;have rX:=box_f w2 (frV ⟨pg,zs,false,0⟩ (.pointer none) (.pointer none)).toArray;have HH:Hid _:=hh;have HN:Hid _:=hnx;have d4:=d3 (.cells (frV ⟨pg,zs,false,0⟩ (.pointer none) (.pointer none)).toArray 118);clear hh hnx hzl d3;obtain ⟨cs,hcs⟩:∃cs,(frV ⟨pg,zs,false,0⟩ (.pointer none) (.pointer none)).toArray=cs:=⟨_,rfl⟩;rw [hcs] at rB rX HH HN d4;clear hcs;go_wp2_with (at_mapUpdate;refine YC _ rfl _ _ _ rfl m pg w2.heap.size ps rfl rfl rfl HH.out hp1 hp2 hp3 ?_;intro w4 hh4 ht4;obtain ⟨e',d5,hlk⟩:=HN.out w4 hh4 ht4;clear hh4 ht4)
  refine hlk.mono ?_;clear hlk HN HH;rintro x w5 ⟨rfl,hu⟩;have HX:Hid (UseEnd p d N F D (bs.map fr) pg false w (.returned (.pointer (some ⟨w2.heap.size,0,none⟩))) w5):=hu;clear hu;go_wp2;go_ret
  exact HX.out
 ·have t1:¬tkE D N (bs.map fr)=0:=by rcases t0 with t0|t0<;>rw [t0]<;>decide
  obtain ⟨T,hT⟩:∃T,tkE D N (bs.map fr)=T:=⟨_,rfl⟩;rw [hT] at htk t1 HU;clear t0 hT hlen h8 hlook hfind hfull h hf hLL;go_enter func107,ntmps107
  go_wp2_with fail
  refine htk.mono ?_;clear htk;rintro x w1 ⟨hx,ht⟩
  obtain rfl:x=thrown T:=by
   rcases hx with hx|hx
   ·exact absurd hx.1 t1
   ·exact hx.2
  have HE:Hid (UseEnd p d N F D (bs.map fr) pg false w (thrown T) w1):=HU.out _ _ t1 rfl ht;clear hx ht HU t1;unfold thrown at HE ⊢;go_wp2;exact ⟨rfl,HE.out⟩
set_option maxRecDepth 20000 in
theorem use_pin (h:PD w p d m e N Fd F D bs fr ol nw) (hops:D.ops<=1000000000) (hs:D.since.length<=1000000) (pg:Nat) (hpg:pg<D.n) (hf:¬fiP (bs.map fr) pg<bs.length):
  Calls prog 107 #[.pointer (some ⟨p,0,none⟩),.int .i64 pg,.func (.func 127) #[.pointer (some ⟨p,0,none⟩)] #[]] w fun x w'=>UseEnd p d N F D (bs.map fr) pg true w x w':=by
 have hfind:=QV (bs:=bs) (fr:=fr) pg e;rw [if_neg hf] at hfind;have hLL:(bs.map fr).length=bs.length:=by simp
 have hpl:pg<=1000000:=by have:=h.pool.np4;omega
 have hlook:=h.pool.held.look pg (wfN hpl);rw [hfind] at hlook;have hlook':(Instr.lookup 119 (.map (some m)) (.int .i64 pg) false).run prog w=.ok (.pointer none) w:=hlook;have htk:=take_any h (by omega) hs;obtain ⟨c0,c1,c2,c3⟩:=h.pool.at;have hfull:=fun (x:Ending) (w':World) hk hx ht=>use_full (p:=p) (d:=d) (m:=m) (e:=e) (F:=F) (w:=w) (x:=x) (w':=w') (pg:=pg) (rd:=true) (D:=D) (N:=N) (bs:=bs) (fr:=fr) (by rw [hLL];exact hf) hk hx ht
 have hlen:=h.pool.len;have h8:=h.pool.n8;have HU:Hid _:=hfull;rcases KZ D N (bs.map fr) with t0|t0
 ·rw [t0] at htk;have hlt:=tkB_lt hlen h8 t0
  have hgo:∀w1,TakeEnd p d m e N F D bs fr w w1->w1.cell? ⟨p,2,none⟩=some (.map (some m))/\Calls prog 127 #[.pointer (some ⟨p,0,none⟩),.int .i64 pg] w1 fun x w2=>(∃zs:List Int,x=.returned (.agg (zs.map (Value.int .u8)).toArray)/\NewAsk p d m N F D (bs.map fr) pg true w zs w2)\/(x=thrown 7/\UseEnd p d N F D (bs.map fr) pg true w (thrown 7) w2):=fun w1 ht=>by
   obtain ⟨Fd1,F1,fr1,ol1,nw1,p1,p2,p3⟩:=ht;refine ⟨p1.pool.at.2.2.1,?_⟩;have hn1:(tkD D N (bs.map fr)).n=D.n:=tkD_n ..
   have hff:findP (psOf (tkB D N bs fr) fr1) pg=none:=by
    cases hq:findP (psOf (tkB D N bs fr) fr1) pg with
    |none=>rfl
    |some g=>
     obtain ⟨q1,q2⟩:=vQ hq;rw [p3 g q1] at q2;have:=XZ hfind ((fr g).page,g) (List.mem_map.2 ⟨g,tkB_sub q1,rfl⟩);exact absurd q2.symm this
   have hmp:(tkB D N bs fr).map fr1=tkL D N (bs.map fr):=by rw [<-FW];exact xC p3
   have hop1:=tkD_ops D N (bs.map fr);refine (pread_any p1 (by omega) pg (by rw [hn1];exact hpg)).mono ?_;rintro x w2 ⟨hx,h2,c2⟩;have hst:Step F F1 w w2:=p2.trans ⟨c2,fun _ h=>.inl h⟩;have eD:usD D N (bs.map fr) pg true=readD (tkD D N (bs.map fr)):=by unfold usD;rw [hLL,if_neg hf,if_pos t0,if_pos rfl]
   rcases hx with ⟨hx1,rfl⟩|⟨hx1,rfl⟩
   ·have eE:usE D N (bs.map fr) pg true=0:=by unfold usE;rw [hLL,if_neg hf,if_pos t0,if_neg (by simp [hx1])]
    refine .inl ⟨_,rfl,?_⟩;refine new_ask h2 (pgLen p1.dev.1 (by rw [hn1];exact hpg)) (pgBys p1.dev.1 pg) (by rw [uA,hn1];exact hpg) hlt hff hst eE eD ?_;unfold usL;rw [hLL,if_neg hf,eE,if_pos rfl,hmp];rfl
   ·have eE:usE D N (bs.map fr) pg true=7:=by unfold usE;rw [hLL,if_neg hf,if_pos t0,if_pos ⟨rfl,hx1⟩]
    refine .inr ⟨rfl,m,e,Fd1,F1,_,fr1,ol1,nw1,by rw [eD];exact h2,?_,hst,.inr ⟨by rw [eE];decide,by rw [eE]⟩⟩;unfold usL;rw [hLL,if_neg hf,eE,if_neg (by decide),hmp]
  have HG:Hid _:=hgo;clear hgo hlen h8 hlook hfind hfull HU h hf hLL hlt;go_enter func107,ntmps107
  go_wp2_with fail
  refine htk.mono ?_;clear htk;rintro x w1 ⟨hx,ht⟩
  obtain rfl:x=.returned (.tuple #[]):=by
   rcases hx with hx|hx
   ·exact hx.2
   ·exact absurd rfl hx.1
  obtain ⟨d2,hfs⟩:=HG.out w1 ht;clear HG ht hx hlook';go_wp2_with fail
  refine hfs.mono ?_;clear hfs;rintro x w2 (⟨zs,rfl,hask⟩|⟨rfl,hu⟩)
  ·skip
   obtain ⟨hzl,d3,ps,hh,hp1,hp2,hp3,hnx⟩:=hask;have rB:=build_f w2 pg zs hzl;have rX:=box_f w2 (frV ⟨pg,zs,false,0⟩ (.pointer none) (.pointer none)).toArray;have HH:Hid _:=hh;have HN:Hid _:=hnx;have d4:=d3 (.cells (frV ⟨pg,zs,false,0⟩ (.pointer none) (.pointer none)).toArray 118);clear hh hnx hzl d3;obtain ⟨cs,hcs⟩:∃cs,(frV ⟨pg,zs,false,0⟩ (.pointer none) (.pointer none)).toArray=cs:=⟨_,rfl⟩;rw [hcs] at rB rX HH HN d4;clear hcs;go_wp2_with (at_mapUpdate;refine YC _ rfl _ _ _ rfl m pg w2.heap.size ps rfl rfl rfl HH.out hp1 hp2 hp3 ?_;intro w4 hh4 ht4;obtain ⟨e',d5,hlk⟩:=HN.out w4 hh4 ht4;clear hh4 ht4)
   refine hlk.mono ?_;clear hlk HN HH;rintro x w5 ⟨rfl,hu⟩;have HX:Hid (UseEnd p d N F D (bs.map fr) pg true w (.returned (.pointer (some ⟨w2.heap.size,0,none⟩))) w5):=hu;clear hu;go_wp2;go_ret
   exact HX.out
  ·have HE:Hid (UseEnd p d N F D (bs.map fr) pg true w (thrown 7) w2):=hu;clear hu;unfold thrown at HE ⊢;go_wp2;exact ⟨rfl,HE.out⟩
 ·have t1:¬tkE D N (bs.map fr)=0:=by rcases t0 with t0|t0<;>rw [t0]<;>decide
  obtain ⟨T,hT⟩:∃T,tkE D N (bs.map fr)=T:=⟨_,rfl⟩;rw [hT] at htk t1 HU;clear t0 hT hlen h8 hlook hfind hfull h hf hLL;go_enter func107,ntmps107
  go_wp2_with fail
  refine htk.mono ?_;clear htk;rintro x w1 ⟨hx,ht⟩
  obtain rfl:x=thrown T:=by
   rcases hx with hx|hx
   ·exact absurd hx.1 t1
   ·exact hx.2
  have HE:Hid (UseEnd p d N F D (bs.map fr) pg true w (thrown T) w1):=HU.out _ _ t1 rfl ht;clear hx ht HU t1;unfold thrown at HE ⊢;go_wp2;exact ⟨rfl,HE.out⟩
end
end Go.Proofs.YtaijfhadecennaaGreat.Oct
namespace Go.Proofs.YtaijfhadecennaaGreat.Oct
open Go.RowKit
attribute [local go_sem ↓] YL YQ
def lastUp (L:List Fr) (h:Fr->Fr):List Fr:=L.dropLast++[h (L.getLastD fr0)]
theorem QK (L:List Fr) (f:Fr) (h:Fr->Fr):lastUp (L++[f]) h=L++[h f]:=by
 simp [lastUp]
def pnL (D:Dv) (N:Nat) (L:List Fr) (pg:Nat):List Fr:=if usE D N L pg true=0 then lastUp (usL D N L pg true) (fun f=>{f with pins:=f.pins+1}) else usL D N L pg true
def pnB (D:Dv) (N:Nat) (L:List Fr) (pg:Nat):List Int:=((usL D N L pg true).getLastD fr0).b
def ptF (D:Dv) (N:Nat) (L:List Fr) (pg:Nat) (b:List Int):List Fr:=if usE D N L pg false=0 then lastUp (usL D N L pg false) (fun f=>{f with b:=b,dirty:=true}) else usL D N L pg false
def CellAt (w:World) (q:Nat) (v:Value) (t:TypeId):Prop:=w.heap[q]?=some (.cells #[v] t (0,0))
theorem CellAt.at {w:World} {q:Nat} {v:Value} {t:TypeId} (h:CellAt w q v t):w.cell? ⟨q,0,none⟩=some v/\w.frozen? ⟨q,0,none⟩=false:=by
 unfold CellAt at h;refine ⟨?_,?_⟩
 ·rw [cell_of_row w q _ _ _ (0,0) h];rfl
 ·unfold World.frozen?;rw [h];simp
theorem CellAt.set {w:World} {q:Nat} {v:Value} {t:TypeId} (h:CellAt w q v t) (y:Value):CellAt (w.setCell ⟨q,0,none⟩ y) q y t:=by
 unfold CellAt at h ⊢;rw [yO w q 0 _ _ _ _ h];rfl
theorem CellAt.keep {w w':World} {q:Nat} {v:Value} {t:TypeId} (h:CellAt w q v t) (k:w'.heap[q]?=w.heap[q]?):CellAt w' q v t:=k.trans h
theorem CellAt.lt {w:World} {q:Nat} {v:Value} {t:TypeId} (h:CellAt w q v t):q<w.heap.size:=yR h
section
variable {w:World} {p d m e N:Nat} {Fd F:Nat->Prop} {D:Dv} {bs:List Nat} {fr:Nat->Fr} {ol nw:Nat->Nat}
theorem usePin_any (h:PD w p d m e N Fd F D bs fr ol nw) (hops:D.ops<=1000000000) (hs:D.since.length<=1000000) (pg:Nat) (hpg:pg<D.n):
  Calls prog 107 #[.pointer (some ⟨p,0,none⟩),.int .i64 pg,.func (.func 127) #[.pointer (some ⟨p,0,none⟩)] #[]] w fun x w'=>UseEnd p d N F D (bs.map fr) pg true w x w':=by
 by_cases hf:fiP (bs.map fr) pg<bs.length
 ·exact KY h pg true _ hf
 ·exact use_pin h hops hs pg hpg hf
theorem usePut_any (h:PD w p d m e N Fd F D bs fr ol nw) (hops:D.ops<=1000000000) (hs:D.since.length<=1000000) (pg:Nat) (hpg:pg<D.n):
  Calls prog 107 #[.pointer (some ⟨p,0,none⟩),.int .i64 pg,.func (.func 108) #[] #[]] w fun x w'=>UseEnd p d N F D (bs.map fr) pg false w x w':=by
 by_cases hf:fiP (bs.map fr) pg<bs.length
 ·exact KY h pg false _ hf
 ·exact use_put h hops hs pg hpg hf
theorem usL_pins {B:Nat} {D:Dv} {N:Nat} {L:List Fr} {pg:Nat} {rd:Bool} (h:∀f∈L,f.pins<=B):∀f∈usL D N L pg rd,f.pins<=B:=by
 have ht:∀f∈tkL D N L,f∈L:=fun f hf=>by
  unfold tkL at hf;split at hf
  ·exact hf
  ·split at hf
   ·split at hf
    ·exact List.mem_of_mem_eraseIdx hf
    ·exact hf
   ·exact hf
 intro f hf;unfold usL at hf;split at hf
 ·rename_i hi
  rcases List.mem_append.1 hf with hf|hf
  ·exact h f (List.mem_of_mem_eraseIdx hf)
  ·simp at hf;rw [hf,jC hi,qJ];exact h _ (qB hi)
 ·split at hf
  ·rcases List.mem_append.1 hf with hf|hf
   ·exact h f (ht f hf)
   ·simp at hf;rw [hf];simp
  ·exact h f (ht f hf)
end
end Go.Proofs.YtaijfhadecennaaGreat.Oct
namespace Go.Proofs.YtaijfhadecennaaGreat.Oct
open Go.RowKit
attribute [local go_sem ↓] YL YQ
section
variable {w:World} {p d m e N:Nat} {Fd F:Nat->Prop} {D:Dv} {bs:List Nat} {fr:Nat->Fr} {ol nw:Nat->Nat}
def Put1R (p d N:Nat) (F:Nat->Prop) (D:Dv) (L:List Fr) (pg:Nat) (b:List Int) (w:World) (k:Int) (w':World):Prop:=
 k=usE D N L pg false/\(∃F',Pool w' p d F' (usD D N L pg false) N (ptF D N L pg b)/\∀j,F' j->F j\/w.heap.size<=j)/\Ch w.heap.size F w w'
theorem PD.setBytes (h:PD w p d m e N Fd F D bs fr ol nw) {g:Nat} (hg:g∈bs) (b:List Int) (hb:b.length=256) (hy:Bys b):PD (w.setCells g 1 (b.map (Value.int .u8))) p d m e N Fd F D bs (upF fr g {fr g with b:=b}) ol nw:=by
 have hg':g∈e::bs:=jM _ hg;have hok:=h.pool.ok g hg';refine h.setN hg _ ?_ (fun k hk=>QR _ _ _ _ _ hk) (QD _ _ _ _) ⟨hb,hy⟩ rfl;have hl:=frC_len hok (ol g) (nw g);have:=XD g 118 (0,0) (b.map (Value.int .u8)) 1 w _ (h.pool.node g hg') (by simp [hb,hl]);unfold Node;rw [this];have e1:=set_bytes hok (ol g) (nw g) b;rw [<-e1];simp [hb]
set_option maxRecDepth 20000 in
theorem put1_any (h:PD w p d m e N Fd F D bs fr ol nw) (hops:D.ops<=1000000000) (hs:D.since.length<=1000000) (pg:Nat) (hpg:pg<D.n) (rp rg rb:Nat) (ab ao cap:Nat) (b:List Int)
  (hp:CellAt w rp (.pointer (some ⟨p,0,none⟩)) 73) (hg:CellAt w rg (.int .i64 pg) 3) (hb:CellAt w rb (.slice (some ⟨ab,ao,none⟩) 256 cap) 32) (hbF:¬F rb) (hbl:b.length=256) (hrow:Row w (some ⟨ab,ao,none⟩) cap b) (haF:¬F ab):
  Calls prog 106 #[.pointer (some ⟨rp,0,none⟩),.pointer (some ⟨rg,0,none⟩),.pointer (some ⟨rb,0,none⟩)] w fun x w'=>∃k,CEnd k x/\Put1R p d N F D (bs.map fr) pg b w k w':=by
 obtain ⟨p1,_⟩:=hp.at;obtain ⟨g1,_⟩:=hg.at;have hu:=usePut_any h hops hs pg hpg;have hrl:=hb.lt;have HB:Hid (CellAt w rb (.slice (some ⟨ab,ao,none⟩) 256 cap) 32):=hb;have HRow:Hid (Row w (some ⟨ab,ao,none⟩) cap b):=hrow;clear h hp hg hb hrow;go_enter func106,ntmps106
 go_wp2_with fail
 refine hu.mono ?_;clear hu;rintro x w1 ⟨m1,e1,Fd1,F1,bs1,fr1,ol1,nw1,h1,hL,hst,hx⟩;have hb1:CellAt w1 rb (.slice (some ⟨ab,ao,none⟩) 256 cap) 32:=HB.out.keep (hst.1.block rb hrl hbF);rcases hx with ⟨hE,g,cs,rfl,rfl⟩|⟨hE,rfl⟩
 ·have hgm:g∈cs++[g]:=by simp
  have hgm':g∈e1::(cs++[g]):=jM _ hgm;have hgF:F1 g:=h1.fp g (.inr (.inr hgm'));have hok:=h1.pool.ok g hgm';have hrow1:Row w1 (some ⟨ab,ao,none⟩) cap b:=HRow.out.ch hst.1 (fun x hx=>by cases hx;exact haF);have h2:=h1.setBytes hgm b hbl HRow.out.1;obtain ⟨_,x2,_,_,_,xz⟩:=(h2.pool.node g hgm').at (h2.pool.ok g hgm');have hz2:=xz 257;rw [yV] at x2;have h3:=h2.setDirty hgm true;have rL:=load_a w1 ab ao (b.map (Value.int .u8)) (by simp [hbl]) (vK hrow1);have rT:(Instr.arrayAt 109 (.slice (some ⟨ab,ao,none⟩) 256 cap)).run prog w1=.ok (.pointer (some ⟨ab,ao,none⟩)) w1:=by simp [Instr.arrayAt,run_underlying underlying109]
  have rS:=fG w1 g 1 _ 118 (b.map (Value.int .u8)) (h1.pool.node g hgm') (by simp [hbl]) (by simp [frC_len hok]) (zQ b)
  have hlast:ptF D N (bs.map fr) pg b=(cs++[g]).map (upF (upF fr1 g {fr1 g with b:=b}) g {upF fr1 g {fr1 g with b:=b} g with dirty:=true}):=by
   have hnd:=h1.pool.apart.2.2.2.2.2;unfold ptF;rw [if_pos hE,<-hL,qI,qI,qQ,xR,qQ,xR,QK,yV,yV]
   congr 1
   refine xC (fun y hy=>?_)
   have hyg:y≠g:=fun e2=>by
    rw [List.nodup_append] at hnd;exact hnd.2.2 y hy g (by simp) e2
   rw [yT _ _ hyg,yT _ _ hyg]
  have hR:Put1R p d N F D (bs.map fr) pg b w 0 ((w1.setCells g 1 (b.map (Value.int .u8))).setCell ⟨g,257,none⟩ (.bool true)):=by
   refine ⟨hE.symm,⟨F1,⟨Fd1,m1,e1,_,_,ol1,nw1,h3,hlast⟩,hst.2⟩,?_⟩
   have hgo:w.heap.size<=g\/F g:=by
    rcases hst.2 g hgF with e3|e3
    ·exact .inr e3
    ·exact .inl e3
   exact (XO g _ _ _ _ hst.1 hgo).setCell (p:=⟨g,257,none⟩) hgo _
  obtain ⟨q1,_⟩:=hb1.at;have HR:Hid (Put1R p d N F D (bs.map fr) pg b w 0 ((w1.setCells g 1 (b.map (Value.int .u8))).setCell ⟨g,257,none⟩ (.bool true))):=hR;obtain ⟨w2,hw2⟩:∃w2,w1.setCells g 1 (b.map (Value.int .u8))=w2:=⟨_,rfl⟩;obtain ⟨ba,hba⟩:∃ba,(b.map (Value.int .u8)).toArray=ba:=⟨_,rfl⟩;rw [hw2] at rS HR x2 hz2;rw [hba] at rL rS;clear h1 h2 h3 hL hst hE xz hgm hgm' hb1 hlast hR hok hrow1 hw2 hba;go_wp2;go_end0
  exact ⟨0,.inl ⟨rfl,rfl⟩,HR.out⟩
 ·obtain ⟨E,hEE⟩:∃E,usE D N (bs.map fr) pg false=E:=⟨_,rfl⟩;have hR:Put1R p d N F D (bs.map fr) pg b w E w1:=⟨hEE.symm,⟨F1,⟨Fd1,m1,e1,bs1,fr1,ol1,nw1,h1,by unfold ptF;rw [if_neg hE,hL]⟩,hst.2⟩,hst.1⟩;rw [hEE] at hE ⊢;have HR:Hid (Put1R p d N F D (bs.map fr) pg b w E w1):=hR;have HE:Hid (¬E=0):=hE;clear h1 hL hst hb1 hR hE hEE;unfold thrown;go_wp2;exact ⟨rfl,E,.inr ⟨HE.out,rfl⟩,HR.out⟩
end
section
variable {w:World} {p d N:Nat} {F:Nat->Prop} {D:Dv} {L:List Fr}
def PinR (D:Dv) (N:Nat) (L:List Fr) (pg:Nat) (w:World) (x:Ending) (w':World):Prop:=
 (usE D N L pg true=0/\∃g c,x=.returned (.tuple #[.slice (some ⟨g,0,none⟩) 256 c,.int .i64 0])/\Own w.heap.size w' (.slice (some ⟨g,0,none⟩) 256 c) (pnB D N L pg))\/(¬usE D N L pg true=0/\x=.returned (.tuple #[.slice none 0 0,.int .i64 (usE D N L pg true)]))
theorem QW (w:World) (v:Value) (t:TypeId):CellAt (w.alloc (.cells #[v] t)) w.heap.size v t:=heap_alloc_new w _
theorem CellAt.alloc {w:World} {q:Nat} {v:Value} {t:TypeId} (h:CellAt w q v t) (o:Obj):CellAt (w.alloc o) q v t:=h.keep (Below.heap_alloc _ _ _ h.lt)
end
end Go.Proofs.YtaijfhadecennaaGreat.Oct
