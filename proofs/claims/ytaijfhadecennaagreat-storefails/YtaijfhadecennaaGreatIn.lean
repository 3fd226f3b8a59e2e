/- Part of a proof. -/
import Derived.Test.YtaijfhadecennaaGreatIj
import Derived.Shelf.Sort.Plain
import Derived.Shelf.Slices.In.SortNone
import Derived.Ground.SlbNamesProg
import Derived.Shelf.Bytes.SlCountOne
import Derived.Test.YtaijfhadecennaaGreatProg
import Derived.Test.YtaijfhadecennaaGreatRi
import Derived.Sort.OwnSortedInts
import Derived.Sort.KeysCollected
open Go.Proofs.Tryz
set_option maxHeartbeats 4000000
namespace Go.Proofs.YtaijfhadecennaaGreat.Oct
open Go.RowKit
section
variable {w:World} {p d N:Nat} {F:Nat->Prop} {D:Dv} {L:List Fr}
theorem Put_any (h:Pool w p d F D N L) (hops:D.ops<=1000000000) (hs:D.since.length<=1000000) (pg:Nat) (hpg:pg<D.n) (ab ao cap:Nat) (b:List Int) (hbl:b.length=256) (hrow:Row w (some ⟨ab,ao,none⟩) cap b) (haF:¬F ab):
  Calls prog 58 #[.pointer (some ⟨p,0,none⟩),.int .i64 pg,.slice (some ⟨ab,ao,none⟩) 256 cap] w fun x w'=>x=.returned (.int .i64 (usE D N L pg false))/\∃F',Pool w' p d F' (usD D N L pg false) N (ptF D N L pg b)/\Step F F' w w':=by
 obtain ⟨Fd,m,e,bs,fr,ol,nw,h,rfl⟩:=h;have hmf:∀(fn:Fn) (first cap:Array Value) (w:World),(Instr.makeFunc fn first cap).run prog w=.ok (.func fn first cap) w:=fun _ _ _ _=>rfl
 have hF:=h.flt;have hb0:Below w.heap.size w (((w.alloc (.cells #[.pointer (some ⟨p,0,none⟩)] 73)).alloc (.cells #[.int .i64 pg] 3)).alloc (.cells #[.slice (some ⟨ab,ao,none⟩) 256 cap] 32)):=(((Below.refl _ w).alloc (jB _) _).alloc (by simp) _).alloc (by simp;omega) _;have h0:=h.below hb0;have k1:CellAt (((w.alloc (.cells #[.pointer (some ⟨p,0,none⟩)] 73)).alloc (.cells #[.int .i64 pg] 3)).alloc (.cells #[.slice (some ⟨ab,ao,none⟩) 256 cap] 32)) w.heap.size (.pointer (some ⟨p,0,none⟩)) 73:=((QW _ _ _).alloc _).alloc _
 have k2:CellAt (((w.alloc (.cells #[.pointer (some ⟨p,0,none⟩)] 73)).alloc (.cells #[.int .i64 pg] 3)).alloc (.cells #[.slice (some ⟨ab,ao,none⟩) 256 cap] 32)) (w.heap.size+1) (.int .i64 pg) 3:=by
  have:=(QW (w.alloc (.cells #[.pointer (some ⟨p,0,none⟩)] 73)) (.int .i64 pg) 3).alloc (.cells #[.slice (some ⟨ab,ao,none⟩) 256 cap] 32)
  simpa using this
 have k3:CellAt (((w.alloc (.cells #[.pointer (some ⟨p,0,none⟩)] 73)).alloc (.cells #[.int .i64 pg] 3)).alloc (.cells #[.slice (some ⟨ab,ao,none⟩) 256 cap] 32)) (w.heap.size+2) (.slice (some ⟨ab,ao,none⟩) 256 cap) 32:=by
  have:=QW ((w.alloc (.cells #[.pointer (some ⟨p,0,none⟩)] 73)).alloc (.cells #[.int .i64 pg] 3)) (.slice (some ⟨ab,ao,none⟩) 256 cap) 32
  simpa using this
 have hm:=zV h0;have hh:=UK h0 pg;rw [show hasB D pg=true by simp [hasB];omega] at hh;have hsz:(((w.alloc (.cells #[.pointer (some ⟨p,0,none⟩)] 73)).alloc (.cells #[.int .i64 pg] 3)).alloc (.cells #[.slice (some ⟨ab,ao,none⟩) 256 cap] 32)).heap.size=w.heap.size+3:=by simp
 obtain ⟨W,hW⟩:∃W,((w.alloc (.cells #[.pointer (some ⟨p,0,none⟩)] 73)).alloc (.cells #[.int .i64 pg] 3)).alloc (.cells #[.slice (some ⟨ab,ao,none⟩) 256 cap] 32)=W:=⟨_,rfl⟩;rw [hW] at hb0 h0 k1 k2 k3 hm hh hsz;have hbe:Below W.heap.size W (W.alloc (.cells #[.int .i64 0] 25)):=(Below.refl _ W).alloc (jB _) _;have hput:=put1_any (h0.below hbe) hops hs pg hpg w.heap.size (w.heap.size+1) (w.heap.size+2) ab ao cap b (k1.alloc _) (k2.alloc _) (k3.alloc _) (fun e1=>by have:=hF _ e1;omega) hbl ((hrow.below hb0).below hbe) haF
 have hca:=caught_Put W #[.pointer (some ⟨w.heap.size,0,none⟩),.pointer (some ⟨w.heap.size+1,0,none⟩),.pointer (some ⟨w.heap.size+2,0,none⟩)] (Put1R p d N F D (bs.map fr) pg b (W.alloc (.cells #[.int .i64 0] 25))) (hput.mono (by
  rintro x w1 ⟨k,hx,hr⟩;refine ⟨k,hx,hr,(hr.2.2.block W.heap.size (by simp) (fun e1=>?_)).trans (GK W)⟩;have:=hF _ e1;omega))
 have hfin:Calls prog 105 #[.func (.func 106) #[] #[.pointer (some ⟨w.heap.size,0,none⟩),.pointer (some ⟨w.heap.size+1,0,none⟩),.pointer (some ⟨w.heap.size+2,0,none⟩)]] W fun x w'=>x=.returned (.int .i64 (usE D N (bs.map fr) pg false))/\
   ∃F',Pool w' p d F' (usD D N (bs.map fr) pg false) N (ptF D N (bs.map fr) pg b)/\Step F F' w w':=hca.mono (by
  rintro x w' ⟨k,w1,rfl,hr,he,rfl⟩;obtain ⟨r1,⟨F',r2,r3⟩,r4⟩:=hr;have hs1:W.heap.size+1<=w1.heap.size:=by have:=r4.size;simpa using this
  refine ⟨by rw [r1],F',r2.keep (by rw [yP];exact jB _) (fun j hj=>Below.heap_setCell w1 ⟨W.heap.size,0,none⟩ _ j (fun e1=>?_)),?_,fun j hj=>?_⟩
  ·have e1':j=W.heap.size:=e1;rcases r3 j hj with e2|e2
   ·have:=hF _ e2;omega
   ·simp at e2;omega
  ·have c1:Ch w.heap.size F w w1:=(Ch.of F hb0).trans (((Ch.of F hbe).mono (by omega) (fun _ _ e=>e)).trans (r4.mono (by simp;omega) (fun j hj e1=>e1)));exact c1.setCell (p:=⟨W.heap.size,0,none⟩) (.inl (by show w.heap.size<=W.heap.size;omega)) _
  ·rcases r3 j hj with e3|e3
   ·exact .inl e3
   ·exact .inr (by simp at e3;omega))
 clear hca hput h0 h k1 k2 k3 hF hbe hb0 hsz hrow;rw [<-hW] at hm hh hfin;clear hW;obtain ⟨E,hE⟩:∃E,usE D N (bs.map fr) pg false=E:=⟨_,rfl⟩;rw [hE] at hfin ⊢;clear hE;go_enter func58,ntmps58
 go_wp2_with (first|(go_at_call 103;refine hm.mono ?_;rintro x w' ⟨rfl,rfl⟩)|(go_at_call 104;refine hh.mono ?_;rintro x w' ⟨rfl,rfl⟩))
 refine hfin.mono ?_;clear hfin hm hh;rintro x w2 ⟨rfl,hres⟩;have HR:Hid (∃F',Pool w2 p d F' (usD D N (bs.map fr) pg false) N (ptF D N (bs.map fr) pg b)/\Step F F' w w2):=hres;clear hres;go_wp2;go_ret
 exact ⟨rfl,HR.out⟩
def pinB (L:List Fr) (pg:Int):Bool:=decide (fiP L pg<L.length)&&decide (0<(L.getD (fiP L pg) fr0).pins)
def unL (L:List Fr) (pg:Int):List Fr:=if pinB L pg=true then L.set (fiP L pg) {L.getD (fiP L pg) fr0 with pins:=(L.getD (fiP L pg) fr0).pins-1} else L
def unE (L:List Fr) (pg:Int):Int:=if pinB L pg=true then 0 else 10
def fgB (L:List Fr) (pg:Int):Bool:=decide (fiP L pg<L.length)&&decide ((L.getD (fiP L pg) fr0).pins=0)
def fgL (L:List Fr) (pg:Int):List Fr:=if fgB L pg=true then L.eraseIdx (fiP L pg) else L
theorem map_up {bs:List Nat} {fr:Nat->Fr} {i e:Nat} (hn:bs.Nodup) (hi:i<bs.length) (f:Fr):bs.map (upF fr (bs.getD i e) f)=(bs.map fr).set i f:=by
 induction bs generalizing i with
 |nil=>simp at hi
 |cons b r ih=>
  rw [xK] at hn;cases i with
  |zero=>
   simp only [List.getD_cons_zero,qQ,jL,yV]
   congr 1
   exact xC (fun x hx=>yT _ _ (fun e1=>hn.1 (e1▸hx)))
  |succ i=>
   have hi':i<r.length:=by simpa using hi
   simp only [List.getD_cons_succ,qQ,jI];rw [ih hn.2 hi',yT _ _ (fun e1=>hn.1 (by rw [e1];exact zS hi'))]
theorem Unpin_any (h:Pool w p d F D N L) (hpn:∀f∈L,f.pins<=1000001) (pg:Int) (hw:(Lit.int .i64 pg).wf=true):
  Calls prog 79 #[.pointer (some ⟨p,0,none⟩),.int .i64 pg] w fun x w'=>x=.returned (.int .i64 (unE L pg))/\Pool w' p d F D N (unL L pg)/\Ch w.heap.size F w w':=by
 obtain ⟨Fd,m,e,bs,fr,ol,nw,h,rfl⟩:=h;have hm:=zV h;obtain ⟨c0,c1,c2,c3⟩:=h.pool.at;have hlook:=h.pool.held.look pg hw;rw [QV (bs:=bs) (fr:=fr) pg e] at hlook;have hLL:(bs.map fr).length=bs.length:=by simp
 by_cases hf:fiP (bs.map fr) pg<bs.length
 ·rw [if_pos hf] at hlook;have hgm:bs.getD (fiP (bs.map fr) pg) e∈bs:=zS hf;have hgm':bs.getD (fiP (bs.map fr) pg) e∈e::bs:=jM _ hgm;obtain ⟨_,_,x2,_,_,xz⟩:=(h.pool.node _ hgm').at (h.pool.ok _ hgm');have hz:=xz 258;have hLg:=uQ (bs:=bs) (fr:=fr) (e:=e) hf;have hup:=map_up (fr:=fr) (e:=e) h.pool.apart.2.2.2.2.2 hf;have hgF:=h.fp _ (.inr (.inr hgm'));have hpi:=ZH w _ _ x2;obtain ⟨i,hi⟩:∃i,fiP (bs.map fr) pg=i:=⟨_,rfl⟩;rw [hi] at hlook hgm hgm' x2 hz hLg hup hgF hpi hf;have hset:=h.setPins hgm;obtain ⟨g,hg⟩:∃g,bs.getD i e=g:=⟨_,rfl⟩;rw [hg] at hlook x2 hz hLg hup hgF hpi hset hgm;have hn:=hpn (fr g) (xL hgm);have hlook':(Instr.lookup 119 (.map (some m)) (.int .i64 pg) false).run prog w=.ok (.pointer (some ⟨g,0,none⟩)) w:=hlook;obtain ⟨n,hnn⟩:∃n,(fr g).pins=n:=⟨_,rfl⟩;by_cases h0:0<n
  ·have hpb:pinB (bs.map fr) pg=true:=by unfold pinB;rw [hi,hLL,hLg,hnn];simp [hf,h0]
   have eE:unE (bs.map fr) pg=0:=by unfold unE;rw [if_pos hpb]
   have eL:unL (bs.map fr) pg=bs.map (upF fr g {fr g with pins:=n-1}):=by unfold unL;rw [if_pos hpb,hi,hLg,hnn,hup]
   have HP:Hid (Pool (w.setCell ⟨g,258,none⟩ (.int .i64 (n-1:Nat))) p d F D N (unL (bs.map fr) pg)):=⟨Fd,m,e,bs,_,ol,nw,hset (n-1),eL⟩;have HC:Hid (Ch w.heap.size F w (w.setCell ⟨g,258,none⟩ (.int .i64 (n-1:Nat)))):=(Ch.refl _ _ _).setCell (p:=⟨g,258,none⟩) (.inr hgF) _;rw [show ((n-1:Nat):Int)=(n:Int)-1 by omega] at HP HC;rw [hnn] at x2 hpi hn;rw [jE h0] at hpi;rw [eE];clear hset hlook hLg hup hgF hgm hgm' hnn hi hpb eE eL h xz hpn hf hLL;go_enter func79,ntmps79
   go_wp2_with (first|(go_at_call 103;refine hm.mono ?_;rintro x w' ⟨rfl,rfl⟩)|(go_at_call 125;refine hpi.mono ?_;rintro x w' ⟨rfl,rfl⟩))
   go_ret
   exact ⟨rfl,HP.out,HC.out⟩
  ·have hpb:pinB (bs.map fr) pg=false:=by unfold pinB;rw [hi,hLL,hLg,hnn];simp [h0]
   have eE:unE (bs.map fr) pg=10:=by unfold unE;rw [if_neg (by rw [hpb];simp)]
   have eL:unL (bs.map fr) pg=bs.map fr:=by unfold unL;rw [if_neg (by rw [hpb];simp)]
   have HP:Hid (Pool w p d F D N (bs.map fr)):=⟨Fd,m,e,bs,fr,ol,nw,h,rfl⟩;rw [hnn] at x2 hpi;rw [jH h0] at hpi;rw [eE,eL];clear hset hlook hLg hup hgF hgm hgm' hnn hi hpb eE eL h xz hpn hn hf hLL;go_enter func79,ntmps79
   go_wp2_with (first|(go_at_call 103;refine hm.mono ?_;rintro x w' ⟨rfl,rfl⟩)|(go_at_call 125;refine hpi.mono ?_;rintro x w' ⟨rfl,rfl⟩))
   go_ret
   exact ⟨rfl,HP.out,Ch.refl _ _ _⟩
 ·rw [if_neg hf] at hlook;have hlook':(Instr.lookup 119 (.map (some m)) (.int .i64 pg) false).run prog w=.ok (.pointer none) w:=hlook;have hpb:pinB (bs.map fr) pg=false:=by unfold pinB;rw [hLL];simp [hf]
  have eE:unE (bs.map fr) pg=10:=by unfold unE;rw [if_neg (by rw [hpb];simp)]
  have eL:unL (bs.map fr) pg=bs.map fr:=by unfold unL;rw [if_neg (by rw [hpb];simp)]
  have HP:Hid (Pool w p d F D N (bs.map fr)):=⟨Fd,m,e,bs,fr,ol,nw,h,rfl⟩;rw [eE,eL];clear hlook hpb eE eL h hpn hf hLL;go_enter func79,ntmps79
  go_wp2_with (first|(go_at_call 103;refine hm.mono ?_;rintro x w' ⟨rfl,rfl⟩))
  go_ret
  exact ⟨rfl,HP.out,Ch.refl _ _ _⟩
theorem ZQ (h:Pool w p d F D N L) (pg:Int) (hw:(Lit.int .i64 pg).wf=true):
  Calls prog 137 #[.pointer (some ⟨p,0,none⟩),.int .i64 pg] w fun x w'=>x=.returned (.bool (fgB L pg))/\Pool w' p d F D N (fgL L pg)/\Ch w.heap.size F w w':=by
 obtain ⟨Fd,m,e,bs,fr,ol,nw,h,rfl⟩:=h;have hm:=zV h;obtain ⟨c0,c1,c2,c3⟩:=h.pool.at;have hlook:=h.pool.held.look pg hw;rw [QV (bs:=bs) (fr:=fr) pg e] at hlook;have hLL:(bs.map fr).length=bs.length:=by simp
 by_cases hf:fiP (bs.map fr) pg<bs.length
 ·rw [if_pos hf] at hlook;have hgm:bs.getD (fiP (bs.map fr) pg) e∈bs:=zS hf;have hgm':bs.getD (fiP (bs.map fr) pg) e∈e::bs:=jM _ hgm;obtain ⟨_,_,x2,_,_,_⟩:=(h.pool.node _ hgm').at (h.pool.ok _ hgm');have hLg:=uQ (bs:=bs) (fr:=fr) (e:=e) hf;have hpi:=ZH w _ _ x2;have hlv:=fV h _ hf;obtain ⟨i,hi⟩:∃i,fiP (bs.map fr) pg=i:=⟨_,rfl⟩;rw [hi] at hlook hgm hgm' x2 hLg hpi hf hlv;obtain ⟨g,hg⟩:∃g,bs.getD i e=g:=⟨_,rfl⟩;rw [hg] at hlook x2 hLg hpi hlv;have hlook':(Instr.lookup 119 (.map (some m)) (.int .i64 pg) false).run prog w=.ok (.pointer (some ⟨g,0,none⟩)) w:=hlook;obtain ⟨n,hnn⟩:∃n,(fr g).pins=n:=⟨_,rfl⟩;rw [hnn] at x2 hpi;by_cases h0:n=0
  ·have hpb:fgB (bs.map fr) pg=true:=by unfold fgB;rw [hi,hLL,hLg,hnn];simp [hf,h0]
   have eL:fgL (bs.map fr) pg=(bs.eraseIdx i).map fr:=by unfold fgL;rw [if_pos hpb,hi,YV]
   rw [jH (show ¬0<n by omega)] at hpi
   have hlv':Calls prog 170 #[.pointer (some ⟨p,0,none⟩),.pointer (some ⟨g,0,none⟩)] w fun x w'=>x=.returned (.tuple #[])/\Hid (Pool w' p d F D N (fgL (bs.map fr) pg))/\Hid (Ch w.heap.size F w w'):=hlv.mono (by
    rintro x w' ⟨rfl,⟨ol',nw',h1⟩,h2⟩;exact ⟨rfl,⟨Fd,m,e,_,fr,ol',nw',h1,eL⟩,h2⟩)
   rw [hpb];clear hlook hLg hgm hgm' hnn hi hpb eL h hf hLL hlv;go_enter func137,ntmps137
   go_wp2_with (first|(go_at_call 103;refine hm.mono ?_;rintro x w' ⟨rfl,rfl⟩)|(go_at_call 125;refine hpi.mono ?_;rintro x w' ⟨rfl,rfl⟩)|(go_at_call 170;refine hlv'.mono ?_;rintro x w2 ⟨rfl,HP,HC⟩))
   go_ret
   exact ⟨rfl,HP.out,HC.out⟩
  ·have hpb:fgB (bs.map fr) pg=false:=by unfold fgB;rw [hi,hLL,hLg,hnn];simp [h0]
   have eL:fgL (bs.map fr) pg=bs.map fr:=by unfold fgL;rw [if_neg (by rw [hpb];simp)]
   have HP:Hid (Pool w p d F D N (bs.map fr)):=⟨Fd,m,e,bs,fr,ol,nw,h,rfl⟩;rw [jE (show 0<n by omega)] at hpi;rw [hpb,eL];clear hlook hLg hgm hgm' hnn hi hpb eL h hf hLL hlv;go_enter func137,ntmps137
   go_wp2_with (first|(go_at_call 103;refine hm.mono ?_;rintro x w' ⟨rfl,rfl⟩)|(go_at_call 125;refine hpi.mono ?_;rintro x w' ⟨rfl,rfl⟩))
   go_ret
   exact ⟨rfl,HP.out,Ch.refl _ _ _⟩
 ·rw [if_neg hf] at hlook;have hlook':(Instr.lookup 119 (.map (some m)) (.int .i64 pg) false).run prog w=.ok (.pointer none) w:=hlook;have hpb:fgB (bs.map fr) pg=false:=by unfold fgB;rw [hLL];simp [hf]
  have eL:fgL (bs.map fr) pg=bs.map fr:=by unfold fgL;rw [if_neg (by rw [hpb];simp)]
  have HP:Hid (Pool w p d F D N (bs.map fr)):=⟨Fd,m,e,bs,fr,ol,nw,h,rfl⟩;rw [hpb,eL];clear hlook hpb eL h hf hLL;go_enter func137,ntmps137
  go_wp2_with (first|(go_at_call 103;refine hm.mono ?_;rintro x w' ⟨rfl,rfl⟩))
  go_ret
  exact ⟨rfl,HP.out,Ch.refl _ _ _⟩
end
section
variable {w:World} {p d m e N:Nat} {Fd F:Nat->Prop} {D:Dv} {bs:List Nat} {fr:Nat->Fr} {ol nw:Nat->Nat}
def Ev1R (p d N:Nat) (F:Nat->Prop) (R:Int × Dv × List Fr) (w:World) (k:Int) (w':World):Prop:=
 k=R.1/\(∃F',Pool w' p d F' R.2.1 N R.2.2/\∀j,F' j->F j\/w.heap.size<=j)/\Ch w.heap.size F w w'
end
end Go.Proofs.YtaijfhadecennaaGreat.Oct
namespace Go.Proofs
open Go.Shelf
def Tryz.lays189_ren:Go.Shelf.Ren:=⟨fun|189=>171|125=>206|257=>205|128=>248|129=>249|294=>239|295=>240|296=>241|297=>242|298=>243|299=>244|216=>245|300=>246|301=>247|328=>265|329=>266|330=>267|331=>268|332=>269|215=>270|343=>286|n=>n,fun|28=>54|3=>3|46=>193|0=>0|51=>252|53=>247|4=>4|183=>260|182=>259|131=>199|5=>5|9=>9|218=>277|222=>212|228=>298|229=>49|n=>n,fun|n=>n⟩
theorem Tryz.lays189:Go.Proofs.Lays.n189 prog Tryz.lays189_ren:={
 mixed:=by kernel_rfl
 f125:=func206.trans (congrArg some (by kernel_rfl))
 f128:=func248.trans (congrArg some (by kernel_rfl))
 f129:=func249.trans (congrArg some (by kernel_rfl))
 f189:=func171.trans (congrArg some (by kernel_rfl))
 f215:=func270.trans (congrArg some (by kernel_rfl))
 f216:=func245.trans (congrArg some (by kernel_rfl))
 f257:=func205.trans (congrArg some (by kernel_rfl))
 f294:=func239.trans (congrArg some (by kernel_rfl))
 f295:=func240.trans (congrArg some (by kernel_rfl))
 f296:=func241.trans (congrArg some (by kernel_rfl))
 f297:=func242.trans (congrArg some (by kernel_rfl))
 f298:=func243.trans (congrArg some (by kernel_rfl))
 f299:=func244.trans (congrArg some (by kernel_rfl))
 f300:=func246.trans (congrArg some (by kernel_rfl))
 f301:=func247.trans (congrArg some (by kernel_rfl))
 f328:=func265.trans (congrArg some (by kernel_rfl))
 f329:=func266.trans (congrArg some (by kernel_rfl))
 f330:=func267.trans (congrArg some (by kernel_rfl))
 f331:=func268.trans (congrArg some (by kernel_rfl))
 f332:=func269.trans (congrArg some (by kernel_rfl))
 f343:=func286.trans (congrArg some (by kernel_rfl))
 t0:=underlying0
 a0:=Tryz.isAgg0
 z0:=Tryz.sizeOf0
 v0:=Tryz.zeroValue0
 t3:=underlying3
 a3:=Tryz.isAgg3
 z3:=Tryz.sizeOf3
 v3:=Tryz.zeroValue3
 t4:=underlying4
 a4:=Tryz.isAgg4
 z4:=Tryz.sizeOf4
 v4:=Tryz.zeroValue4
 t5:=underlying5
 a5:=Tryz.isAgg5
 z5:=Tryz.sizeOf5
 v5:=Tryz.zeroValue5
 t9:=underlying9
 a9:=Tryz.isAgg9
 z9:=Tryz.sizeOf9
 v9:=Tryz.zeroValue9
 t28:=underlying54
 a28:=Tryz.isAgg54
 z28:=Tryz.sizeOf54
 v28:=Tryz.zeroValue54
 t46:=underlying193
 a46:=Tryz.isAgg193
 z46:=Tryz.sizeOf193
 v46:=Tryz.zeroValue193
 t51:=underlying252
 a51:=Tryz.isAgg252
 z51:=Tryz.sizeOf252
 v51:=Tryz.zeroValue252
 t53:=underlying247
 a53:=Tryz.isAgg247
 z53:=Tryz.sizeOf247
 v53:=Tryz.zeroValue247
 t131:=underlying199
 a131:=Tryz.isAgg199
 z131:=Tryz.sizeOf199
 v131:=Tryz.zeroValue199
 t182:=underlying259
 a182:=Tryz.isAgg259
 z182:=Tryz.sizeOf259
 v182:=Tryz.zeroValue259
 t183:=underlying260
 a183:=Tryz.isAgg260
 z183:=Tryz.sizeOf260
 v183:=Tryz.zeroValue260
 t218:=underlying277
 a218:=Tryz.isAgg277
 z218:=Tryz.sizeOf277
 v218:=Tryz.zeroValue277
 t222:=underlying212
 a222:=Tryz.isAgg212
 z222:=Tryz.sizeOf212
 v222:=Tryz.zeroValue212
 t228:=underlying298
 a228:=Tryz.isAgg298
 z228:=Tryz.sizeOf298
 v228:=Tryz.zeroValue298
 t229:=underlying49
 a229:=Tryz.isAgg49
 z229:=Tryz.sizeOf49
 v229:=Tryz.zeroValue49}
open Go.Sort Go.RowKit in
theorem Tryz.slices_Sort_int (blk off cap:Nat) (zs:List Int) (w:World) (hH:Holds (Value.int .i64) w blk off zs.toArray) (hblk:blk<w.heap.size) (hsz:zs.length<4611686018427387904):
  Calls prog 171 #[.slice (some ⟨blk,off,none⟩) zs.length cap] w fun e w'=>
   e=.returned (.tuple #[])/\∃n os,w'=grow (putRow (Value.int .i64) (Sort.ahead w n) blk off (zs.mergeSort fun x y=>decide (x<=y)).toArray) os:=Any.slices_Sort_int Tryz.lays189 blk off cap zs w hH hblk hsz
open Go.RowKit Go.Sort in
theorem Tryz.slices_Sort_int_none (p:Option Addr) (cap:Nat) (w:World):
  Calls prog 171 #[.slice p 0 cap] w fun e w'=>e=.returned (.tuple #[])/\w'=w:=Any.slices_Sort_int_none Tryz.lays189 p cap w
end Go.Proofs
namespace Go.Proofs.YtaijfhadecennaaGreat.Oct
open Go.RowKit
open Go.Maps (Keyed int_keyed keyOf_int_mk)
def srt (zs:List Int):List Int:=zs.mergeSort fun x y=>decide (x<=y)
theorem ZU (zs:List Int):(srt zs).length=zs.length:=List.length_mergeSort ..
theorem VJ (zs:List Int):(srt zs).Perm zs:=List.mergeSort_perm ..
theorem UH {l l':List Int} (h:l.Perm l'):srt l=srt l':=by
 have tr:∀a b c:Int,decide (a<=b)=true->decide (b<=c)=true->decide (a<=c)=true:=fun a b c h1 h2=>by simp at*;omega
 have to:∀a b:Int,(decide (a<=b)||decide (b<=a))=true:=fun a b=>by simp;omega
 refine List.Perm.eq_of_pairwise (le:=fun a b:Int=>decide (a<=b)=true) (fun a b _ _ h1 h2=>?_) (List.pairwise_mergeSort tr to l) (List.pairwise_mergeSort tr to l') (((List.mergeSort_perm l _).trans h).trans (List.mergeSort_perm l' _).symm);simp at h1 h2;omega
theorem sort_own {B:Nat} {w:World} {a:Option Addr} {c:Nat} {zs:List Int} (h:OwnI B w (.slice a zs.length c) zs) (hB:B<=w.heap.size) (hl:zs.length<=1000000):
  Calls prog 171 #[.slice a zs.length c] w fun x w'=>x=.returned (.tuple #[])/\OwnI B w' (.slice a zs.length c) (srt zs)/\Below B w w':=by
 rcases h.2 with ⟨hv,h0⟩|⟨g,cap,cur,hv,hg,hc,h1,h2,h3,h4⟩
 ·have hz:zs=[]:=qE h0;subst hz;refine (Tryz.slices_Sort_int_none a c w).mono ?_;rintro x w' ⟨rfl,rfl⟩;exact ⟨rfl,by simpa [srt] using h,Below.refl _ _⟩
 ·simp only [Value.slice.injEq] at hv;obtain ⟨rfl,-,rfl⟩:=hv;have hH:Go.Sort.Holds (Value.int .i64) w g 0 zs.toArray:=holds_of_blockI hc (by simpa using h4);refine (Tryz.slices_Sort_int g 0 c zs w hH (yR hc) (by omega)).mono ?_;rintro x w' ⟨rfl,n,os,rfl⟩;have ho:=ownsRow_sortedI (n:=n) (os:=os) (ts:=srt zs) (ss:=zs) (ZU zs) hg hc h1 h2 h3;refine ⟨rfl,?_,(Below.refl B w).grown (grownBy_sortedI _) hB (fun k hk=>by cases hk;exact hg)⟩;unfold OwnI;rw [ZU];exact ho
theorem XG {ops:Array Oper} {rest:List Oper} {o:Oper} {a:Act} {Q:Exit->Act->World->Prop} (w:World) (hg:o.guard=none) (it:Operand) (hop:o.op=Op.next it false) (m r:Nat) (ps:List (Nat × Nat)) (DD:DataW Unit) (left:Lit->Bool) (cnt:Nat)
  (hit:a.eval it=.pointer (some ⟨r,0,none⟩)) (h:w.ranges prog 3 ptrE m r ps.length DD left cnt) (hat:∀k:Int,DD.atKey (.int .i64 k) (.lit (.bool false))=lkD (findP ps k)) (hhas:∀k:Int,Maps.has DD (.int .i64 k)=(findP ps k).isSome)
  (hDone:cnt=0->(∀kl,left kl=false)->wpList prog ops Q rest (a.put o.dst (.tuple #[.bool false])) w)
  (hMore:∀(pg g:Nat) (w':World) (cnt':Nat),(pg,g)∈ps->left (.int .i64 pg)=true->w'.ranges prog 3 ptrE m r ps.length DD (fun z=>left z&&!z.sameKey (.int .i64 pg)) cnt'->cnt'<cnt->w.grownBy w' (some r)->
   (Instr.entry (.pointer (some ⟨r,0,none⟩))).run prog w'=.ok (.tuple #[.int .i64 pg,.pointer (some ⟨g,0,none⟩)]) w'->wpList prog ops Q rest (a.put o.dst (.tuple #[.bool true,.int .i64 pg,.pointer (some ⟨g,0,none⟩)])) w'):
  wpList prog ops Q (o::rest) a w:=by
 refine wpList_next_ranges w hg it hop 3 lawK ptrE (Value.int .i64) mkP (fun key kl hk=>by obtain ⟨x,hx,_⟩:=Maps.keyOf_int_inv underlying3 hk;exact ⟨x,hx⟩) (fun v y hv=>by obtain ⟨c,hc,_⟩:=VY hv;exact ⟨c,hc⟩) m r ps.length DD left cnt hit h hDone ?_;intro x c kl y w' cnt' hkey hlk hv hat' hrg hlt hgr _ hen;obtain ⟨x',ex,rfl,_⟩:=Maps.keyOf_int_inv underlying3 hkey;cases ex;have hs:=hhas x;rw [Maps.has_true_of_atKey hat'] at hs;obtain ⟨g,hgf⟩:∃g,findP ps x=some g:=Option.isSome_iff_exists.1 hs.symm;obtain ⟨c',ec,hy⟩:=VY hv;have hcc:c=c':=by cases c<;>cases c'<;>simp [mkP] at ec ⊢ <;>exact ec
 subst hcc;have h2:=hat x;rw [hat',hgf,hy] at h2;have h3:c=some g:=lkD_inj (by rw [<-h2];cases c<;>rfl);subst h3;obtain ⟨pg,hpg,hm⟩:=XY hgf;subst hpg;exact hMore pg g w' cnt' hm hlk hrg hlt hgr hen
def CollP (ps:List (Nat × Nat)) (fit:Nat->Bool) (left:Lit->Bool) (ss:List Int):Prop:=
 ss.Nodup/\∀x:Int,x∈ss↔∃y∈ps,(y.1:Int)=x/\left (.int .i64 x)=false/\fit y.2=true
theorem CollP.start {ps:List (Nat × Nat)} {fit:Nat->Bool} {left:Lit->Bool} (h:∀y∈ps,left (.int .i64 (y.1:Int))=true):CollP ps fit left []:=by
 refine ⟨List.nodup_nil,fun x=>⟨fun hx=>by simp at hx,?_⟩⟩;rintro ⟨y,hy,rfl,hl,_⟩;rw [h y hy] at hl;cases hl
theorem VO (a b:Int):(Lit.int .i64 a).sameKey (.int .i64 b)=decide (a=b):=by
 by_cases h:a=b
 ·subst h;simp [Lit.sameKey]
 ·simp [Lit.sameKey,h]
theorem CollP.yes {ps:List (Nat × Nat)} {fit:Nat->Bool} {left:Lit->Bool} {ss:List Int} (h:CollP ps fit left ss) {pg g:Nat} (hm:(pg,g)∈ps) (hl:left (.int .i64 (pg:Int))=true) (hf:fit g=true):
  CollP ps fit (fun z=>left z&&!z.sameKey (.int .i64 (pg:Int))) (ss++[(pg:Int)]):=by
 have hnew:(pg:Int)∉ss:=fun hx=>by
  obtain ⟨y,_,_,h3,_⟩:=(h.2 _).1 hx;rw [hl] at h3;cases h3
 refine ⟨List.nodup_append.2 ⟨h.1,by simp,fun a ha b hb=>by simp at hb;subst hb;exact fun e=>hnew (e▸ha)⟩,fun x=>?_⟩;rw [qV];by_cases hx:x=(pg:Int)
 ·subst hx;refine ⟨fun _=>⟨(pg,g),hm,rfl,by simp [VO],hf⟩,fun _=>.inr (by simp)⟩
 ·rw [h.2 x];simp only [VO,hx,decide_false,Bool.not_false,Bool.and_true,yA,or_false]
theorem CollP.no {ps:List (Nat × Nat)} {fit:Nat->Bool} {left:Lit->Bool} {ss:List Int} (h:CollP ps fit left ss) (hn:(ps.map (·.1)).Nodup) {pg g:Nat} (hm:(pg,g)∈ps) (hf:fit g=false):
  CollP ps fit (fun z=>left z&&!z.sameKey (.int .i64 (pg:Int))) ss:=by
 refine ⟨h.1,fun x=>?_⟩;rw [h.2 x];by_cases hx:x=(pg:Int)
 ·subst hx
  have key:∀y∈ps,(y.1:Int)=(pg:Int)->fit y.2=false:=fun y hy e1=>by
   have e2:=QP hn hy;have e3:=QP hn hm;rw [e1,e3] at e2;simp at e2;rw [<-e2];exact hf
  constructor
  ·rintro ⟨y,hy,e1,_,h4⟩;rw [key y hy e1] at h4;cases h4
  ·rintro ⟨y,hy,e1,_,h4⟩;rw [key y hy e1] at h4;cases h4
 ·simp only [VO,hx,decide_false,Bool.not_false,Bool.and_true]
theorem CollP.done {bs:List Nat} {fr:Nat->Fr} {fit:Fr->Bool} {left:Lit->Bool} {ss:List Int} (h:CollP (psOf bs fr) (fun g=>fit (fr g)) left ss) (hn:((psOf bs fr).map (·.1)).Nodup) (hl:∀kl,left kl=false):ss.Perm (((bs.map fr).filter fit).map fun f=>(f.page:Int)):=by
 have hnd:(((bs.map fr).filter fit).map fun f=>(f.page:Int)).Nodup:=by
  have e1:((bs.map fr).map fun f=>(f.page:Int)).Nodup:=by
   have:(psOf bs fr).map (·.1)=(bs.map fr).map (·.page):=by simp [psOf,Function.comp_def]
   rw [this] at hn;have e2:(bs.map fr).map (fun f=>(f.page:Int))=((bs.map fr).map (·.page)).map (fun n:Nat=>(n:Int)):=by simp [Function.comp_def]
   rw [e2];exact List.pairwise_map.2 (hn.imp (fun hab e3=>hab (by omega)))
  exact e1.sublist (List.Sublist.map _ List.filter_sublist)
 refine (List.perm_ext_iff_of_nodup h.1 hnd).2 fun x=>?_
 rw [h.2 x];simp only [hl,List.mem_map,List.mem_filter,psOf];constructor
 ·rintro ⟨y,⟨g,hg,rfl⟩,e1,-,h4⟩;exact ⟨fr g,⟨⟨g,hg,rfl⟩,h4⟩,e1⟩
 ·rintro ⟨f,⟨⟨g,hg,rfl⟩,h4⟩,e1⟩;exact ⟨_,⟨g,hg,rfl⟩,e1,trivial,h4⟩
def pgsP (L:List Fr) (fit:Fr->Bool):List Int:=srt ((L.filter fit).map fun f=>(f.page:Int))
def fitA:Fr->Bool:=fun _=>true
def fitD:Fr->Bool:=fun f=>f.dirty
theorem resF_any (w:World) (v:Value):Calls prog 124 #[v] w fun x w'=>x=.returned (.bool true)/\w=w':=by
 go_enter func124,ntmps124
 go_wp2;go_ret
 exact ⟨rfl,rfl⟩
theorem dirF_any (w:World) (g:Nat) (b:Bool) (h:w.cell? ⟨g,257,none⟩=some (.bool b)):Calls prog 212 #[.pointer (some ⟨g,0,none⟩)] w fun x w'=>x=.returned (.bool b)/\w=w':=by
 go_enter func212,ntmps212
 go_wp2;go_ret
 exact ⟨rfl,rfl⟩
section
variable {w:World} {p d m e N:Nat} {Fd F:Nat->Prop} {D:Dv} {bs:List Nat} {fr:Nat->Fr} {ol nw:Nat->Nat}
set_option maxRecDepth 20000 in
theorem pages_res (h:PD w p d m e N Fd F D bs fr ol nw):
  Calls prog 123 #[.pointer (some ⟨p,0,none⟩),.func (.func 124) #[] #[]] w fun x w'=>∃a c,x=.returned (.slice a (pgsP (bs.map fr) fitA).length c)/\OwnI w.heap.size w' (.slice a (pgsP (bs.map fr) fitA).length c) (pgsP (bs.map fr) fitA)/\Below w.heap.size w w':=by
 obtain ⟨c0,c1,c2,c3⟩:=h.pool.at;have hm:=zV h;have hlen:bs.length<=4096:=by have:=h.pool.len;have:=h.pool.n4;omega
 have hml:=h.pool.lt m (.inr (.inl rfl));obtain ⟨hnd,_,DD,hown,hat,hhas,hsz⟩:=h.pool.held;have hpl:(psOf bs fr).length=bs.length:=by simp [psOf]
 have hfits:∀(wr:World) (g:Nat),Below w.heap.size w wr->g∈bs->Calls prog 124 #[.pointer (some ⟨g,0,none⟩)] wr fun x w'=>x=.returned (.bool (fitA (fr g)))/\wr=w':=fun wr g hb hg=>by
  have hg':g∈e::bs:=jM _ hg;obtain ⟨_,x1,x2,_,_,_⟩:=(((h.below hb).pool.node g hg').at ((h.below hb).pool.ok g hg'));exact (resF_any wr _)
 have hmem:∀pg g,(pg,g)∈psOf bs fr->g∈bs:=fun pg g hm=>by
  obtain ⟨g',hg',e1⟩:=List.mem_map.1 hm;simp only [xQ] at e1;exact e1.2▸hg'
 obtain ⟨i0,hi,hz0,hz1,hz2⟩:=info_parts info3;have HF:Hid (∀(wr:World) (g:Nat),Below w.heap.size w wr->g∈bs->Calls prog 124 #[.pointer (some ⟨g,0,none⟩)] wr fun x w'=>x=.returned (.bool (fitA (fr g)))/\wr=w'):=hfits;have HM:Hid (∀pg g,(pg,g)∈psOf bs fr->g∈bs):=hmem;have HA:Hid (∀k:Int,DD.atKey (.int .i64 k) (.lit (.bool false))=lkD (findP (psOf bs fr) k)):=hat;have HS:Hid (∀k:Int,Maps.has DD (.int .i64 k)=(findP (psOf bs fr) k).isSome):=hhas;have HO:Hid (w.ownsMap prog 3 ptrE m (psOf bs fr).length DD):=hown;have HZ:Hid (Maps.size DD=(psOf bs fr).length):=hsz;have HN:Hid (((psOf bs fr).map (·.1)).Nodup):=hnd;have HP:Hid ((psOf bs fr).length=bs.length):=hpl;clear h hfits hmem hat hhas hown hsz hnd hpl c0 c1 c3;go_enter func123,ntmps123
 go_wp2_with (first|(go_at_call 103;refine hm.mono ?_;rintro x w' ⟨rfl,rfl⟩)|(at_range;refine wpList_range_own _ rfl _ 119 rfl 3 116 lawK underlying119 ptrE m (psOf bs fr).length DD rfl HO.out ?_;intro w0 hrg0 hg0 hs0))
 go_frame
 go_loopw [5] (fun v wr=>∃(left:Lit->Bool) (cnt:Nat) (ss:List Int) (a:Option Addr) (c:Nat),v=.slice a ss.length c/\Hid (wr.ranges prog 3 ptrE m w.heap.size (psOf bs fr).length DD left cnt)/\Hid (ss.length+cnt<=(psOf bs fr).length)/\
   Hid (OwnI w.heap.size wr (.slice a ss.length c) ss)/\Hid (CollP (psOf bs fr) (fun g=>fitA (fr g)) left ss)/\Hid (Below w.heap.size w wr))
  (fun _ wr=>wr.rangeLeft m w.heap.size)
 case atStart=>
  refine ⟨_,_,[],none,0,rfl,hrg0,?_,World.ownsRow_nil _ _ _ _,CollP.start (fun y hy=>?_),(Below.refl _ _).grown hg0 (jB _) (fun j hj=>by cases hj)⟩
  ·show 0+Maps.size DD<=(psOf bs fr).length;rw [HZ.out];omega
  ·rw [HS.out,QP HN.out hy];rfl
 case round=>
  obtain ⟨left,cnt,ss,a,c,rfl,HR,HL,HW,HC,HB⟩:=hrel;clear hrg0 hg0 hs0;go_wp2_with (at_next;refine XG _ rfl _ rfl m w.heap.size (psOf bs fr) DD left cnt rfl HR.out HA.out HS.out ?_ ?_)
  ·intro _ hl0;have hss:ss.length<=1000000:=by have:=HL.out;have:=HP.out;omega
   have hso:=sort_own HW.out HB.out.size hss;have hfin:srt ss=pgsP (bs.map fr) fitA:=UH (HC.out.done HN.out hl0);have hll:ss.length=(pgsP (bs.map fr) fitA).length:=by rw [<-hfin,ZU]
   rw [hfin,hll] at hso;rw [hll];have HX:Hid (Below w.heap.size w wr):=HB.out;clear HR HL HW HC HB hl0 hss hfin hll HF HM HA HS HO HZ HN HP;go_wp2_with (go_at_call 171;refine hso.mono ?_;rintro x w' ⟨rfl,hown',hbe⟩)
   go_ret
   exact ⟨a,c,rfl,hown',HX.out.trans hbe⟩
  ·intro pg g w2 cnt2 hmem hlk hrg2 hlt hg2 hen;have hgb:=HM.out pg g hmem;have hb2:Below w.heap.size w w2:=HB.out.grown hg2 HB.out.size (fun j hj=>by cases hj;exact jB _);have hft:=HF.out w2 g hb2 hgb;have hown2:w2.ownsRow w.heap.size 3 1 (.slice a ss.length c) ss.length (ss.map (Value.int .i64)):=World.ownsRow.kept HW.out hg2 (Or.inr (row_ne_iter HW.out HR.out).symm);have hB2:w.heap.size<=w2.heap.size:=hb2.size;cases hfv:fitA (fr g) with
   |true=>
    rw [hfv] at hft;have hC2:=HC.out.yes hmem hlk hfv;have hrgk:=fun (o:Obj) (w3:World) (hg3:(w2.alloc o).grownBy w3 (Value.slice a ss.length c).ownBlock)=>(hrg2.alloc o).kept hg3 (row_ne_low hown2 hml) (row_ne_iter hown2 hrg2)
    have hlen3:ss.length<=4096:=by have:=HL.out;have:=HP.out;omega
    have H2:Hid (CollP (psOf bs fr) (fun g=>fitA (fr g)) (fun z=>left z&&!z.sameKey (.int .i64 (pg:Int))) (ss++[(pg:Int)])):=hC2;have H3:Hid (∀(o:Obj) (w3:World),(w2.alloc o).grownBy w3 (Value.slice a ss.length c).ownBlock->w3.ranges prog 3 ptrE m w.heap.size (psOf bs fr).length DD (fun z=>left z&&!z.sameKey (.int .i64 (pg:Int))) cnt2):=hrgk;have H4:Hid (w2.ownsRow w.heap.size 3 1 (.slice a ss.length c) ss.length (ss.map (Value.int .i64))):=hown2;have H5:Hid (Below w.heap.size w w2):=hb2;have H6:Hid (cnt2<cnt):=hlt;have H7:Hid ((Instr.entry (.pointer (some ⟨w.heap.size,0,none⟩))).run prog w2=.ok (.tuple #[.int .i64 pg,.pointer (some ⟨g,0,none⟩)]) w2):=hen;clear hC2 hrgk hrg2 hown2 hb2 hlt hfv hmem hlk hg2 hgb HW HC HB;go_wp2_with (first|(go_at_call 124;refine hft.mono ?_;rintro x w3 ⟨rfl,rfl⟩)|(at_builtin;refine wpList_append_own _ rfl _ _ 54 rfl w.heap.size 3 i0 (.int .i64 0) 1 8 underlying54 hi hz0 hz1 hz2 rfl (by decide) _ _ _ rfl (World.ownsRow.alloc H4.out _) ⟨w2.heap.size,0,none⟩ 1 1 [.int .i64 pg] rfl rfl (cell_one_new _ _ _) (by simp [Value.oneCell']) (by unfold maxLen;omega) (by omega) (by simp;omega) ?_;intro v' w3 hown' hgrow hnil))
    have R:=vU (w:=w) rfl hB2 H4.out H5.out hown' hgrow;have hrg3:=H3.out _ w3 hgrow;obtain ⟨a3,c3,hv3,_⟩:=R.1.row;go_roundw
    case rel=>
     refine ⟨_,cnt2,ss++[(pg:Int)],a3,c3,hv3,hrg3,?_,?_,H2.out,R.2⟩
     ·show (ss++[(pg:Int)]).length+cnt2<=_;have:=HL.out;have:=H6.out;simp;omega
     ·rw [<-hv3];exact R.1
    case measure=>rw [hrg3.left_eq,HR.out.left_eq];exact H6.out
   |false=>
    rw [hfv] at hft;have H2:Hid (CollP (psOf bs fr) (fun g=>fitA (fr g)) (fun z=>left z&&!z.sameKey (.int .i64 (pg:Int))) ss):=HC.out.no HN.out hmem hfv;have H3:Hid (w2.ranges prog 3 ptrE m w.heap.size (psOf bs fr).length DD (fun z=>left z&&!z.sameKey (.int .i64 (pg:Int))) cnt2):=hrg2;have H4:Hid (OwnI w.heap.size w2 (.slice a ss.length c) ss):=hown2;have H5:Hid (Below w.heap.size w w2):=hb2;have H6:Hid (cnt2<cnt):=hlt;clear hrg2 hown2 hb2 hlt hfv hmem hlk hg2 hgb HW HC HB;go_wp2_with (go_at_call 124;refine hft.mono ?_;rintro x w3 ⟨rfl,rfl⟩)
    go_roundw
    case rel=>
     refine ⟨_,cnt2,ss,a,c,rfl,H3.out,?_,H4.out,H2.out,H5.out⟩;show ss.length+cnt2<=_;have:=HL.out;have:=H6.out;omega
    case measure=>rw [H3.out.left_eq,HR.out.left_eq];exact H6.out
set_option maxRecDepth 20000 in
theorem pages_dir (h:PD w p d m e N Fd F D bs fr ol nw):
  Calls prog 123 #[.pointer (some ⟨p,0,none⟩),.func (.func 212) #[] #[]] w fun x w'=>∃a c,x=.returned (.slice a (pgsP (bs.map fr) fitD).length c)/\OwnI w.heap.size w' (.slice a (pgsP (bs.map fr) fitD).length c) (pgsP (bs.map fr) fitD)/\Below w.heap.size w w':=by
 obtain ⟨c0,c1,c2,c3⟩:=h.pool.at;have hm:=zV h;have hlen:bs.length<=4096:=by have:=h.pool.len;have:=h.pool.n4;omega
 have hml:=h.pool.lt m (.inr (.inl rfl));obtain ⟨hnd,_,DD,hown,hat,hhas,hsz⟩:=h.pool.held;have hpl:(psOf bs fr).length=bs.length:=by simp [psOf]
 have hfits:∀(wr:World) (g:Nat),Below w.heap.size w wr->g∈bs->Calls prog 212 #[.pointer (some ⟨g,0,none⟩)] wr fun x w'=>x=.returned (.bool (fitD (fr g)))/\wr=w':=fun wr g hb hg=>by
  have hg':g∈e::bs:=jM _ hg;obtain ⟨_,x1,x2,_,_,_⟩:=(((h.below hb).pool.node g hg').at ((h.below hb).pool.ok g hg'));exact (dirF_any wr g _ x1)
 have hmem:∀pg g,(pg,g)∈psOf bs fr->g∈bs:=fun pg g hm=>by
  obtain ⟨g',hg',e1⟩:=List.mem_map.1 hm;simp only [xQ] at e1;exact e1.2▸hg'
 obtain ⟨i0,hi,hz0,hz1,hz2⟩:=info_parts info3;have HF:Hid (∀(wr:World) (g:Nat),Below w.heap.size w wr->g∈bs->Calls prog 212 #[.pointer (some ⟨g,0,none⟩)] wr fun x w'=>x=.returned (.bool (fitD (fr g)))/\wr=w'):=hfits;have HM:Hid (∀pg g,(pg,g)∈psOf bs fr->g∈bs):=hmem;have HA:Hid (∀k:Int,DD.atKey (.int .i64 k) (.lit (.bool false))=lkD (findP (psOf bs fr) k)):=hat;have HS:Hid (∀k:Int,Maps.has DD (.int .i64 k)=(findP (psOf bs fr) k).isSome):=hhas;have HO:Hid (w.ownsMap prog 3 ptrE m (psOf bs fr).length DD):=hown;have HZ:Hid (Maps.size DD=(psOf bs fr).length):=hsz;have HN:Hid (((psOf bs fr).map (·.1)).Nodup):=hnd;have HP:Hid ((psOf bs fr).length=bs.length):=hpl;clear h hfits hmem hat hhas hown hsz hnd hpl c0 c1 c3;go_enter func123,ntmps123
 go_wp2_with (first|(go_at_call 103;refine hm.mono ?_;rintro x w' ⟨rfl,rfl⟩)|(at_range;refine wpList_range_own _ rfl _ 119 rfl 3 116 lawK underlying119 ptrE m (psOf bs fr).length DD rfl HO.out ?_;intro w0 hrg0 hg0 hs0))
 go_frame
 go_loopw [5] (fun v wr=>∃(left:Lit->Bool) (cnt:Nat) (ss:List Int) (a:Option Addr) (c:Nat),v=.slice a ss.length c/\Hid (wr.ranges prog 3 ptrE m w.heap.size (psOf bs fr).length DD left cnt)/\Hid (ss.length+cnt<=(psOf bs fr).length)/\
   Hid (OwnI w.heap.size wr (.slice a ss.length c) ss)/\Hid (CollP (psOf bs fr) (fun g=>fitD (fr g)) left ss)/\Hid (Below w.heap.size w wr))
  (fun _ wr=>wr.rangeLeft m w.heap.size)
 case atStart=>
  refine ⟨_,_,[],none,0,rfl,hrg0,?_,World.ownsRow_nil _ _ _ _,CollP.start (fun y hy=>?_),(Below.refl _ _).grown hg0 (jB _) (fun j hj=>by cases hj)⟩
  ·show 0+Maps.size DD<=(psOf bs fr).length;rw [HZ.out];omega
  ·rw [HS.out,QP HN.out hy];rfl
 case round=>
  obtain ⟨left,cnt,ss,a,c,rfl,HR,HL,HW,HC,HB⟩:=hrel;clear hrg0 hg0 hs0;go_wp2_with (at_next;refine XG _ rfl _ rfl m w.heap.size (psOf bs fr) DD left cnt rfl HR.out HA.out HS.out ?_ ?_)
  ·intro _ hl0;have hss:ss.length<=1000000:=by have:=HL.out;have:=HP.out;omega
   have hso:=sort_own HW.out HB.out.size hss;have hfin:srt ss=pgsP (bs.map fr) fitD:=UH (HC.out.done HN.out hl0);have hll:ss.length=(pgsP (bs.map fr) fitD).length:=by rw [<-hfin,ZU]
   rw [hfin,hll] at hso;rw [hll];have HX:Hid (Below w.heap.size w wr):=HB.out;clear HR HL HW HC HB hl0 hss hfin hll HF HM HA HS HO HZ HN HP;go_wp2_with (go_at_call 171;refine hso.mono ?_;rintro x w' ⟨rfl,hown',hbe⟩)
   go_ret
   exact ⟨a,c,rfl,hown',HX.out.trans hbe⟩
  ·intro pg g w2 cnt2 hmem hlk hrg2 hlt hg2 hen;have hgb:=HM.out pg g hmem;have hb2:Below w.heap.size w w2:=HB.out.grown hg2 HB.out.size (fun j hj=>by cases hj;exact jB _);have hft:=HF.out w2 g hb2 hgb;have hown2:w2.ownsRow w.heap.size 3 1 (.slice a ss.length c) ss.length (ss.map (Value.int .i64)):=World.ownsRow.kept HW.out hg2 (Or.inr (row_ne_iter HW.out HR.out).symm);have hB2:w.heap.size<=w2.heap.size:=hb2.size;cases hfv:fitD (fr g) with
   |true=>
    rw [hfv] at hft;have hC2:=HC.out.yes hmem hlk hfv;have hrgk:=fun (o:Obj) (w3:World) (hg3:(w2.alloc o).grownBy w3 (Value.slice a ss.length c).ownBlock)=>(hrg2.alloc o).kept hg3 (row_ne_low hown2 hml) (row_ne_iter hown2 hrg2)
    have hlen3:ss.length<=4096:=by have:=HL.out;have:=HP.out;omega
    have H2:Hid (CollP (psOf bs fr) (fun g=>fitD (fr g)) (fun z=>left z&&!z.sameKey (.int .i64 (pg:Int))) (ss++[(pg:Int)])):=hC2;have H3:Hid (∀(o:Obj) (w3:World),(w2.alloc o).grownBy w3 (Value.slice a ss.length c).ownBlock->w3.ranges prog 3 ptrE m w.heap.size (psOf bs fr).length DD (fun z=>left z&&!z.sameKey (.int .i64 (pg:Int))) cnt2):=hrgk;have H4:Hid (w2.ownsRow w.heap.size 3 1 (.slice a ss.length c) ss.length (ss.map (Value.int .i64))):=hown2;have H5:Hid (Below w.heap.size w w2):=hb2;have H6:Hid (cnt2<cnt):=hlt;have H7:Hid ((Instr.entry (.pointer (some ⟨w.heap.size,0,none⟩))).run prog w2=.ok (.tuple #[.int .i64 pg,.pointer (some ⟨g,0,none⟩)]) w2):=hen;clear hC2 hrgk hrg2 hown2 hb2 hlt hfv hmem hlk hg2 hgb HW HC HB;go_wp2_with (first|(go_at_call 212;refine hft.mono ?_;rintro x w3 ⟨rfl,rfl⟩)|(at_builtin;refine wpList_append_own _ rfl _ _ 54 rfl w.heap.size 3 i0 (.int .i64 0) 1 8 underlying54 hi hz0 hz1 hz2 rfl (by decide) _ _ _ rfl (World.ownsRow.alloc H4.out _) ⟨w2.heap.size,0,none⟩ 1 1 [.int .i64 pg] rfl rfl (cell_one_new _ _ _) (by simp [Value.oneCell']) (by unfold maxLen;omega) (by omega) (by simp;omega) ?_;intro v' w3 hown' hgrow hnil))
    have R:=vU (w:=w) rfl hB2 H4.out H5.out hown' hgrow;have hrg3:=H3.out _ w3 hgrow;obtain ⟨a3,c3,hv3,_⟩:=R.1.row;go_roundw
    case rel=>
     refine ⟨_,cnt2,ss++[(pg:Int)],a3,c3,hv3,hrg3,?_,?_,H2.out,R.2⟩
     ·show (ss++[(pg:Int)]).length+cnt2<=_;have:=HL.out;have:=H6.out;simp;omega
     ·rw [<-hv3];exact R.1
    case measure=>rw [hrg3.left_eq,HR.out.left_eq];exact H6.out
   |false=>
    rw [hfv] at hft;have H2:Hid (CollP (psOf bs fr) (fun g=>fitD (fr g)) (fun z=>left z&&!z.sameKey (.int .i64 (pg:Int))) ss):=HC.out.no HN.out hmem hfv;have H3:Hid (w2.ranges prog 3 ptrE m w.heap.size (psOf bs fr).length DD (fun z=>left z&&!z.sameKey (.int .i64 (pg:Int))) cnt2):=hrg2;have H4:Hid (OwnI w.heap.size w2 (.slice a ss.length c) ss):=hown2;have H5:Hid (Below w.heap.size w w2):=hb2;have H6:Hid (cnt2<cnt):=hlt;clear hrg2 hown2 hb2 hlt hfv hmem hlk hg2 hgb HW HC HB;go_wp2_with (go_at_call 212;refine hft.mono ?_;rintro x w3 ⟨rfl,rfl⟩)
    go_roundw
    case rel=>
     refine ⟨_,cnt2,ss,a,c,rfl,H3.out,?_,H4.out,H2.out,H5.out⟩;show ss.length+cnt2<=_;have:=HL.out;have:=H6.out;omega
    case measure=>rw [H3.out.left_eq,HR.out.left_eq];exact H6.out
end
end Go.Proofs.YtaijfhadecennaaGreat.Oct
