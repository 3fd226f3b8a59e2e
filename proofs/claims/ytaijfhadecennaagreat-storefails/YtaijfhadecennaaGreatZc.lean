/- Part of a proof. -/
import Derived.Test.YtaijfhadecennaaGreatQd
import Derived.Deep.RegionHeld3
import Derived.Laws.CopyOwn
open Go.Proofs.Tryz
set_option maxHeartbeats 1000000
namespace Go.Proofs.YtaijfhadecennaaGreat.Oct
open Go.RowKit
structure Pg where
 kind:Int
 level:Int
 count:Int
 body:List Int
def opE (zs:List Int):Int:=if zs.length=256 then (if getI zs 0 4=crc (zs.drop 4) then (if okK (getI zs 4 1) then 0 else 4) else 5) else 1
def opP (zs:List Int):Pg:=if opE zs=0 then ⟨getI zs 4 1,getI zs 5 1,getI zs 6 2,zs.drop 8⟩ else ⟨0,0,0,[]⟩
def Opened (base:Nat) (w:World) (v:Value) (p:Pg):Prop:=∃b,v=.agg #[.int .i64 p.kind,.int .i64 p.level,.int .i64 p.count,b]/\Own base w b p.body
theorem YU (base:Nat) (w:World) (zs:List Int) (h:opE zs≠0):Opened base w (.agg #[.int .i64 0,.int .i64 0,.int .i64 0,.slice none 0 0]) (opP zs):=by
 have e:opP zs=⟨0,0,0,[]⟩:=by simp [opP,h]
 rw [e];exact ⟨_,rfl,World.ownsRow_nil _ _ _ _⟩
theorem Opened.alloc {base:Nat} {w:World} {v:Value} {p:Pg} (h:Opened base w v p) (o:Obj):Opened base (w.alloc o) v p:=by
 obtain ⟨b,e,k⟩:=h;exact ⟨b,e,World.ownsRow.alloc k o⟩
def Slot (w:World) (B:Nat) (x0 x1 x2 x3:Value):Prop:=
 (w.cell? ⟨B,0,none⟩=some x0/\w.cell? ⟨B,1,none⟩=some x1/\w.cell? ⟨B,2,none⟩=some x2/\w.cell? ⟨B,3,none⟩=some x3)/\
 w.frozen? ⟨B,0,none⟩=false/\w.frozen? ⟨B,1,none⟩=false/\w.frozen? ⟨B,2,none⟩=false/\w.frozen? ⟨B,3,none⟩=false
theorem YD (w:World) (x0 x1 x2 x3:Value) (t:TypeId):Slot (w.alloc (.cells #[x0,x1,x2,x3] t)) w.heap.size x0 x1 x2 x3:=by
 unfold Slot;simp
theorem Slot.below {w w1:World} {B:Nat} {x0 x1 x2 x3:Value} (h:Slot w B x0 x1 x2 x3) (k:Below w.heap.size w w1):Slot w1 B x0 x1 x2 x3:=by
 obtain ⟨⟨h0,h1,h2,h3⟩,f0,f1,f2,f3⟩:=h;have hB:=block_lt_of_cell h0
 exact ⟨⟨(k.cell (p:=⟨B,0,none⟩) hB).trans h0,(k.cell (p:=⟨B,1,none⟩) hB).trans h1,(k.cell (p:=⟨B,2,none⟩) hB).trans h2,(k.cell (p:=⟨B,3,none⟩) hB).trans h3⟩,
  (k.frozen (p:=⟨B,0,none⟩) hB).trans f0,(k.frozen (p:=⟨B,1,none⟩) hB).trans f1,(k.frozen (p:=⟨B,2,none⟩) hB).trans f2,(k.frozen (p:=⟨B,3,none⟩) hB).trans f3⟩
theorem Slot.wrote {w:World} {B:Nat} {x0 x1 x2 x3:Value} (h:Slot w B x0 x1 x2 x3) (y0 y1 y2 y3:Value):
  Slot ((((w.setCell ⟨B,0,none⟩ y0).setCell ⟨B,1,none⟩ y1).setCell ⟨B,2,none⟩ y2).setCell ⟨B,3,none⟩ y3) B y0 y1 y2 y3:=by
 obtain ⟨⟨h0,h1,h2,h3⟩,f0,f1,f2,f3⟩:=h;have ne:∀{i j:Nat},i≠j->(⟨B,j,none⟩:Addr)≠⟨B,i,none⟩:=fun h e=>h (by simp only [Addr.mk.injEq] at e;omega)
 have k1:(w.setCell ⟨B,0,none⟩ y0).cell? ⟨B,1,none⟩=some x1:=by rw [World.cell?_setCell_other _ _ _ _ (ne (by decide)),h1]
 have k2:((w.setCell ⟨B,0,none⟩ y0).setCell ⟨B,1,none⟩ y1).cell? ⟨B,2,none⟩=some x2:=by rw [World.cell?_setCell_other _ _ _ _ (ne (by decide)),World.cell?_setCell_other _ _ _ _ (ne (by decide)),h2]
 have k3:(((w.setCell ⟨B,0,none⟩ y0).setCell ⟨B,1,none⟩ y1).setCell ⟨B,2,none⟩ y2).cell? ⟨B,3,none⟩=some x3:=by rw [World.cell?_setCell_other _ _ _ _ (ne (by decide)),World.cell?_setCell_other _ _ _ _ (ne (by decide)),World.cell?_setCell_other _ _ _ _ (ne (by decide)),h3]
 refine ⟨⟨?_,?_,?_,?_⟩,?_,?_,?_,?_⟩
 ·rw [World.cell?_setCell_other _ _ _ _ (ne (by decide)),World.cell?_setCell_other _ _ _ _ (ne (by decide)),World.cell?_setCell_other _ _ _ _ (ne (by decide)),World.cell?_setCell_same _ _ _ h0]
 ·rw [World.cell?_setCell_other _ _ _ _ (ne (by decide)),World.cell?_setCell_other _ _ _ _ (ne (by decide)),World.cell?_setCell_same _ _ _ k1]
 ·rw [World.cell?_setCell_other _ _ _ _ (ne (by decide)),World.cell?_setCell_same _ _ _ k2]
 ·rw [World.cell?_setCell_same _ _ _ k3]
 ·simp [f0]
 ·simp [f1]
 ·simp [f2]
 ·simp [f3]
theorem zT {w0 w:World} {B C:Nat} (h:Below C w0 w) (hC:C<=B) (y0 y1 y2 y3:Value):
  Below C w0 ((((w.setCell ⟨B,0,none⟩ y0).setCell ⟨B,1,none⟩ y1).setCell ⟨B,2,none⟩ y2).setCell ⟨B,3,none⟩ y3):=
 (((h.setCell hC _).setCell hC _).setCell hC _).setCell hC _
theorem Own.weaken {base b:Nat} {w:World} {v:Value} {zs:List Int} (h:Own base w v zs) (k:b<=base):Own b w v zs:=by
 obtain ⟨h1,h2|⟨g,cap,cur,e,hg,r⟩⟩:=h
 ·exact ⟨h1,.inl h2⟩
 ·exact ⟨h1,.inr ⟨g,cap,cur,e,by omega,r⟩⟩
theorem Own.keep {base:Nat} {w w1:World} {v:Value} {zs:List Int} (h:Own base w v zs) (k:∀j,base<=j->w1.heap[j]?=w.heap[j]?):Own base w1 v zs:=by
 obtain ⟨h1,h2|⟨g,cap,cur,e,hg,hc,r⟩⟩:=h
 ·exact ⟨h1,.inl h2⟩
 ·exact ⟨h1,.inr ⟨g,cap,cur,e,hg,(k g hg).trans hc,r⟩⟩
theorem kU (w:World) (B:Nat) (y0 y1 y2 y3:Value) (j:Nat) (h:B<j):
  ((((w.setCell ⟨B,0,none⟩ y0).setCell ⟨B,1,none⟩ y1).setCell ⟨B,2,none⟩ y2).setCell ⟨B,3,none⟩ y3).heap[j]?=w.heap[j]?:=by
 have ne:∀i,j≠(⟨B,i,none⟩:Addr).block:=fun i=>by show j≠B;omega
 rw [Below.heap_setCell _ _ _ _ (ne 3),Below.heap_setCell _ _ _ _ (ne 2),Below.heap_setCell _ _ _ _ (ne 1),Below.heap_setCell _ _ _ _ (ne 0)]
theorem open_any (a:Option Addr) (cap:Nat) (zs:List Int) (w:World) (h:Row w a cap zs):
  Calls prog 173 #[.slice a zs.length cap] w fun e w'=>∃v,e=.returned (.tuple #[v,.int .i64 (opE zs)])/\Opened w.heap.size w' v (opP zs)/\Below w.heap.size w w':=by
 by_cases hl:zs.length=256
 ·obtain ⟨b,off,rfl⟩:=h.some' (by omega)
  have cn:∀(p n:Int) (w1:World),Below w.heap.size w w1->Calls prog 207 #[.slice (some ⟨b,off,none⟩) 256 cap,.int .i64 p,.int .i64 n] w1 fun e w'=>e=.returned (.int .i64 (getI zs p n))/\Below w1.heap.size w1 w':=fun p n w1 hb=>by
   have:=number_any _ _ _ p n _ (h.below hb)
   rwa [hl] at this
  have cs:∀(w1:World),Below w.heap.size w w1->Calls prog 208 #[.slice (some ⟨b,off,none⟩) 256 cap] w1 fun e w'=>e=.returned (.int .i64 (crc (zs.drop 4)))/\w1=w':=fun w1 hb=>by
   have:=sum_any _ _ _ _ _ (h.below hb) hl
   rwa [hl] at this
  have cc:∀(w1:World),Below w.heap.size w w1->Calls prog 70 #[.slice (some ⟨b,off+8,none⟩) 248 (cap-8)] w1 fun e w'=>∃g c,e=.returned (.slice (some ⟨g,0,none⟩) 248 c)/\Own w1.heap.size w' (.slice (some ⟨g,0,none⟩) 248 c) (zs.drop 8)/\Below w1.heap.size w1 w':=fun w1 hb=>by
   have e:(zs.drop 8).length=248:=by simp [hl]
   have:=JP _ _ _ _ ((h.below hb).drop' 8 (by omega)) (by omega)
   rwa [e] at this
  have hc:=h.2.1;have hm:=h.2.2.1;unfold maxLen at hm;rw [hl] at hc;have e1:opE zs=if getI zs 0 4=crc (zs.drop 4) then (if okK (getI zs 4 1) then 0 else 4) else 5:=by simp [opE,hl]
  have hno:∀{base:Nat} {w:World},opE zs≠0->Opened base w (.agg #[.int .i64 0,.int .i64 0,.int .i64 0,.slice none 0 0]) (opP zs):=fun hh=>YU _ _ zs hh
  have hyes:opE zs=0->opP zs=⟨getI zs 4 1,getI zs 5 1,getI zs 6 2,zs.drop 8⟩:=fun hh=>by simp [opP,hh]
  rw [hl];obtain ⟨E,hE⟩:∃E,opE zs=E:=⟨_,rfl⟩;obtain ⟨p,hp⟩:∃p,opP zs=p:=⟨_,rfl⟩;rw [hE,hp] at hno hyes;rw [hE] at e1 ⊢;rw [hp];obtain ⟨x0,h0⟩:∃x,getI zs 0 4=x:=⟨_,rfl⟩;obtain ⟨s0,hs0⟩:∃x,crc (zs.drop 4)=x:=⟨_,rfl⟩;obtain ⟨x4,h4⟩:∃x,getI zs 4 1=x:=⟨_,rfl⟩;obtain ⟨x5,h5⟩:∃x,getI zs 5 1=x:=⟨_,rfl⟩;obtain ⟨x6,h6⟩:∃x,getI zs 6 2=x:=⟨_,rfl⟩;have c0:=cn 0 4;have c4:=cn 4 1;have c5:=cn 5 1;have c6:=cn 6 2;rw [h0] at c0 e1;rw [h4] at c4 e1 hyes;rw [h5] at c5 hyes;rw [h6] at c6 hyes;rw [hs0] at cs e1;have C0:Hid _:=c0;have C4:Hid _:=c4;have C5:Hid _:=c5;have C6:Hid _:=c6;have CS:Hid _:=cs;have CC:Hid _:=cc;have HE:Hid _:=e1;have HNO:Hid (∀{base:Nat} {w:World},E≠0->Opened base w (.agg #[.int .i64 0,.int .i64 0,.int .i64 0,.slice none 0 0]) p):= @hno;have HYES:Hid _:=hyes;clear c0 c4 c5 c6 cs cc cn h0 h4 h5 h6 hs0 e1 hno hyes hE hp h hl;by_cases hs:x0=s0
  ·have hsb:(x0 !=s0)=false:=by simp [hs]
   have HS:Hid (x0=s0):=hs;clear hs;cases hk:okK x4
   ·have he:E=4:=by rw [HE.out,if_pos HS.out,hk];rfl
    subst he;go_enter func173,ntmps173
    go_wp2_with fail
    refine (C0.out _ ((Below.refl _ _).alloc (jB _) _)).mono ?_;rintro e w1 ⟨rfl,hb1⟩;have HB1:Hid (Below w.heap.size w w1):=((Below.refl _ _).alloc (jB _) _).trans (hb1.mono (by simp));have S1:Hid (Slot w1 w.heap.size _ _ _ _):=(YD w _ _ _ _ 171).below hb1;clear hb1;go_wp2_with fail
    refine (CS.out _ HB1.out).mono ?_;rintro e w2 ⟨rfl,rfl⟩;go_wp2_with fail
    refine (C4.out _ HB1.out).mono ?_;rintro e w2 ⟨rfl,hb2⟩;have HB2:Hid (Below w.heap.size w w2):=HB1.out.trans (hb2.mono HB1.out.size);have S2:Hid (Slot w2 w.heap.size _ _ _ _):=S1.out.below hb2;clear hb2;go_wp2_with (go_at_call 209;refine (YW _ _).mono ?_;rintro e w' ⟨rfl,rfl⟩;rw [hk];obtain ⟨⟨k0,k1,k2,k3⟩,f0,f1,f2,f3⟩:=S2.out)
    clear k0 k1 k2 k3 f0 f1 f2 f3;obtain ⟨⟨q0,q1,q2,q3⟩,_⟩:=S2.out.wrote (.int .i64 0) (.int .i64 0) (.int .i64 0) (.slice none 0 0);refine bodyPost_ret (v:=.tuple #[.agg #[.int .i64 0,.int .i64 0,.int .i64 0,.slice none 0 0],.int .i64 4]) ?_ rfl ⟨_,rfl,HNO.out (by decide),zT HB2.out (jB _) _ _ _ _⟩;simp [results,Tryz.results173,go_sem,q0,q1,q2,q3]
   ·have he:E=0:=by rw [HE.out,if_pos HS.out,hk];rfl
    subst he;have hp:=HYES.out rfl;subst hp;go_enter func173,ntmps173
    go_wp2_with fail
    refine (C0.out _ ((Below.refl _ _).alloc (jB _) _)).mono ?_;rintro e w1 ⟨rfl,hb1⟩;have HB1:Hid (Below w.heap.size w w1):=((Below.refl _ _).alloc (jB _) _).trans (hb1.mono (by simp));have S1:Hid (Slot w1 w.heap.size _ _ _ _):=(YD w _ _ _ _ 171).below hb1;clear hb1;go_wp2_with fail
    refine (CS.out _ HB1.out).mono ?_;rintro e w2 ⟨rfl,rfl⟩;go_wp2_with fail
    refine (C4.out _ HB1.out).mono ?_;rintro e w2 ⟨rfl,hb2⟩;have HB2:Hid (Below w.heap.size w w2):=HB1.out.trans (hb2.mono HB1.out.size);have S2:Hid (Slot w2 w.heap.size _ _ _ _):=S1.out.below hb2;clear hb2;go_wp2_with (go_at_call 209;refine (YW _ _).mono ?_;rintro e w' ⟨rfl,rfl⟩;rw [hk])
    have tok1:True:=trivial
    go_region_held3 (fun _=>True) (first|trivial|go_keep) (first
     |(go_at_call 207;have _t:=tok1;refine (C5.out _ HB2.out.drew).mono ?_;rintro e w3 ⟨rfl,hb3⟩;have HB3:Hid (Below w.heap.size w w3):=HB2.out.drew.trans (hb3.mono HB2.out.size);have S3:Hid (Slot w3 w.heap.size _ _ _ _):=(S2.out.below (Below.refl _ _).drew).below hb3;clear hb3 tok1 _t)
     |(go_at_call 207;refine (C6.out _ HB3.out).mono ?_;rintro e w4 ⟨rfl,hb4⟩;have HB4:Hid (Below w.heap.size w w4):=HB3.out.trans (hb4.mono HB3.out.size);have S4:Hid (Slot w4 w.heap.size _ _ _ _):=S3.out.below hb4;clear hb4)
     |(go_at_call 70;refine (CC.out _ HB4.out).mono ?_;rintro e w5 ⟨g,c,rfl,ho,hb5⟩;have HB5:Hid (Below w.heap.size w w5):=HB4.out.trans (hb5.mono HB4.out.size);have S5:Hid (Slot w5 w.heap.size _ _ _ _):=S4.out.below hb5;have HO:Hid (Own w4.heap.size w5 (.slice (some ⟨g,0,none⟩) 248 c) (zs.drop 8)):=ho;have HS4:Hid (w.heap.size<w4.heap.size):=block_lt_of_cell S4.out.1.1;clear hb5 ho;obtain ⟨⟨k0,k1,k2,k3⟩,f0,f1,f2,f3⟩:=S5.out))
    go_wp2;clear k0 k1 k2 k3 f0 f1 f2 f3;obtain ⟨⟨q0,q1,q2,q3⟩,_⟩:=S5.out.wrote (.int .i64 x4) (.int .i64 x5) (.int .i64 x6) (.slice (some ⟨g,0,none⟩) 248 c);refine bodyPost_ret (v:=.tuple #[.agg #[.int .i64 x4,.int .i64 x5,.int .i64 x6,.slice (some ⟨g,0,none⟩) 248 c],.int .i64 0]) ?_ rfl ⟨_,rfl,⟨_,rfl,?_⟩,zT HB5.out (jB _) _ _ _ _⟩
    ·simp [results,Tryz.results173,go_sem,q0,q1,q2,q3]
    ·exact (HO.out.keep (fun j hj=>kU _ _ _ _ _ _ _ (by have:=HS4.out;omega))).weaken (Nat.le_of_lt HS4.out)
  ·have hsb:(x0 !=s0)=true:=by simpa using hs
   have he:E=5:=by rw [HE.out,if_neg hs]
   subst he;go_enter func173,ntmps173
   go_wp2_with fail
   refine (C0.out _ ((Below.refl _ _).alloc (jB _) _)).mono ?_;rintro e w1 ⟨rfl,hb1⟩;have HB1:Hid (Below w.heap.size w w1):=((Below.refl _ _).alloc (jB _) _).trans (hb1.mono (by simp));have S1:Hid (Slot w1 w.heap.size _ _ _ _):=(YD w _ _ _ _ 171).below hb1;clear hb1;go_wp2_with fail
   refine (CS.out _ HB1.out).mono ?_;rintro e w2 ⟨rfl,rfl⟩;obtain ⟨⟨k0,k1,k2,k3⟩,f0,f1,f2,f3⟩:=S1.out;go_wp2;clear k0 k1 k2 k3 f0 f1 f2 f3;obtain ⟨⟨q0,q1,q2,q3⟩,_⟩:=S1.out.wrote (.int .i64 0) (.int .i64 0) (.int .i64 0) (.slice none 0 0);refine bodyPost_ret (v:=.tuple #[.agg #[.int .i64 0,.int .i64 0,.int .i64 0,.slice none 0 0],.int .i64 5]) ?_ rfl ⟨_,rfl,HNO.out (by decide),zT HB1.out (jB _) _ _ _ _⟩;simp [results,Tryz.results173,go_sem,q0,q1,q2,q3]
 ·have hv:opE zs=1:=by simp [opE,hl]
  have hp:=YU w.heap.size w zs (by omega);have hlb:((zs.length:Int) !=256)=true:=by simp;omega
  have hm:=jP h.2.1 h.2.2.1;unfold maxLen at hm;rw [hv];clear hv h hl;go_enter func173,ntmps173
  go_wp2;refine bodyPost_ret (v:=.tuple #[.agg #[.int .i64 0,.int .i64 0,.int .i64 0,.slice none 0 0],.int .i64 1]) ?_ rfl ⟨_,rfl,hp.alloc _,(Below.refl _ _).alloc (jB _) _⟩;simp [results,Tryz.results173,go_sem]
def Sh (base g:Nat) (w:World) (zs:List Int):Prop:=
 ∃a cap,w.cell? ⟨g,0,none⟩=some (.slice a zs.length cap)/\w.frozen? ⟨g,0,none⟩=false/\Own base w (.slice a zs.length cap) zs/\(Value.slice a zs.length cap).ownBlock≠some g
def LayEnd (C g:Nat) (w:World) (err:Int) (zs:List Int) (e:Ending) (w':World):Prop:=
 e=.returned (.int .i64 err)/\∃u,Below C w u/\(w'=u\/∃v,w'=u.setCell ⟨g,0,none⟩ v)/\(err=0->Sh C g w' zs)
theorem own_ne {base g:Nat} {w:World} {v:Value} {zs:List Int} (h:Own base w v zs) (hg:g<base):v.ownBlock≠some g:=fun e=>by
 have:=h.lt' g e;omega
theorem own_keep1 {base g:Nat} {w:World} {v:Value} {zs:List Int} (h:Own base w v zs) (hne:v.ownBlock≠some g) (u:Value):Own base (w.setCell ⟨g,0,none⟩ u) v zs:=by
 obtain ⟨h1,h2|⟨g',cap,cur,e,hg,hc,r⟩⟩:=h
 ·exact ⟨h1,.inl h2⟩
 ·refine ⟨h1,.inr ⟨g',cap,cur,e,hg,?_,r⟩⟩;rw [Below.heap_setCell _ _ _ _ (by intro e';apply hne;rw [e,show g=g' from e'.symm];rfl)];exact hc
theorem sh_laid {C base g:Nat} {w u:World} {zs ys:List Int} {a:Option Addr} {cap:Nat} (hs:Sh base g w zs) (hC:C<=w.heap.size) (hb:Below w.heap.size w u) (ho:Own w.heap.size u (.slice a ys.length cap) ys):
  Sh C g (u.setCell ⟨g,0,none⟩ (.slice a ys.length cap)) ys:=by
 obtain ⟨a0,c0,k1,k2,k3,k4⟩:=hs;have hg:=block_lt_of_cell k1;have hne:=own_ne ho hg;refine ⟨a,cap,?_,?_,(own_keep1 ho hne _).weaken hC,hne⟩
 ·rw [World.cell?_setCell_same _ _ _ ((hb.cell (p:=⟨g,0,none⟩) hg).trans k1)]
 ·rw [World.frozen?_setCell];exact (hb.frozen (p:=⟨g,0,none⟩) hg).trans k2
theorem QE (C base g:Nat) (zs:List Int) (p n x:Int) (w:World) (hs:Sh base g w zs) (hb:Bys zs) (hl:zs.length=256) (hx:x<=9223372036854775807) (hC:C<=w.heap.size):
  Calls prog 254 #[.pointer (some ⟨g,0,none⟩),.int .i64 p,.int .i64 n,.int .i64 x] w (LayEnd C g w (if putB zs p n x then 0 else 1) (putR zs p n x)):=by
 have hs0:=hs;obtain ⟨a,cap,k1,k2,k3,k4⟩:=hs;obtain ⟨_,hr⟩:=k3.row' hb;have c:=put_any a cap zs p n x w hr (by omega) hx;have hpb:=YF hb p n x;cases hB:putB zs p n x
 ·rw [hB] at c;have HC:Hid (C<=w.heap.size):=hC;clear hr k3 k4 hs0 hpb hB hC hl;go_enter func254,ntmps254
  go_wp2_with fail
  refine c.mono ?_;clear c;rintro e w1 ⟨v,rfl,ho,hb1⟩;have HB1:Hid (Below w.heap.size w w1):=hb1;clear hb1 ho;go_wp2;go_ret
  exact ⟨rfl,_,HB1.out.mono HC.out,.inl rfl,fun h=>by simp at h⟩
 ·rw [hB] at c;have HSH:Hid (Sh base g w zs):=hs0;have HPB:Hid (Bys (putR zs p n x)):=hpb;have HC:Hid (C<=w.heap.size):=hC;have hg:=block_lt_of_cell k1;clear hr k3 k4 hs0 hpb hB hC hl;go_enter func254,ntmps254
  go_wp2_with fail
  refine c.mono ?_;clear c;rintro e w1 ⟨v,rfl,ho,hb1⟩;obtain ⟨a1,c1,rfl,_⟩:=ho.row HPB.out;have HO:Hid (Own w.heap.size w1 (.slice a1 (putR zs p n x).length c1) (putR zs p n x)):=ho;have HB1:Hid (Below w.heap.size w w1):=hb1;have k1':=(hb1.cell (p:=⟨g,0,none⟩) hg).trans k1;have k2':=(hb1.frozen (p:=⟨g,0,none⟩) hg).trans k2;clear hb1 ho k1 k2;go_wp2;go_ret
  exact ⟨rfl,_,HB1.out.mono HC.out,.inr ⟨_,rfl⟩,fun _=>sh_laid HSH.out HC.out HB1.out HO.out⟩
theorem vH {P:Program} {ops:Array Oper} {o:Oper} {a:Act} {w:World} {K:Act->World->Prop} {Q:Exit->Act->World->Prop} {E:Prop} (hgd:o.guard=none) (d s:Operand) (dT sT:TypeId)
  (ho:o.op=.call {callee:=.builtin .copy,args:= #[d,s],argTypes:= #[dT,sT]}) (elem:TypeId) (hu:P.underlying dT=some (.slice elem)) (hsz:(P.info? elem).map (·.size)=some 1)
  (dp sp:Option Addr) (dLen dCap sLen sCap:Nat) (hd:a.eval d=.slice dp dLen dCap) (hs:a.eval s=.slice sp sLen sCap)
  (g off:Nat) (cur:List Value) (t:TypeId) (hg:w.heap[g]?=some (.cells cur.toArray t (0,0))) (cs:List Value) (hn:cs.length=Nat.min sLen dLen)
  (hpos:0<cs.length->dp=some ⟨g,off,none⟩/\∃ad,sp=some ad/\∀j v,cs[j]?=some v->w.cell? (ad.add j)=some v)
  (hfit:off+cs.length<=cur.length) (h1:∀v∈cs,v.oneCell'=true) (B:Nat) (w0:World) (hb:Below B w0 w) (hBg:B<=g)
  (h:∀w',Hid (w'.heap[g]?=some (.cells (splice cur off cs).toArray t (0,0)))->(∀j,j≠g->w'.heap[j]?=w.heap[j]?)->Below B w0 w'->K (a.put o.dst (goInt cs.length)) w'):
  if Region.wanted o (yielded ops a.tmps)=true then Oper.wp P o a w K Q else E:=by
 have hw:Region.wanted o (yielded ops a.tmps)=true:=by simp [Region.wanted,hgd]
 rw [if_pos hw];by_cases h0:cs.length=0
 ·obtain rfl:cs=[]:=qE h0;have hrun:=run_copy_none (P:=P) w dT sT o.type elem dp sp dLen dCap sLen sCap hu hsz (by simpa using hn.symm);unfold Oper.wp;simp [execOp,ho,resolve,invoke,builtin,hd,hs,hrun,Result.andThen];exact h w (show _=_ by simpa [splice] using hg) (fun _ _=>rfl) hb
 ·obtain ⟨rfl,ad,rfl,hsrc⟩:=hpos (by omega);have hrun:=run_copy_row (P:=P) w dT sT o.type elem g off dLen dCap ad sLen sCap cur.toArray t cs hu hsz hg hn hsrc (by simpa using hfit) h1;unfold Oper.wp;simp [execOp,ho,resolve,invoke,builtin,hd,hs,hrun,Result.andThen];exact h _ (show _=_ by simpa [splice] using setRow_heap w g _ _ t _ hg) (fun j hj=>setRow_other w g j _ hj) (below_setRow hb hBg _)
theorem Sh.below {base g:Nat} {w w1:World} {zs:List Int} (h:Sh base g w zs) (k:Below w.heap.size w w1):Sh base g w1 zs:=by
 obtain ⟨a,cap,k1,k2,k3,k4⟩:=h;have hg:=block_lt_of_cell k1;refine ⟨a,cap,(k.cell (p:=⟨g,0,none⟩) hg).trans k1,(k.frozen (p:=⟨g,0,none⟩) hg).trans k2,?_,k4⟩;obtain ⟨h1,h2|⟨g',cap',cur,e,hg',hc,r⟩⟩:=k3
 ·exact ⟨h1,.inl h2⟩
 ·refine ⟨h1,.inr ⟨g',cap',cur,e,hg',(k.block g' ?_).trans hc,r⟩⟩;by_cases hlt:g'<w.heap.size
  ·exact hlt
  ·rw [Array.getElem?_eq_none (by omega)] at hc;cases hc
theorem LayEnd.pre {C g:Nat} {w w1:World} {err:Int} {zs:List Int} {e:Ending} {w':World} (h:LayEnd C g w1 err zs e w') (k:Below C w w1):LayEnd C g w err zs e w':=by
 obtain ⟨h1,u,h2,h3,h4⟩:=h;exact ⟨h1,u,k.trans h2,h3,h4⟩
abbrev pgV (p:Pg) (ba:Option Addr) (bc:Nat):Value:=.agg #[.int .i64 p.kind,.int .i64 p.level,.int .i64 p.count,.slice ba p.body.length bc]
theorem layKind_any (C base g:Nat) (zs:List Int) (p:Pg) (ba:Option Addr) (bc:Nat) (w:World) (hs:Sh base g w zs) (hb:Bys zs) (hl:zs.length=256) (hx:p.kind<=9223372036854775807) (hC:C<=w.heap.size):
  Calls prog 222 #[.pointer (some ⟨g,0,none⟩),pgV p ba bc] w (LayEnd C g w (if okK p.kind&&putB zs 4 1 p.kind then 0 else 1) (putR zs 4 1 p.kind)):=by
 obtain ⟨kd,lv,ct,bd⟩:=p;dsimp only [pgV] at*;have hb0:Below w.heap.size w (w.alloc (.cells #[.int .i64 kd,.int .i64 lv,.int .i64 ct,.slice ba bd.length bc] 171)):=(Below.refl _ _).alloc (jB _) _;have c:=QE C base g zs 4 1 kd _ (hs.below hb0) hb hl hx (jP hC hb0.size);have HB:Hid (Below C w (w.alloc (.cells #[.int .i64 kd,.int .i64 lv,.int .i64 ct,.slice ba bd.length bc] 171))):=hb0.mono hC;clear hb0 hs hb hl hx hC;cases hk:okK kd
 ·have e:(if (false&&putB zs 4 1 kd)=true then (0:Int) else 1)=1:=rfl;rw [e];clear c e;go_enter func222,ntmps222
  go_wp2_with (go_at_call 209;refine (YW _ _).mono ?_;rintro e w' ⟨rfl,rfl⟩;rw [hk])
  go_ret
  exact ⟨rfl,_,HB.out,.inl rfl,fun h=>by simp at h⟩
 ·rw [xP];obtain ⟨E,hE⟩:∃E,(if putB zs 4 1 kd=true then (0:Int) else 1)=E:=⟨_,rfl⟩;obtain ⟨Z,hZ⟩:∃Z,putR zs 4 1 kd=Z:=⟨_,rfl⟩;rw [hE,hZ] at c;rw [hE,hZ];clear hE hZ;go_enter func222,ntmps222
  go_wp2_with (go_at_call 209;refine (YW _ _).mono ?_;rintro e w' ⟨rfl,rfl⟩;rw [hk])
  refine c.mono ?_;clear c;rintro e w1 h;obtain ⟨rfl,_⟩:=id h;have HH:Hid (LayEnd C g w E Z (.returned (.int .i64 E)) w1):=h.pre HB.out;clear h HB;go_wp2;go_ret
  exact HH.out
theorem GC (C base g:Nat) (zs:List Int) (p:Pg) (ba:Option Addr) (bc:Nat) (w:World) (hs:Sh base g w zs) (hb:Bys zs) (hl:zs.length=256) (hx:p.level<=9223372036854775807) (hC:C<=w.heap.size):
  Calls prog 223 #[.pointer (some ⟨g,0,none⟩),pgV p ba bc] w (LayEnd C g w (if putB zs 5 1 p.level then 0 else 1) (putR zs 5 1 p.level)):=by
 obtain ⟨kd,lv,ct,bd⟩:=p;dsimp only [pgV] at*;have hb0:Below w.heap.size w (w.alloc (.cells #[.int .i64 kd,.int .i64 lv,.int .i64 ct,.slice ba bd.length bc] 171)):=(Below.refl _ _).alloc (jB _) _;have c:=QE C base g zs 5 1 lv _ (hs.below hb0) hb hl hx (jP hC hb0.size);have HB:Hid (Below C w (w.alloc (.cells #[.int .i64 kd,.int .i64 lv,.int .i64 ct,.slice ba bd.length bc] 171))):=hb0.mono hC;clear hb0 hs hb hl hx hC;obtain ⟨E,hE⟩:∃E,(if putB zs 5 1 lv=true then (0:Int) else 1)=E:=⟨_,rfl⟩;obtain ⟨Z,hZ⟩:∃Z,putR zs 5 1 lv=Z:=⟨_,rfl⟩;rw [hE,hZ] at c;rw [hE,hZ];clear hE hZ;go_enter func223,ntmps223
 go_wp2_with fail
 refine c.mono ?_;clear c;rintro e w1 h;obtain ⟨rfl,_⟩:=id h;have HH:Hid (LayEnd C g w E Z (.returned (.int .i64 E)) w1):=h.pre HB.out;clear h HB;go_wp2;go_ret
 exact HH.out
theorem GD (C base g:Nat) (zs:List Int) (p:Pg) (ba:Option Addr) (bc:Nat) (w:World) (hs:Sh base g w zs) (hb:Bys zs) (hl:zs.length=256) (hx:p.count<=9223372036854775807) (hC:C<=w.heap.size):
  Calls prog 224 #[.pointer (some ⟨g,0,none⟩),pgV p ba bc] w (LayEnd C g w (if putB zs 6 2 p.count then 0 else 1) (putR zs 6 2 p.count)):=by
 obtain ⟨kd,lv,ct,bd⟩:=p;dsimp only [pgV] at*;have hb0:Below w.heap.size w (w.alloc (.cells #[.int .i64 kd,.int .i64 lv,.int .i64 ct,.slice ba bd.length bc] 171)):=(Below.refl _ _).alloc (jB _) _;have c:=QE C base g zs 6 2 ct _ (hs.below hb0) hb hl hx (jP hC hb0.size);have HB:Hid (Below C w (w.alloc (.cells #[.int .i64 kd,.int .i64 lv,.int .i64 ct,.slice ba bd.length bc] 171))):=hb0.mono hC;clear hb0 hs hb hl hx hC;obtain ⟨E,hE⟩:∃E,(if putB zs 6 2 ct=true then (0:Int) else 1)=E:=⟨_,rfl⟩;obtain ⟨Z,hZ⟩:∃Z,putR zs 6 2 ct=Z:=⟨_,rfl⟩;rw [hE,hZ] at c;rw [hE,hZ];clear hE hZ;go_enter func224,ntmps224
 go_wp2_with fail
 refine c.mono ?_;clear c;rintro e w1 h;obtain ⟨rfl,_⟩:=id h;have HH:Hid (LayEnd C g w E Z (.returned (.int .i64 E)) w1):=h.pre HB.out;clear h HB;go_wp2;go_ret
 exact HH.out
theorem laySum_any (C base g:Nat) (zs:List Int) (p:Pg) (ba:Option Addr) (bc:Nat) (w:World) (hs:Sh base g w zs) (hb:Bys zs) (hl:zs.length=256) (hC:C<=w.heap.size):
  Calls prog 226 #[.pointer (some ⟨g,0,none⟩),pgV p ba bc] w (LayEnd C g w (if putB zs 0 4 (crc (zs.drop 4)) then 0 else 1) (putR zs 0 4 (crc (zs.drop 4)))):=by
 obtain ⟨kd,lv,ct,bd⟩:=p;dsimp only [pgV] at*;have hx:=KD (zs:=zs.drop 4) (fun z hz=>hb z (jV hz));obtain ⟨W,hW⟩:∃W,W=w.alloc (.cells #[.int .i64 kd,.int .i64 lv,.int .i64 ct,.slice ba bd.length bc] 171):=⟨_,rfl⟩;have hb0:Below w.heap.size w W:=by rw [hW];exact (Below.refl _ _).alloc (jB _) _
 have hs1:=hs.below hb0;have c:=QE C base g zs 0 4 (crc (zs.drop 4)) W hs1 hb hl (by omega) (jP hC hb0.size);obtain ⟨a,cap,k1,k2,k3,k4⟩:=hs1;obtain ⟨_,hr⟩:=k3.row' hb;obtain ⟨b,off,rfl⟩:=hr.some' (by omega);have c2:=sum_any _ _ _ _ _ hr hl;have HB:Hid (Below C w W):=hb0.mono hC;clear hb0 hs hC hr k3 k4;obtain ⟨E,hE⟩:∃E,(if putB zs 0 4 (crc (zs.drop 4))=true then (0:Int) else 1)=E:=⟨_,rfl⟩;obtain ⟨Z,hZ⟩:∃Z,putR zs 0 4 (crc (zs.drop 4))=Z:=⟨_,rfl⟩;rw [hE,hZ] at c;rw [hE,hZ];clear hE hZ;obtain ⟨x,hxx⟩:∃x,crc (zs.drop 4)=x:=⟨_,rfl⟩;rw [hxx] at c c2 hx;rw [hl] at k1 c2;clear hl hb hxx;subst hW;go_enter func226,ntmps226
 go_wp2_with fail
 refine c2.mono ?_;clear c2;rintro e w1 ⟨rfl,rfl⟩;go_wp2_with fail
 refine c.mono ?_;clear c;rintro e w1 h;obtain ⟨rfl,_⟩:=id h;have HH:Hid (LayEnd C g w E Z (.returned (.int .i64 E)) w1):=h.pre HB.out;clear h HB;go_wp2;go_ret
 exact HH.out
def spl (zs bd:List Int):List Int:=zs.take 8++(bd++zs.drop (8+bd.length))
theorem YR {zs bd:List Int} (hl:zs.length=256) (hd:bd.length<=248):(spl zs bd).length=256:=by
 simp [spl];omega
theorem spl_bys {zs bd:List Int} (hz:Bys zs) (hd:Bys bd):Bys (spl zs bd):=
 Bys.app (fun z h=>hz z (jU h)) (Bys.app hd (fun z h=>hz z (jV h)))
theorem own_splice {base g cap:Nat} {w1:World} {cur:List Value} {zs bd:List Int} (hl:zs.length=256) (hd:bd.length<=248) (hg:base<=g) (hcap:256<=cap) (hm:cap<=maxLen) (hsz:cur.length=cap) (ht:cur.take 256=zs.map (Value.int .u8))
  (h:w1.heap[g]?=some (.cells (splice cur 8 (bd.map (Value.int .u8))).toArray 5 (0,0))):Own base w1 (.slice (some ⟨g,0,none⟩) 256 cap) (spl zs bd):=by
 refine ⟨by simp [YR hl hd],.inr ⟨g,cap,_,by rw [YR hl hd],hg,h,by rw [YR hl hd];omega,hm,?_,?_⟩⟩
 ·simp [splice];omega
 ·have e:(spl zs bd).map (Value.int .u8)=(cur.take 256).take 8++(bd.map (Value.int .u8)++(cur.take 256).drop (8+bd.length)):=by
   rw [ht];simp [spl]
  rw [e,YR hl hd];have hA:(cur.take 8).length=8:=by simp;omega
  have hB:(bd.map (Value.int .u8)).length=bd.length:=by simp
  have e2:splice cur 8 (bd.map (Value.int .u8))=cur.take 8++(bd.map (Value.int .u8)++cur.drop (8+bd.length)):=by simp [splice]
  rw [List.toList_toArray,e2,Nat.mul_one,List.take_append,hA,List.take_append,hB,qR (show (cur.take 8).length<=256 by omega),qR (show (bd.map (Value.int .u8)).length<=256-8 by omega),List.take_take,List.drop_take]
  congr 3
  omega
theorem layBody_any (C g:Nat) (zs:List Int) (p:Pg) (ba:Option Addr) (bc:Nat) (w:World) (hs:Sh C g w zs) (hl:zs.length=256) (hr:Row w ba bc p.body) (hC:C<=w.heap.size):
  Calls prog 225 #[.pointer (some ⟨g,0,none⟩),pgV p ba bc] w (LayEnd C g w (if p.body.length<=248 then 0 else 3) (spl zs p.body)):=by
 obtain ⟨kd,lv,ct,bd⟩:=p;dsimp only [pgV] at*;obtain ⟨W,hW⟩:∃W,W=w.alloc (.cells #[.int .i64 kd,.int .i64 lv,.int .i64 ct,.slice ba bd.length bc] 171):=⟨_,rfl⟩;have hb0:Below w.heap.size w W:=by rw [hW];exact (Below.refl _ _).alloc (jB _) _
 have HB:Hid (Below C w W):=hb0.mono hC;have hm:=jP hr.2.1 hr.2.2.1;unfold maxLen at hm;by_cases hd:bd.length<=248
 ·rw [if_pos hd]
  have hk3:∀{a cap},w.cell? ⟨g,0,none⟩=some (.slice a zs.length cap)->Own C w (.slice a zs.length cap) zs:=by
   obtain ⟨a,cap,k1,_,k3,_⟩:=hs;intro a' cap' h;rw [k1] at h;simp only [jQ] at h;rw [<-h];exact k3
  have hgl:g<w.heap.size:=by obtain ⟨_,_,k1,_⟩:=hs;exact block_lt_of_cell k1
  obtain ⟨a,cap,k1,k2,k3,k4⟩:=hs.below hb0;have hk3':=hk3 ((hb0.cell (p:=⟨g,0,none⟩) hgl).symm.trans k1);clear hk3;have hr1:=hr.below hb0;rw [hl] at k1 k3 k4;obtain ⟨_,⟨e,_⟩|⟨gb,cap',cur,e,hg',hc,hn',hm',hsz,ht⟩⟩:=k3
  ·cases e
  ·simp only [Value.slice.injEq] at e;obtain ⟨rfl,hL2,rfl⟩:=e;clear hL2
   have hnb:w.heap.size≠gb:=fun e=>by
    have:=(World.ownsRow.lt hk3' gb rfl).2;omega
   clear hk3';obtain ⟨cur',hcur⟩:∃cur':List Value,cur=cur'.toArray:=⟨cur.toList,by simp⟩;subst hcur;have HSZ:Hid (cur'.length=cap):=show _=_ by simpa using hsz
   have HT:Hid (cur'.take 256=zs.map (Value.int .u8)):=show _=_ by simpa [hl] using ht
   have HHC:Hid (W.heap[gb]?=some (.cells cur'.toArray 5 (0,0))):=hc;have HN:Hid (256<=cap):=show 256<=cap by omega
   have hn2:256<=cap:=by omega
   have hc8:¬cap=8:=by omega
   have HM:Hid (cap<=maxLen):=hm';unfold maxLen at hm';have HR:Hid (Row W ba bc bd):=hr1;have HG:Hid (C<=gb):=hg';have HK4:Hid (gb≠g):=show gb≠g from fun e=>k4 (by rw [e];rfl)
   have HL:Hid (zs.length=256):=hl
   have HS1:Hid ((prog.info? 5).map (·.size)=some 1):=by
    obtain ⟨i0,hi0,hz0,hz1,hz2⟩:=info_parts info5;show _=_;rw [hi0];simp [hz1]
   have HNB:Hid (w.heap.size≠gb):=show w.heap.size≠gb from hnb
   have HK1:Hid (W.cell? ⟨g,0,none⟩=some (.slice (some ⟨gb,0,none⟩) 256 cap)):=k1;have HK2:Hid (W.frozen? ⟨g,0,none⟩=false):=k2;have hdi:¬(248:Int)<bd.length:=by omega
   clear hs hl hr hb0 hr1 hsz ht hc hn' hg' k4;subst hW;go_enter func225,ntmps225
   go_wp2
   have HP:Hid (0<(bd.map (Value.int .u8)).length->(some ⟨gb,8,none⟩:Option Addr)=some ⟨gb,8,none⟩/\∃ad,ba=some ad/\∀j v,(bd.map (Value.int .u8))[j]?=some v->(w.alloc (.cells #[.int .i64 kd,.int .i64 lv,.int .i64 ct,.slice ba bd.length bc] 171)).drew.cell? (ad.add j)=some v):=by
    intro hp;obtain ⟨b,off,hba⟩:=HR.out.some' (by simpa using hp);subst hba;exact ⟨rfl,⟨b,off,none⟩,rfl,QS (HR.out.below (Below.refl _ _).drew)⟩
   have HNN:Hid ((bd.map (Value.int .u8)).length=Nat.min bd.length 248):=by
    show _=_;rw [qU];exact (xX hd).symm
   have HQ1:Hid ((w.alloc (.cells #[.int .i64 kd,.int .i64 lv,.int .i64 ct,.slice ba bd.length bc] 171)).drew.cell? ⟨g,0,none⟩=some (.slice (some ⟨gb,0,none⟩) 256 cap)):=HK1.out;have HQ3:Hid ((w.alloc (.cells #[.int .i64 kd,.int .i64 lv,.int .i64 ct,.slice ba bd.length bc] 171)).drew.frozen? ⟨g,0,none⟩=false):=HK2.out;have HQ2:Hid ((w.alloc (.cells #[.int .i64 kd,.int .i64 lv,.int .i64 ct,.slice ba bd.length bc] 171)).drew.cell? ⟨w.heap.size,3,none⟩=some (.slice ba bd.length bc)):=by show _=_;simp
   have HF:Hid (8+(bd.map (Value.int .u8)).length<=cur'.length):=by
    show _<=_;have:=HSZ.out;have:=HN.out;simp;omega
   go_region_held3 (fun w'=>w'.cell? ⟨g,0,none⟩=some (.slice (some ⟨gb,0,none⟩) 256 cap)/\w'.cell? ⟨w.heap.size,3,none⟩=some (.slice ba bd.length bc)) (first|exact ⟨HK1.out,by simp⟩|exact ⟨q1,q2⟩|go_keep)
    ((refine vH (by rfl) (.tmp 13) (.tmp 15) 32 32 (by rfl) 5 underlying32 HS1.out (some ⟨gb,8,none⟩) ba 248 (cap-8) bd.length bc (by rfl) (by rfl) gb 8 cur' 5 HHC.out (bd.map (Value.int .u8)) HNN.out HP.out HF.out (zQ bd) C w HB.out.drew HG.out ?_;intro w1 hcells hoth hbel;have q1:w1.cell? ⟨g,0,none⟩=some (.slice (some ⟨gb,0,none⟩) 256 cap):=(World.cell?_of_block (hoth g HK4.out.symm)).trans HQ1.out;have q2:w1.cell? ⟨w.heap.size,3,none⟩=some (.slice ba bd.length bc):=(World.cell?_of_block (hoth w.heap.size HNB.out)).trans HQ2.out;have q3:w1.frozen? ⟨g,0,none⟩=false:=(World.frozen?_of_block (hoth g HK4.out.symm)).trans HQ3.out))
   have hsh:Sh C g w1 (spl zs bd):=by
    have hsl:=YR HL.out hd;refine ⟨some ⟨gb,0,none⟩,cap,by rw [hsl];exact q1,q3,?_,?_⟩
    ·rw [hsl];exact own_splice HL.out hd HG.out HN.out HM.out HSZ.out HT.out hcells.out
    ·rw [hsl];intro e;simp [Value.ownBlock] at e;exact HK4.out e
   have HSH:Hid _:=hsh;clear hsh hcells;go_wp2;go_ret
   exact ⟨rfl,_,hbel,.inl rfl,fun _=>HSH.out⟩
 ·rw [if_neg hd];have hdb:(248:Int)<bd.length:=by omega
  clear hs hl hr hb0 hd;subst hW;go_enter func225,ntmps225
  go_wp2;go_ret
  exact ⟨rfl,_,HB.out,.inl rfl,fun h=>by simp at h⟩
def st0:List Int:=List.replicate 256 0
def st1 (p:Pg):List Int:=putR st0 4 1 p.kind
def st2 (p:Pg):List Int:=putR (st1 p) 5 1 p.level
def st3 (p:Pg):List Int:=putR (st2 p) 6 2 p.count
def st4 (p:Pg):List Int:=spl (st3 p) p.body
def st5 (p:Pg):List Int:=putR (st4 p) 0 4 (crc ((st4 p).drop 4))
def st (p:Pg) (k:Nat):List Int:=match k with
 |0=>st0
 |1=>st1 p
 |2=>st2 p
 |3=>st3 p
 |4=>st4 p
 |_=>st5 p
def er (p:Pg) (k:Nat):Int:=match k with
 |0=>if okK p.kind&&putB st0 4 1 p.kind then 0 else 1
 |1=>if putB (st1 p) 5 1 p.level then 0 else 1
 |2=>if putB (st2 p) 6 2 p.count then 0 else 1
 |3=>if p.body.length<=248 then 0 else 3
 |_=>if putB (st4 p) 0 4 (crc ((st4 p).drop 4)) then 0 else 1
theorem er0 (p:Pg):er p 0=if okK p.kind&&putB st0 4 1 p.kind then 0 else 1:=by unfold er;rfl
theorem er1 (p:Pg):er p 1=if putB (st1 p) 5 1 p.level then 0 else 1:=by unfold er;rfl
theorem er2 (p:Pg):er p 2=if putB (st2 p) 6 2 p.count then 0 else 1:=by unfold er;rfl
theorem er3 (p:Pg):er p 3=if p.body.length<=248 then 0 else 3:=by unfold er;rfl
theorem er4 (p:Pg):er p 4=if putB (st4 p) 0 4 (crc ((st4 p).drop 4)) then 0 else 1:=by unfold er;rfl
theorem bys0:Bys st0:=fun z h=>by
 have:=List.eq_of_mem_replicate h;omega
theorem UT {zs:List Int} {p n x:Int} (h:putB zs p n x=true):(putR zs p n x).length=zs.length:=by
 unfold putR;rw [if_pos h,uH]
theorem st_ok {p:Pg} (hb:Bys p.body) {k:Nat} (hk:k<=5) (h:∀j,j<k->er p j=0):Bys (st p k)/\(st p k).length=256:=by
 have l0:st0.length=256:=jK;have b1:Bys (st1 p):=YF bys0 _ _ _;have b2:Bys (st2 p):=YF b1 _ _ _;have b3:Bys (st3 p):=YF b2 _ _ _;have b4:Bys (st4 p):=spl_bys b3 hb;have b5:Bys (st5 p):=YF b4 _ _ _
 have l1:1<=k->(st1 p).length=256:=fun h1=>by
  have e:=h 0 (by omega)
  have:(okK p.kind&&putB st0 4 1 p.kind)=true:=by
   by_cases hh:(okK p.kind&&putB st0 4 1 p.kind)=true
   ·exact hh
   ·have e2:er p 0=1:=by rw [er0,if_neg hh]
    omega
  rw [jO] at this;exact (UT this.2).trans l0
 have l2:2<=k->(st2 p).length=256:=fun h1=>by
  have e:=h 1 (by omega)
  have:putB (st1 p) 5 1 p.level=true:=by
   by_cases hh:putB (st1 p) 5 1 p.level=true
   ·exact hh
   ·have e2:er p 1=1:=by rw [er1,if_neg hh]
    omega
  exact (UT this).trans (l1 (by omega))
 have l3:3<=k->(st3 p).length=256:=fun h1=>by
  have e:=h 2 (by omega)
  have:putB (st2 p) 6 2 p.count=true:=by
   by_cases hh:putB (st2 p) 6 2 p.count=true
   ·exact hh
   ·have e2:er p 2=1:=by rw [er2,if_neg hh]
    omega
  exact (UT this).trans (l2 (by omega))
 have l4:4<=k->(st4 p).length=256:=fun h1=>by
  have e:=h 3 (by omega)
  have:p.body.length<=248:=by
   by_cases hh:p.body.length<=248
   ·exact hh
   ·have e2:er p 3=3:=by rw [er3,if_neg hh]
    omega
  exact YR (l3 (by omega)) this
 have l5:5<=k->(st5 p).length=256:=fun h1=>by
  have e:=h 4 (by omega)
  have:putB (st4 p) 0 4 (crc ((st4 p).drop 4))=true:=by
   by_cases hh:putB (st4 p) 0 4 (crc ((st4 p).drop 4))=true
   ·exact hh
   ·have e2:er p 4=1:=by rw [er4,if_neg hh]
    omega
  exact (UT this).trans (l4 (by omega))
 have:k=0\/k=1\/k=2\/k=3\/k=4\/k=5:=by omega
 rcases this with rfl|rfl|rfl|rfl|rfl|rfl
 ·exact ⟨bys0,l0⟩
 ·exact ⟨b1,l1 (by omega)⟩
 ·exact ⟨b2,l2 (by omega)⟩
 ·exact ⟨b3,l3 (by omega)⟩
 ·exact ⟨b4,l4 (by omega)⟩
 ·exact ⟨b5,l5 (by omega)⟩
theorem parts_any (w:World):Calls prog 185 #[] w fun e w'=>e=.returned (.slice (some ⟨w.heap.size,0,none⟩) 5 5)/\w'=w.alloc (.cells #[.func (Fn.func 222) #[] #[],.func (Fn.func 223) #[] #[],.func (Fn.func 224) #[] #[],.func (Fn.func 225) #[] #[],.func (Fn.func 226) #[] #[]] 220):=by
 go_enter func185,ntmps185
 go_wp2;go_ret
 exact ⟨rfl,rfl⟩
def pf (k:Nat):Nat:=match k with
 |0=>222
 |1=>223
 |2=>224
 |3=>225
 |_=>226
structure Lay (w wr:World) (p:Pg) (ba:Option Addr) (bc g k:Nat):Prop where
 no:∀j,j<k->er p j=0
 sh:∃base,(1<=k->base=g+2)/\Sh base g wr (st p k)
 slot:Slot wr w.heap.size (.int .i64 p.kind) (.int .i64 p.level) (.int .i64 p.count) (.slice ba p.body.length bc)
 parts:∀i,i<5->wr.cell? ⟨g+1,i,none⟩=some (.func (Fn.func (pf i)) #[] #[])
 bel:Below w.heap.size w wr
 size:g+2<=wr.heap.size
 lt:w.heap.size<g
theorem LayEnd.same {C g:Nat} {w:World} {err:Int} {zs:List Int} {e:Ending} {w':World} (h:LayEnd C g w err zs e w') (j:Nat) (hj:j<C) (hg:j≠g):w'.heap[j]?=w.heap[j]?:=by
 obtain ⟨_,u,h2,h3|⟨v,h3⟩,_⟩:=h
 ·subst h3;exact h2.block j hj
 ·subst h3;rw [Below.heap_setCell _ _ _ _ (by exact hg)];exact h2.block j hj
theorem LayEnd.below {C g B:Nat} {w w0:World} {err:Int} {zs:List Int} {e:Ending} {w':World} (h:LayEnd C g w err zs e w') (hC:B<=C) (hg:B<=g) (k:Below B w0 w):Below B w0 w':=by
 obtain ⟨_,u,h2,h3|⟨v,h3⟩,_⟩:=h
 ·subst h3;exact k.trans (h2.mono hC)
 ·subst h3;exact (k.trans (h2.mono hC)).setCell (p:=⟨g,0,none⟩) hg _
theorem Slot.same {w w1:World} {B:Nat} {x0 x1 x2 x3:Value} (h:Slot w B x0 x1 x2 x3) (k:w1.heap[B]?=w.heap[B]?):Slot w1 B x0 x1 x2 x3:=by
 obtain ⟨⟨h0,h1,h2,h3⟩,f0,f1,f2,f3⟩:=h
 exact ⟨⟨(World.cell?_of_block k).trans h0,(World.cell?_of_block k).trans h1,(World.cell?_of_block k).trans h2,(World.cell?_of_block k).trans h3⟩,
  (World.frozen?_of_block k).trans f0,(World.frozen?_of_block k).trans f1,(World.frozen?_of_block k).trans f2,(World.frozen?_of_block k).trans f3⟩
theorem LayEnd.size {C g:Nat} {w:World} {err:Int} {zs:List Int} {e:Ending} {w':World} (h:LayEnd C g w err zs e w'):w.heap.size<=w'.heap.size:=by
 obtain ⟨_,u,h2,h3|⟨v,h3⟩,_⟩:=h
 ·subst h3;exact h2.size
 ·subst h3;simpa [World.setCell] using h2.size
theorem Lay.next {w wr w':World} {p:Pg} {ba:Option Addr} {bc g k:Nat} {e:Ending} (h:Lay w wr p ba bc g k) (he:LayEnd (g+2) g wr (er p k) (st p (k+1)) e w') (h0:er p k=0):Lay w w' p ba bc g (k+1) where
 no:=fun j hj=>by
  by_cases hjk:j=k
  ·rw [hjk];exact h0
  ·exact h.no j (by omega)
 sh:=⟨g+2,fun _=>rfl,by obtain ⟨_,u,_,_,h4⟩:=he;exact h4 h0⟩
 slot:=h.slot.same (he.same _ (by have:=h.lt;omega) (by have:=h.lt;omega))
 parts:=fun i hi=>(World.cell?_of_block (a:=⟨g+1,i,none⟩) (he.same (g+1) (by omega) (by omega))).trans (h.parts i hi)
 bel:=he.below (by have:=h.lt;omega) (by have:=h.lt;omega) h.bel
 size:=jP h.size he.size
 lt:=h.lt
theorem Lay.row {w wr:World} {p:Pg} {ba:Option Addr} {bc g k:Nat} (h:Lay w wr p ba bc g k) (hr:Row w ba bc p.body):Row wr ba bc p.body:=hr.below h.bel
theorem lay_all {w wr:World} {p:Pg} {ba:Option Addr} {bc g k:Nat} (h:Lay w wr p ba bc g k) (hk:k<5) (hr:Row w ba bc p.body) (h1:p.kind<=9223372036854775807) (h2:p.level<=9223372036854775807) (h3:p.count<=9223372036854775807):
  Calls prog (pf k) #[.pointer (some ⟨g,0,none⟩),pgV p ba bc] wr (LayEnd (g+2) g wr (er p k) (st p (k+1))):=by
 obtain ⟨hb,hl⟩:=st_ok hr.1 (Nat.le_of_lt hk) h.no;obtain ⟨base,hbase,hs⟩:=h.sh;have:k=0\/k=1\/k=2\/k=3\/k=4:=by omega
 rcases this with rfl|rfl|rfl|rfl|rfl
 ·rw [er0];exact layKind_any (g+2) base g _ p ba bc wr hs hb hl h1 h.size
 ·rw [er1];exact GC (g+2) base g _ p ba bc wr hs hb hl h2 h.size
 ·rw [er2];exact GD (g+2) base g _ p ba bc wr hs hb hl h3 h.size
 ·rw [er3];rw [hbase (by omega)] at hs;exact layBody_any (g+2) g _ p ba bc wr hs hl (h.row hr) h.size
 ·rw [er4];exact laySum_any (g+2) base g _ p ba bc wr hs hb hl h.size
theorem seal_walk (p:Pg) (ba:Option Addr) (bc:Nat) (w:World) (hr:Row w ba bc p.body) (E:Int) (Z:List Int) (h1:p.kind<=9223372036854775807) (h2:p.level<=9223372036854775807) (h3:p.count<=9223372036854775807)
  (HA:Hid (∀k,k<5->(∀j,j<k->er p j=0)->er p k≠0->E=er p k/\Z=[])) (HZ:Hid ((∀j,j<5->er p j=0)->E=0/\Z=st p 5)):
  Calls prog 143 #[pgV p ba bc] w fun e w'=>∃v,e=.returned (.tuple #[v,.int .i64 E])/\Own w.heap.size w' v Z/\Below w.heap.size w w':=by
 have HL:∀{wr:World} {g k:Nat},Lay w wr p ba bc g k->k<5->Calls prog (pf k) #[.pointer (some ⟨g,0,none⟩),pgV p ba bc] wr (LayEnd (g+2) g wr (er p k) (st p (k+1))):=fun h hk=>lay_all h hk hr h1 h2 h3
 have HR:Hid (Row w ba bc p.body):=hr;have HLL:Hid (∀{wr:World} {g k:Nat},Lay w wr p ba bc g k->k<5->Calls prog (pf k) #[.pointer (some ⟨g,0,none⟩),pgV p ba bc] wr (LayEnd (g+2) g wr (er p k) (st p (k+1)))):= @HL;clear HL hr h1 h2 h3;obtain ⟨i0,hi0,hz0,hz1,hz2⟩:=info_parts info5;dsimp only [pgV] at*;go_enter func143,ntmps143
 go_wp2_with (first|(go_at_call 185;refine (parts_any _).mono ?_;rintro e w' ⟨rfl,rfl⟩)|(at_make;refine wpList_make_full _ rfl _ _ 32 rfl w.heap.size 5 i0 (.int .u8 0) 1 underlying32 hi0 hz0 hz1 .i64 .i64 _ _ 256 rfl rfl rfl rfl (by rw [hz2];omega) (by simp [maxLen]) (by simp) ?_;intro w1 hown1 hgrow1))
 have HLAY:Hid (Lay w ((w1.alloc (.cells #[.slice (some ⟨w.heap.size+1,0,none⟩) 256 256] 217)).alloc (.cells #[.func (Fn.func 222) #[] #[],.func (Fn.func 223) #[] #[],.func (Fn.func 224) #[] #[],.func (Fn.func 225) #[] #[],.func (Fn.func 226) #[] #[]] 220)) p ba bc w1.heap.size 0):=by
  have ho1:Own w.heap.size w1 (.slice (some ⟨w.heap.size+1,0,none⟩) 256 256) st0:=by
   have e:(w.alloc (.cells #[.int .i64 p.kind,.int .i64 p.level,.int .i64 p.count,.slice ba p.body.length bc] 171)).heap.size=w.heap.size+1:=by simp
   rw [e] at hown1;exact JJ hown1
  have hb0:Below (w.heap.size+1) (w.alloc (.cells #[.int .i64 p.kind,.int .i64 p.level,.int .i64 p.count,.slice ba p.body.length bc] 171)) w1:=(Below.refl _ _).grown hgrow1 (by simp) (by simp);have hlt:=(World.ownsRow.lt ho1 (w.heap.size+1) rfl).2;have hb2:Below w1.heap.size w1 ((w1.alloc (.cells #[.slice (some ⟨w.heap.size+1,0,none⟩) 256 256] 217)).alloc (.cells #[.func (Fn.func 222) #[] #[],.func (Fn.func 223) #[] #[],.func (Fn.func 224) #[] #[],.func (Fn.func 225) #[] #[],.func (Fn.func 226) #[] #[]] 220)):=((Below.refl _ _).alloc (jB _) _).alloc (by simp) _;refine ⟨fun j hj=>by omega,⟨w.heap.size,fun h=>by omega,some ⟨w.heap.size+1,0,none⟩,256,?_,?_,?_,?_⟩,?_,?_,?_,?_,?_⟩
  ·show _=some (Value.slice _ st0.length _);rw [show st0.length=256 from jK];simp
  ·simp
  ·show Own _ _ (Value.slice _ st0.length _) st0;rw [show st0.length=256 from jK];exact World.ownsRow.alloc (World.ownsRow.alloc ho1 _) _
  ·intro e;simp [Value.ownBlock] at e;omega
  ·exact (((YD w _ _ _ _ 171).below (hb0.mono (by simp))).below hb2)
  ·intro i hi;have:i=0\/i=1\/i=2\/i=3\/i=4:=by omega
   rcases this with rfl|rfl|rfl|rfl|rfl<;>simp [pf,World.cell?_alloc_at]
  ·exact (((Below.refl w.heap.size w).alloc (jB _) _).trans (hb0.mono (by omega))).trans (hb2.mono (by omega))
  ·simp
  ·omega
 clear hown1 hgrow1 hi0 hz0 hz1 hz2;obtain ⟨g,hg⟩:∃g,w1.heap.size=g:=⟨_,rfl⟩;rw [hg] at HLAY ⊢;go_loopw [13] (fun i wr=>∃k:Nat,k<=5/\i=.int .i64 k/\Lay w wr p ba bc g k) (fun i _=>5-(intOf i).toNat)
 case atStart=>exact ⟨0,jT _,rfl,HLAY.out⟩
 case round=>
  obtain ⟨k,hk,rfl,hlay⟩:=hrel;by_cases hlt:k<5
  ·obtain ⟨fk,hfk⟩:∃fk,pf k=fk:=⟨_,rfl⟩;have hpc:=hlay.parts k hlt;have c:=HLL.out hlay hlt
   have hfs:fk=222\/fk=223\/fk=224\/fk=225\/fk=226:=by
    rw [<-hfk];have:k=0\/k=1\/k=2\/k=3\/k=4:=by omega
    rcases this with rfl|rfl|rfl|rfl|rfl<;>simp [pf]
   rw [hfk] at c hpc;obtain ⟨er',her⟩:∃x,er p k=x:=⟨_,rfl⟩;rw [her] at c;obtain ⟨⟨k0,k1,k2,k3⟩,_⟩:=hlay.slot;have HLY:Hid (Lay w wr p ba bc g k):=hlay;have HER:Hid (er p k=er'):=her;clear hlay hfk her HLAY;by_cases hE:er'=0
   ·subst hE;rcases hfs with rfl|rfl|rfl|rfl|rfl
    all_goals
     go_wp2_with fail
     refine c.mono ?_;clear c;rintro e w2 h;obtain ⟨rfl,_⟩:=id h;have hn:=HLY.out.next (by rw [HER.out];exact h) HER.out;clear h k0 k1 k2 k3 hpc;go_wp2;go_roundw
     case rel=>exact ⟨k+1,by omega,by go_num,hn⟩
     case measure=>simp [intOf];omega
   ·have hEb:(er' !=0)=true:=by simpa using hE
    obtain ⟨q1,q2⟩:=HA.out k hlt HLY.out.no (by rw [HER.out];exact hE);rw [HER.out] at q1;subst q1 q2;rcases hfs with rfl|rfl|rfl|rfl|rfl
    all_goals
     go_wp2_with fail
     refine c.mono ?_;clear c;rintro e w2 h;obtain ⟨rfl,_⟩:=id h;have hb2:=h.below (B:=w.heap.size) (by have:=HLY.out.lt;omega) (by have:=HLY.out.lt;omega) HLY.out.bel;clear h k0 k1 k2 k3 hpc;go_wp2;go_ret2
     exact ⟨_,rfl,World.ownsRow_nil _ _ _ _,hb2⟩
  ·have hk5:k=5:=by omega
   subst hk5;obtain ⟨q1,q2⟩:=HZ.out hlay.no;have hsh:=hlay.sh;obtain ⟨Y,hY⟩:∃Y,st p 5=Y:=⟨_,rfl⟩;rw [hY] at q2 hsh;clear hY;have Q1:Hid (E=0):=q1;have Q2:Hid (Z=Y):=q2;clear q1 q2;obtain ⟨base,hb,a,cap,s1,s2,s3,s4⟩:=hsh
   have HO:Hid (Own w.heap.size wr (.slice a Y.length cap) Y):=by
    rw [hb (by omega)] at s3;exact s3.weaken (by have:=hlay.lt;omega)
   have HB:Hid (Below w.heap.size w wr):=hlay.bel;clear hlay hb s3 s4;go_wp2;go_ret2
   exact ⟨_,by rw [Q1.out];rfl,by rw [Q2.out];exact HO.out,HB.out⟩
end Go.Proofs.YtaijfhadecennaaGreat.Oct
