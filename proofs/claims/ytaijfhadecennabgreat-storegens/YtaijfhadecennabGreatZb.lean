/- Part of a proof. -/
import Derived.Test.YtaijfhadecennabGreatQi
import Derived.Test.YtaijfhadecennabGreatR
import Derived.Laws.EntriesVeiled
import Derived.Lib.SliceRun
import Derived.Deep.RegionHeld3
import Derived.Laws.CopyOwn
open Go.Proofs.Tryz
set_option maxHeartbeats 1000000
namespace Go.Proofs.YtaijfhadecennabGreat.Oct
open Go.RowKit
def okK (k:Int):Bool:=decide (1<=k/\k<=5)
theorem YG (k:Int) (w:World):
  Calls prog 162 #[.int .i64 k] w fun e w'=>e=.returned (.bool (okK k))/\w=w':=by
 by_cases h1:1<=k
 ·by_cases h2:k<=5
  ·have hv:okK k=true:=by simp [okK];omega
   rw [hv];clear hv;go_enter func162,ntmps162
   go_wp2;go_ret
   exact ⟨rfl,rfl⟩
  ·have hv:okK k=false:=by simp [okK];omega
   rw [hv];clear hv;go_enter func162,ntmps162
   go_wp2;go_ret
   exact ⟨rfl,rfl⟩
 ·have hv:okK k=false:=by simp [okK];omega
  rw [hv];clear hv;go_enter func162,ntmps162
  go_wp2;go_ret
  exact ⟨rfl,rfl⟩
theorem number_any (a:Option Addr) (cap:Nat) (zs:List Int) (p n:Int) (w:World) (h:Row w a cap zs):
  Calls prog 160 #[.slice a zs.length cap,.int .i64 p,.int .i64 n] w fun e w'=>e=.returned (.int .i64 (getI zs p n))/\Below w.heap.size w w':=by
 have c:=vN a cap zs p n w h;clear h;go_enter func160,ntmps160
 go_wp2_with fail
 refine c.mono ?_;clear c;rintro e w1 ⟨rfl,hb⟩;go_wp2;go_ret
 exact ⟨rfl,hb⟩
theorem Row.drop' {w:World} {b off cap:Nat} {zs:List Int} (h:Row w (some ⟨b,off,none⟩) cap zs) (k:Nat) (hk:k<=zs.length):Row w (some ⟨b,off+k,none⟩) (cap-k) (zs.drop k):=by
 refine ⟨fun z hz=>h.1 z (jY hz),by rw [qE];have:=h.2.1;omega,by have:=h.2.2.1;omega,.inr ⟨b,off+k,rfl,fun i hi=>?_⟩⟩;rw [qE] at hi;rw [yJ,h.cells (k+i) (by omega)];simp only [jA,qY]
theorem FJ {zs:List Int} (hb:Bys zs):0<=crc zs/\crc zs<=4294967295:=by
 have:=reg_lt hb zs.length;unfold crc;omega
theorem sum_any (b off cap:Nat) (zs:List Int) (w:World) (h:Row w (some ⟨b,off,none⟩) cap zs) (hl:zs.length=256):
  Calls prog 161 #[.slice (some ⟨b,off,none⟩) zs.length cap] w fun e w'=>e=.returned (.int .i64 (crc (zs.drop 4)))/\w=w':=by
 have hr:=h.drop' 4 (by omega);have c:=crc_any _ _ _ _ hr;rw [qE] at c;have hb:=FJ hr.1;have hc:=h.2.1;have hm:=h.2.2.1;unfold maxLen at hm;rw [hl] at hc c;rw [hl];clear h hr hl;obtain ⟨y,hy⟩:∃y,crc (zs.drop 4)=y:=⟨_,rfl⟩;rw [hy] at c hb;rw [hy];clear hy;go_enter func161,ntmps161
 go_wp2_with fail
 refine c.mono ?_;clear c;rintro e w1 ⟨rfl,rfl⟩;go_wp2;go_ret
 exact ⟨rfl,rfl⟩
theorem nil_slice (w:World) (a:Option Addr) (n c:Nat):(binOp .eql 22 (.slice a n c) (.slice none 0 0)).run prog w=.ok (.bool a.isNone) w:=Lib.run_eql_slice_nil w 22 5 a n c 0 0 underlying22
theorem JO (ad:Addr) (cap:Nat) (zs:List Int) (w:World) (h:Row w (some ad) cap zs) (hsz:zs.length<=140737488355328):
  Calls prog 48 #[.slice (some ad) zs.length cap] w fun e w'=>∃g c,e=.returned (.slice (some ⟨g,0,none⟩) zs.length c)/\Own w.heap.size w' (.slice (some ⟨g,0,none⟩) zs.length c) zs/\Below w.heap.size w w':=by
 obtain ⟨i0,hi,hz0,hz1,hz2⟩:=info_parts info5;have hm:zs.length<=maxLen:=jR h.2.1 h.2.2.1;have hr:=h.below ((Below.refl w.heap.size w).alloc (jB _) (.cells #[] 5));have hn:=QP hr;have ho:(w.alloc (.cells #[] 5)).ownsRow w.heap.size 5 1 (.slice (some ⟨w.heap.size,0,none⟩) 0 0) 0 []:=World.ownsRow_made w #[] 0 (jB _) (by simp [maxLen]) rfl;have HN:Hid (∀(j:Nat) (u:Value),(zs.map (Value.int .u8))[j]?=some u->(w.alloc (.cells #[] 5)).cell? (ad.add j)=some u):=hn;clear h hr hn;have hq:=nil_slice w (some ad) zs.length cap;go_enter func48,ntmps48
 go_wp2_with (at_builtin;refine wpList_append_own _ rfl _ _ 22 rfl w.heap.size 5 i0 (.int .u8 0) 1 1 underlying22 hi hz0 hz1 hz2 rfl (by decide) _ _ _ rfl ho ad zs.length cap (zs.map (Value.int .u8)) rfl (by simp) HN.out (zW zs) (by omega) (by omega) (by simp) ?_)
 intro v' w1 hown' hgrow hnil;have hb:Below w.heap.size w w1:=((Below.refl w.heap.size w).alloc (jB _) _).grown hgrow (by simp) (fun k hk=>by simp [Value.ownBlock] at hk;omega)
 have hv:∃g c,v'=.slice (some ⟨g,0,none⟩) zs.length c:=by
  rcases hown'.2 with ⟨e,_⟩|⟨g,c,cur,e,_⟩
  ·exact (hnil e).elim
  ·exact ⟨g,c,e⟩
 obtain ⟨g,c,hv⟩:=hv
 have HO:Hid (Own w.heap.size w1 (.slice (some ⟨g,0,none⟩) zs.length c) zs):=by
  rw [<-hv];exact hown'
 clear hown' hgrow hnil HN ho;rw [hv];go_wp2;go_ret
 exact ⟨g,c,rfl,HO.out,hb⟩
structure Pg where
 kind:Int
 level:Int
 count:Int
 body:List Int
def opE (zs:List Int):Int:=if zs.length=256 then (if getI zs 0 4=crc (zs.drop 4) then (if okK (getI zs 4 1) then 0 else 4) else 5) else 1
def opP (zs:List Int):Pg:=if opE zs=0 then ⟨getI zs 4 1,getI zs 5 1,getI zs 6 2,zs.drop 8⟩ else ⟨0,0,0,[]⟩
def Opened (base:Nat) (w:World) (v:Value) (p:Pg):Prop:=∃b,v=.agg #[.int .i64 p.kind,.int .i64 p.level,.int .i64 p.count,b]/\Own base w b p.body
theorem KC (base:Nat) (w:World) (zs:List Int) (h:opE zs≠0):Opened base w (.agg #[.int .i64 0,.int .i64 0,.int .i64 0,.slice none 0 0]) (opP zs):=by
 have e:opP zs=⟨0,0,0,[]⟩:=by simp [opP,h]
 rw [e];exact ⟨_,rfl,World.ownsRow_nil _ _ _ _⟩
theorem Opened.alloc {base:Nat} {w:World} {v:Value} {p:Pg} (h:Opened base w v p) (o:Obj):Opened base (w.alloc o) v p:=by
 obtain ⟨b,e,k⟩:=h;exact ⟨b,e,World.ownsRow.alloc k o⟩
def Slot (w:World) (B:Nat) (x0 x1 x2 x3:Value):Prop:=
 (w.cell? ⟨B,0,none⟩=some x0/\w.cell? ⟨B,1,none⟩=some x1/\w.cell? ⟨B,2,none⟩=some x2/\w.cell? ⟨B,3,none⟩=some x3)/\
 w.frozen? ⟨B,0,none⟩=false/\w.frozen? ⟨B,1,none⟩=false/\w.frozen? ⟨B,2,none⟩=false/\w.frozen? ⟨B,3,none⟩=false
theorem ZB (w:World) (x0 x1 x2 x3:Value) (t:TypeId):Slot (w.alloc (.cells #[x0,x1,x2,x3] t)) w.heap.size x0 x1 x2 x3:=by
 unfold Slot;simp
theorem Slot.below {w w1:World} {B:Nat} {x0 x1 x2 x3:Value} (h:Slot w B x0 x1 x2 x3) (k:Below w.heap.size w w1):Slot w1 B x0 x1 x2 x3:=by
 obtain ⟨⟨h0,h1,h2,h3⟩,f0,f1,f2,f3⟩:=h;have hB:=block_lt_of_cell h0
 exact ⟨⟨(k.cell (p:=⟨B,0,none⟩) hB).trans h0,(k.cell (p:=⟨B,1,none⟩) hB).trans h1,(k.cell (p:=⟨B,2,none⟩) hB).trans h2,(k.cell (p:=⟨B,3,none⟩) hB).trans h3⟩,
  (k.frozen (p:=⟨B,0,none⟩) hB).trans f0,(k.frozen (p:=⟨B,1,none⟩) hB).trans f1,(k.frozen (p:=⟨B,2,none⟩) hB).trans f2,(k.frozen (p:=⟨B,3,none⟩) hB).trans f3⟩
theorem Slot.wrote {w:World} {B:Nat} {x0 x1 x2 x3:Value} (h:Slot w B x0 x1 x2 x3) (y0 y1 y2 y3:Value):
  Slot ((((w.setCell ⟨B,0,none⟩ y0).setCell ⟨B,1,none⟩ y1).setCell ⟨B,2,none⟩ y2).setCell ⟨B,3,none⟩ y3) B y0 y1 y2 y3:=by
 obtain ⟨⟨h0,h1,h2,h3⟩,f0,f1,f2,f3⟩:=h;have ne:∀{i j:Nat},i≠j->(⟨B,j,none⟩:Addr)≠⟨B,i,none⟩:=fun h e=>h (by simp only [Addr.mk.injEq] at e;omega)
 have k1:(w.setCell ⟨B,0,none⟩ y0).cell? ⟨B,1,none⟩=some x1:=by rw [World.cell?_setCell_other _ _ _ _ (ne (by decide)),h1]
 have k2:((w.setCell ⟨B,0,none⟩ y0).setCell ⟨B,1,none⟩ y1).cell? ⟨B,2,none⟩=some x2:=by rw [World.cell?_setCell_other _ _ _ _ (ne (by decide)),World.cell?_setCell_other _ _ _ _ (ne (by decide)),h2]
 have k3:(((w.setCell ⟨B,0,none⟩ y0).setCell ⟨B,1,none⟩ y1).setCell ⟨B,2,none⟩ y2).cell? ⟨B,3,none⟩=some x3:=by rw [World.cell?_setCell_other _ _ _ _ (ne (by decide)),World.cell?_setCell_other _ _ _ _ (ne (by decide)),World.cell?_setCell_other _ _ _ _ (ne (by decide)),h3]
 refine ⟨⟨?_,?_,?_,?_⟩,?_,?_,?_,?_⟩
 ·rw [World.cell?_setCell_other _ _ _ _ (ne (by decide)),World.cell?_setCell_other _ _ _ _ (ne (by decide)),World.cell?_setCell_other _ _ _ _ (ne (by decide)),World.cell?_setCell_same _ _ _ h0]
 ·rw [World.cell?_setCell_other _ _ _ _ (ne (by decide)),World.cell?_setCell_other _ _ _ _ (ne (by decide)),World.cell?_setCell_same _ _ _ k1]
 ·rw [World.cell?_setCell_other _ _ _ _ (ne (by decide)),World.cell?_setCell_same _ _ _ k2]
 ·rw [World.cell?_setCell_same _ _ _ k3]
 ·simp [f0]
 ·simp [f1]
 ·simp [f2]
 ·simp [f3]
theorem XW {w0 w:World} {B C:Nat} (h:Below C w0 w) (hC:C<=B) (y0 y1 y2 y3:Value):
  Below C w0 ((((w.setCell ⟨B,0,none⟩ y0).setCell ⟨B,1,none⟩ y1).setCell ⟨B,2,none⟩ y2).setCell ⟨B,3,none⟩ y3):=
 (((h.setCell hC _).setCell hC _).setCell hC _).setCell hC _
theorem Own.weaken {base b:Nat} {w:World} {v:Value} {zs:List Int} (h:Own base w v zs) (k:b<=base):Own b w v zs:=by
 obtain ⟨h1,h2|⟨g,cap,cur,e,hg,r⟩⟩:=h
 ·exact ⟨h1,.inl h2⟩
 ·exact ⟨h1,.inr ⟨g,cap,cur,e,by omega,r⟩⟩
theorem Own.keep {base:Nat} {w w1:World} {v:Value} {zs:List Int} (h:Own base w v zs) (k:∀j,base<=j->w1.heap[j]?=w.heap[j]?):Own base w1 v zs:=by
 obtain ⟨h1,h2|⟨g,cap,cur,e,hg,hc,r⟩⟩:=h
 ·exact ⟨h1,.inl h2⟩
 ·exact ⟨h1,.inr ⟨g,cap,cur,e,hg,(k g hg).trans hc,r⟩⟩
theorem heap_wrote (w:World) (B:Nat) (y0 y1 y2 y3:Value) (j:Nat) (h:B<j):
  ((((w.setCell ⟨B,0,none⟩ y0).setCell ⟨B,1,none⟩ y1).setCell ⟨B,2,none⟩ y2).setCell ⟨B,3,none⟩ y3).heap[j]?=w.heap[j]?:=by
 have ne:∀i,j≠(⟨B,i,none⟩:Addr).block:=fun i=>by show j≠B;omega
 rw [Below.heap_setCell _ _ _ _ (ne 3),Below.heap_setCell _ _ _ _ (ne 2),Below.heap_setCell _ _ _ _ (ne 1),Below.heap_setCell _ _ _ _ (ne 0)]
theorem open_any (a:Option Addr) (cap:Nat) (zs:List Int) (w:World) (h:Row w a cap zs):
  Calls prog 118 #[.slice a zs.length cap] w fun e w'=>∃v,e=.returned (.tuple #[v,.int .i64 (opE zs)])/\Opened w.heap.size w' v (opP zs)/\Below w.heap.size w w':=by
 by_cases hl:zs.length=256
 ·obtain ⟨b,off,rfl⟩:=h.some' (by omega)
  have cn:∀(p n:Int) (w1:World),Below w.heap.size w w1->Calls prog 160 #[.slice (some ⟨b,off,none⟩) 256 cap,.int .i64 p,.int .i64 n] w1 fun e w'=>e=.returned (.int .i64 (getI zs p n))/\Below w1.heap.size w1 w':=fun p n w1 hb=>by
   have:=number_any _ _ _ p n _ (h.below hb)
   rwa [hl] at this
  have cs:∀(w1:World),Below w.heap.size w w1->Calls prog 161 #[.slice (some ⟨b,off,none⟩) 256 cap] w1 fun e w'=>e=.returned (.int .i64 (crc (zs.drop 4)))/\w1=w':=fun w1 hb=>by
   have:=sum_any _ _ _ _ _ (h.below hb) hl
   rwa [hl] at this
  have cc:∀(w1:World),Below w.heap.size w w1->Calls prog 48 #[.slice (some ⟨b,off+8,none⟩) 248 (cap-8)] w1 fun e w'=>∃g c,e=.returned (.slice (some ⟨g,0,none⟩) 248 c)/\Own w1.heap.size w' (.slice (some ⟨g,0,none⟩) 248 c) (zs.drop 8)/\Below w1.heap.size w1 w':=fun w1 hb=>by
   have e:(zs.drop 8).length=248:=by simp [hl]
   have:=JO _ _ _ _ ((h.below hb).drop' 8 (by omega)) (by omega)
   rwa [e] at this
  have hc:=h.2.1;have hm:=h.2.2.1;unfold maxLen at hm;rw [hl] at hc;have e1:opE zs=if getI zs 0 4=crc (zs.drop 4) then (if okK (getI zs 4 1) then 0 else 4) else 5:=by simp [opE,hl]
  have hno:∀{base:Nat} {w:World},opE zs≠0->Opened base w (.agg #[.int .i64 0,.int .i64 0,.int .i64 0,.slice none 0 0]) (opP zs):=fun hh=>KC _ _ zs hh
  have hyes:opE zs=0->opP zs=⟨getI zs 4 1,getI zs 5 1,getI zs 6 2,zs.drop 8⟩:=fun hh=>by simp [opP,hh]
  rw [hl];obtain ⟨E,hE⟩:∃E,opE zs=E:=⟨_,rfl⟩;obtain ⟨p,hp⟩:∃p,opP zs=p:=⟨_,rfl⟩;rw [hE,hp] at hno hyes;rw [hE] at e1 ⊢;rw [hp];obtain ⟨x0,h0⟩:∃x,getI zs 0 4=x:=⟨_,rfl⟩;obtain ⟨s0,hs0⟩:∃x,crc (zs.drop 4)=x:=⟨_,rfl⟩;obtain ⟨x4,h4⟩:∃x,getI zs 4 1=x:=⟨_,rfl⟩;obtain ⟨x5,h5⟩:∃x,getI zs 5 1=x:=⟨_,rfl⟩;obtain ⟨x6,h6⟩:∃x,getI zs 6 2=x:=⟨_,rfl⟩;have c0:=cn 0 4;have c4:=cn 4 1;have c5:=cn 5 1;have c6:=cn 6 2;rw [h0] at c0 e1;rw [h4] at c4 e1 hyes;rw [h5] at c5 hyes;rw [h6] at c6 hyes;rw [hs0] at cs e1;have C0:Hid _:=c0;have C4:Hid _:=c4;have C5:Hid _:=c5;have C6:Hid _:=c6;have CS:Hid _:=cs;have CC:Hid _:=cc;have HE:Hid _:=e1;have HNO:Hid (∀{base:Nat} {w:World},E≠0->Opened base w (.agg #[.int .i64 0,.int .i64 0,.int .i64 0,.slice none 0 0]) p):= @hno;have HYES:Hid _:=hyes;clear c0 c4 c5 c6 cs cc cn h0 h4 h5 h6 hs0 e1 hno hyes hE hp h hl;by_cases hs:x0=s0
  ·have hsb:(x0 !=s0)=false:=by simp [hs]
   have HS:Hid (x0=s0):=hs;clear hs;cases hk:okK x4
   ·have he:E=4:=by rw [HE.out,if_pos HS.out,hk];rfl
    subst he;go_enter func118,ntmps118
    go_wp2_with fail
    refine (C0.out _ ((Below.refl _ _).alloc (jB _) _)).mono ?_;rintro e w1 ⟨rfl,hb1⟩;have HB1:Hid (Below w.heap.size w w1):=((Below.refl _ _).alloc (jB _) _).trans (hb1.mono (by simp));have S1:Hid (Slot w1 w.heap.size _ _ _ _):=(ZB w _ _ _ _ 115).below hb1;clear hb1;go_wp2_with fail
    refine (CS.out _ HB1.out).mono ?_;rintro e w2 ⟨rfl,rfl⟩;go_wp2_with fail
    refine (C4.out _ HB1.out).mono ?_;rintro e w2 ⟨rfl,hb2⟩;have HB2:Hid (Below w.heap.size w w2):=HB1.out.trans (hb2.mono HB1.out.size);have S2:Hid (Slot w2 w.heap.size _ _ _ _):=S1.out.below hb2;clear hb2;go_wp2_with (go_at_call 162;refine (YG _ _).mono ?_;rintro e w' ⟨rfl,rfl⟩;rw [hk];obtain ⟨⟨k0,k1,k2,k3⟩,f0,f1,f2,f3⟩:=S2.out)
    clear k0 k1 k2 k3 f0 f1 f2 f3;obtain ⟨⟨q0,q1,q2,q3⟩,_⟩:=S2.out.wrote (.int .i64 0) (.int .i64 0) (.int .i64 0) (.slice none 0 0);refine bodyPost_ret (v:=.tuple #[.agg #[.int .i64 0,.int .i64 0,.int .i64 0,.slice none 0 0],.int .i64 4]) ?_ rfl ⟨_,rfl,HNO.out (by decide),XW HB2.out (jB _) _ _ _ _⟩;simp [results,Tryz.results118,go_sem,q0,q1,q2,q3]
   ·have he:E=0:=by rw [HE.out,if_pos HS.out,hk];rfl
    subst he;have hp:=HYES.out rfl;subst hp;go_enter func118,ntmps118
    go_wp2_with fail
    refine (C0.out _ ((Below.refl _ _).alloc (jB _) _)).mono ?_;rintro e w1 ⟨rfl,hb1⟩;have HB1:Hid (Below w.heap.size w w1):=((Below.refl _ _).alloc (jB _) _).trans (hb1.mono (by simp));have S1:Hid (Slot w1 w.heap.size _ _ _ _):=(ZB w _ _ _ _ 115).below hb1;clear hb1;go_wp2_with fail
    refine (CS.out _ HB1.out).mono ?_;rintro e w2 ⟨rfl,rfl⟩;go_wp2_with fail
    refine (C4.out _ HB1.out).mono ?_;rintro e w2 ⟨rfl,hb2⟩;have HB2:Hid (Below w.heap.size w w2):=HB1.out.trans (hb2.mono HB1.out.size);have S2:Hid (Slot w2 w.heap.size _ _ _ _):=S1.out.below hb2;clear hb2;go_wp2_with (go_at_call 162;refine (YG _ _).mono ?_;rintro e w' ⟨rfl,rfl⟩;rw [hk])
    have tok1:True:=trivial
    go_region_held3 (fun _=>True) (first|trivial|go_keep) (first
     |(go_at_call 160;have _t:=tok1;refine (C5.out _ HB2.out.drew).mono ?_;rintro e w3 ⟨rfl,hb3⟩;have HB3:Hid (Below w.heap.size w w3):=HB2.out.drew.trans (hb3.mono HB2.out.size);have S3:Hid (Slot w3 w.heap.size _ _ _ _):=(S2.out.below (Below.refl _ _).drew).below hb3;clear hb3 tok1 _t)
     |(go_at_call 160;refine (C6.out _ HB3.out).mono ?_;rintro e w4 ⟨rfl,hb4⟩;have HB4:Hid (Below w.heap.size w w4):=HB3.out.trans (hb4.mono HB3.out.size);have S4:Hid (Slot w4 w.heap.size _ _ _ _):=S3.out.below hb4;clear hb4)
     |(go_at_call 48;refine (CC.out _ HB4.out).mono ?_;rintro e w5 ⟨g,c,rfl,ho,hb5⟩;have HB5:Hid (Below w.heap.size w w5):=HB4.out.trans (hb5.mono HB4.out.size);have S5:Hid (Slot w5 w.heap.size _ _ _ _):=S4.out.below hb5;have HO:Hid (Own w4.heap.size w5 (.slice (some ⟨g,0,none⟩) 248 c) (zs.drop 8)):=ho;have HS4:Hid (w.heap.size<w4.heap.size):=block_lt_of_cell S4.out.1.1;clear hb5 ho;obtain ⟨⟨k0,k1,k2,k3⟩,f0,f1,f2,f3⟩:=S5.out))
    go_wp2;clear k0 k1 k2 k3 f0 f1 f2 f3;obtain ⟨⟨q0,q1,q2,q3⟩,_⟩:=S5.out.wrote (.int .i64 x4) (.int .i64 x5) (.int .i64 x6) (.slice (some ⟨g,0,none⟩) 248 c);refine bodyPost_ret (v:=.tuple #[.agg #[.int .i64 x4,.int .i64 x5,.int .i64 x6,.slice (some ⟨g,0,none⟩) 248 c],.int .i64 0]) ?_ rfl ⟨_,rfl,⟨_,rfl,?_⟩,XW HB5.out (jB _) _ _ _ _⟩
    ·simp [results,Tryz.results118,go_sem,q0,q1,q2,q3]
    ·exact (HO.out.keep (fun j hj=>heap_wrote _ _ _ _ _ _ _ (by have:=HS4.out;omega))).weaken (Nat.le_of_lt HS4.out)
  ·have hsb:(x0 !=s0)=true:=by simpa using hs
   have he:E=5:=by rw [HE.out,if_neg hs]
   subst he;go_enter func118,ntmps118
   go_wp2_with fail
   refine (C0.out _ ((Below.refl _ _).alloc (jB _) _)).mono ?_;rintro e w1 ⟨rfl,hb1⟩;have HB1:Hid (Below w.heap.size w w1):=((Below.refl _ _).alloc (jB _) _).trans (hb1.mono (by simp));have S1:Hid (Slot w1 w.heap.size _ _ _ _):=(ZB w _ _ _ _ 115).below hb1;clear hb1;go_wp2_with fail
   refine (CS.out _ HB1.out).mono ?_;rintro e w2 ⟨rfl,rfl⟩;obtain ⟨⟨k0,k1,k2,k3⟩,f0,f1,f2,f3⟩:=S1.out;go_wp2;clear k0 k1 k2 k3 f0 f1 f2 f3;obtain ⟨⟨q0,q1,q2,q3⟩,_⟩:=S1.out.wrote (.int .i64 0) (.int .i64 0) (.int .i64 0) (.slice none 0 0);refine bodyPost_ret (v:=.tuple #[.agg #[.int .i64 0,.int .i64 0,.int .i64 0,.slice none 0 0],.int .i64 5]) ?_ rfl ⟨_,rfl,HNO.out (by decide),XW HB1.out (jB _) _ _ _ _⟩;simp [results,Tryz.results118,go_sem,q0,q1,q2,q3]
 ·have hv:opE zs=1:=by simp [opE,hl]
  have hp:=KC w.heap.size w zs (by omega);have hlb:((zs.length:Int) !=256)=true:=by simp;omega
  have hm:=jR h.2.1 h.2.2.1;unfold maxLen at hm;rw [hv];clear hv h hl;go_enter func118,ntmps118
  go_wp2;refine bodyPost_ret (v:=.tuple #[.agg #[.int .i64 0,.int .i64 0,.int .i64 0,.slice none 0 0],.int .i64 1]) ?_ rfl ⟨_,rfl,hp.alloc _,(Below.refl _ _).alloc (jB _) _⟩;simp [results,Tryz.results118,go_sem]
def Sh (base g:Nat) (w:World) (zs:List Int):Prop:=
 ∃a cap,w.cell? ⟨g,0,none⟩=some (.slice a zs.length cap)/\w.frozen? ⟨g,0,none⟩=false/\Own base w (.slice a zs.length cap) zs/\(Value.slice a zs.length cap).ownBlock≠some g
def LayEnd (C g:Nat) (w:World) (err:Int) (zs:List Int) (e:Ending) (w':World):Prop:=
 e=.returned (.int .i64 err)/\∃u,Below C w u/\(w'=u\/∃v,w'=u.setCell ⟨g,0,none⟩ v)/\(err=0->Sh C g w' zs)
theorem own_ne {base g:Nat} {w:World} {v:Value} {zs:List Int} (h:Own base w v zs) (hg:g<base):v.ownBlock≠some g:=fun e=>by
 have:=h.lt' g e;omega
theorem own_keep1 {base g:Nat} {w:World} {v:Value} {zs:List Int} (h:Own base w v zs) (hne:v.ownBlock≠some g) (u:Value):Own base (w.setCell ⟨g,0,none⟩ u) v zs:=by
 obtain ⟨h1,h2|⟨g',cap,cur,e,hg,hc,r⟩⟩:=h
 ·exact ⟨h1,.inl h2⟩
 ·refine ⟨h1,.inr ⟨g',cap,cur,e,hg,?_,r⟩⟩;rw [Below.heap_setCell _ _ _ _ (by intro e';apply hne;rw [e,show g=g' from e'.symm];rfl)];exact hc
theorem sh_laid {C base g:Nat} {w u:World} {zs ys:List Int} {a:Option Addr} {cap:Nat} (hs:Sh base g w zs) (hC:C<=w.heap.size) (hb:Below w.heap.size w u) (ho:Own w.heap.size u (.slice a ys.length cap) ys):
  Sh C g (u.setCell ⟨g,0,none⟩ (.slice a ys.length cap)) ys:=by
 obtain ⟨a0,c0,k1,k2,k3,k4⟩:=hs;have hg:=block_lt_of_cell k1;have hne:=own_ne ho hg;refine ⟨a,cap,?_,?_,(own_keep1 ho hne _).weaken hC,hne⟩
 ·rw [World.cell?_setCell_same _ _ _ ((hb.cell (p:=⟨g,0,none⟩) hg).trans k1)]
 ·rw [World.frozen?_setCell];exact (hb.frozen (p:=⟨g,0,none⟩) hg).trans k2
theorem JR (C base g:Nat) (zs:List Int) (p n x:Int) (w:World) (hs:Sh base g w zs) (hb:Bys zs) (hl:zs.length=256) (hx:x<=9223372036854775807) (hC:C<=w.heap.size):
  Calls prog 249 #[.pointer (some ⟨g,0,none⟩),.int .i64 p,.int .i64 n,.int .i64 x] w (LayEnd C g w (if putB zs p n x then 0 else 1) (putR zs p n x)):=by
 have hs0:=hs;obtain ⟨a,cap,k1,k2,k3,k4⟩:=hs;obtain ⟨_,hr⟩:=k3.row' hb;have c:=put_any a cap zs p n x w hr (by omega) hx;have hpb:=XM hb p n x;cases hB:putB zs p n x
 ·rw [hB] at c;have HC:Hid (C<=w.heap.size):=hC;clear hr k3 k4 hs0 hpb hB hC hl;go_enter func249,ntmps249
  go_wp2_with fail
  refine c.mono ?_;clear c;rintro e w1 ⟨v,rfl,ho,hb1⟩;have HB1:Hid (Below w.heap.size w w1):=hb1;clear hb1 ho;go_wp2;go_ret
  exact ⟨rfl,_,HB1.out.mono HC.out,.inl rfl,fun h=>by simp at h⟩
 ·rw [hB] at c;have HSH:Hid (Sh base g w zs):=hs0;have HPB:Hid (Bys (putR zs p n x)):=hpb;have HC:Hid (C<=w.heap.size):=hC;have hg:=block_lt_of_cell k1;clear hr k3 k4 hs0 hpb hB hC hl;go_enter func249,ntmps249
  go_wp2_with fail
  refine c.mono ?_;clear c;rintro e w1 ⟨v,rfl,ho,hb1⟩;obtain ⟨a1,c1,rfl,_⟩:=ho.row HPB.out;have HO:Hid (Own w.heap.size w1 (.slice a1 (putR zs p n x).length c1) (putR zs p n x)):=ho;have HB1:Hid (Below w.heap.size w w1):=hb1;have k1':=(hb1.cell (p:=⟨g,0,none⟩) hg).trans k1;have k2':=(hb1.frozen (p:=⟨g,0,none⟩) hg).trans k2;clear hb1 ho k1 k2;go_wp2;go_ret
  exact ⟨rfl,_,HB1.out.mono HC.out,.inr ⟨_,rfl⟩,fun _=>sh_laid HSH.out HC.out HB1.out HO.out⟩
end Go.Proofs.YtaijfhadecennabGreat.Oct
