/- Part of a proof. -/
import Derived.Test.YtaijfhadecennaaGreatRi
import Derived.Test.YtaijfhadecennaaGreatSe
import Derived.StillTailTactics
import Derived.Deep.AppendLies
import Derived.Deep.RegionLawGrows
import Derived.Laws.EntriesVeiled
open Go.Proofs.Tryz
set_option maxHeartbeats 2000000
namespace Go.Proofs.YtaijfhadecennaaGreat.Oct
open Go.RowKit
theorem rpart_err (a:Option Addr) (cap n:Nat) (w:World) (P:Pg) (E:Int) (C:Calls prog 197 #[.slice a n cap] w fun e w'=>∃g c,e=.returned (.tuple #[pgV P g c,.int .i64 E])/\Own w.heap.size w' (.slice g P.body.length c) P.body/\Below w.heap.size w w') (hE:(E !=0)=true):
  Calls prog 204 #[.slice a n cap] w fun e w'=>e=.returned (.tuple #[.slice none 0 0,.int .i64 0,.int .i64 E])/\Below w.heap.size w w':=by
 dsimp only [pgV] at C;have HC:Hid _:=C;clear C;go_enter func204,ntmps204
 go_wp2_with fail
 refine (Calls.mono HC.out) ?_;rintro e w1 ⟨g,c,rfl,ho,hb⟩;have HB:Hid (Below w.heap.size w w1):=hb;clear hb ho HC;go_wp2;go_ret3
 exact ⟨rfl,HB.out.alloc HB.out.size _⟩
theorem JX (a:Option Addr) (cap n:Nat) (w:World) (P:Pg) (E:Int) (C:Calls prog 197 #[.slice a n cap] w fun e w'=>∃g c,e=.returned (.tuple #[pgV P g c,.int .i64 E])/\Own w.heap.size w' (.slice g P.body.length c) P.body/\Below w.heap.size w w') (hE:E=0) (hlen:P.body.length=248) (hbys:Bys P.body) (X:Int) (hX:nx P=X) (hz:(P.kind !=5)=true\/(P.kind !=5)=false/\((P.level !=0)=true\/(P.level !=0)=false/\(P.count<1\/1<=P.count/\(244<P.count\/P.count<=244/\((X==1)=true\/(X==1)=false/\(4096<=X\/X<4096/\(X !=0)=true/\(P.count !=244)=true)))))):
  Calls prog 204 #[.slice a n cap] w fun e w'=>e=.returned (.tuple #[.slice none 0 0,.int .i64 0,.int .i64 4])/\Below w.heap.size w w':=by
 subst hE;dsimp only [pgV] at C;rw [hlen] at C;have HC:Hid _:=C;clear C;go_enter func204,ntmps204
 go_wp2_with fail
 refine (Calls.mono HC.out) ?_;rintro e w1 ⟨g,c,rfl,ho,hb⟩;have HB:Hid (Below w.heap.size w w1):=hb;have hg:=JQ g c P.body 0 4 (w1.alloc (.cells #[.int .i64 P.kind,.int .i64 P.level,.int .i64 P.count,.slice g 248 c] 171)) ((ho.row' hbys).2.below ((Below.refl _ _).alloc (jB _) _));rw [hlen,show getI P.body 0 4=X from hX] at hg;clear hb ho HC hX;go_wp2_with fail
 refine hg.mono ?_;clear hg;rintro e w2 ⟨rfl,rfl⟩;rcases hz with h1|⟨h1,h2|⟨h2,h3|⟨h3,h4|⟨h4,h5|⟨h5,h6|⟨h6,h7,h8⟩⟩⟩⟩⟩⟩
 all_goals (
  go_wp2;go_ret3
  exact ⟨rfl,HB.out.alloc HB.out.size _⟩)
theorem rpart_got0 (a:Option Addr) (cap n:Nat) (w:World) (P:Pg) (E:Int) (C:Calls prog 197 #[.slice a n cap] w fun e w'=>∃g c,e=.returned (.tuple #[pgV P g c,.int .i64 E])/\Own w.heap.size w' (.slice g P.body.length c) P.body/\Below w.heap.size w w') (hE:E=0) (hlen:P.body.length=248) (hbys:Bys P.body) (X:Int) (hX:nx P=X) (h1:(P.kind !=5)=false) (h2:(P.level !=0)=false) (h5:(X==1)=false) (h6:X<4096) (h7:(X !=0)=false) (k:Nat) (hk:P.count=k) (hk1:1<=k) (hk2:k<=244) (V:Bool) (hV:nouB (P.body.drop (4+k))=V):
  Calls prog 204 #[.slice a n cap] w fun e w'=>∃g c,e=.returned (.tuple #[.slice g (if V then k else 0) c,.int .i64 (if V then X else 0),.int .i64 (if V then 0 else 4)])/\(g=none->c=0)/\Row w' g c (if V then (P.body.drop 4).take k else [])/\Below w.heap.size w w':=by
 subst hE;dsimp only [pgV] at C;rw [hlen,hk] at C;have HC:Hid _:=C;clear C hk;go_enter func204,ntmps204
 go_wp2_with fail
 refine (Calls.mono HC.out) ?_;rintro e w1 ⟨g,c,rfl,ho,hb⟩;have HB:Hid (Below w.heap.size w w1):=hb;have HR:Hid (Row (w1.alloc (.cells #[.int .i64 P.kind,.int .i64 P.level,.int .i64 k,.slice g 248 c] 171)) g c P.body):=(ho.row' hbys).2.below ((Below.refl _ _).alloc (jB _) _);have hg:=JQ g c P.body 0 4 _ HR.out;rw [hlen,show getI P.body 0 4=X from hX] at hg;clear hb ho HC hX;obtain ⟨b,off,hgg⟩:=HR.out.some' (by omega);subst hgg;have hcap:=HR.out.2.1;have hmx:=HR.out.2.2.1;unfold maxLen at hmx;rw [hlen] at hcap;have CN:=XQ _ _ _ 248 (4+k) _ _ HR.out hlen (by omega) V hV;have hk4:((4+k:Nat):Int)=4+(k:Int):=by omega
 rw [hk4] at CN;go_wp2_with fail
 refine hg.mono ?_;clear hg;rintro e w2 ⟨rfl,rfl⟩;cases V
 ·go_wp2_with fail
  refine CN.mono ?_;clear CN;rintro e w3 ⟨rfl,rfl⟩;go_wp2;go_ret3
  exact ⟨none,0,rfl,fun _=>rfl,row0 _,HB.out.alloc HB.out.size _⟩
 ·go_wp2_with fail
  refine CN.mono ?_;clear CN;rintro e w3 ⟨rfl,rfl⟩;go_wp2;go_ret3
  exact ⟨some ⟨b,off+4,none⟩,c-4,rfl,(fun h=>by cases h),(HR.out.drop' 4 (by omega)).take' k (c-4) (by rw [qC];omega) (by omega) (jB _),HB.out.alloc HB.out.size _⟩
theorem rpart_got1 (a:Option Addr) (cap n:Nat) (w:World) (P:Pg) (E:Int) (C:Calls prog 197 #[.slice a n cap] w fun e w'=>∃g c,e=.returned (.tuple #[pgV P g c,.int .i64 E])/\Own w.heap.size w' (.slice g P.body.length c) P.body/\Below w.heap.size w w') (hE:E=0) (hlen:P.body.length=248) (hbys:Bys P.body) (X:Int) (hX:nx P=X) (h1:(P.kind !=5)=false) (h2:(P.level !=0)=false) (h5:(X==1)=false) (h6:X<4096) (h7:(X !=0)=true) (hk:P.count=244) (V:Bool) (hV:nouB (P.body.drop (248))=V):
  Calls prog 204 #[.slice a n cap] w fun e w'=>∃g c,e=.returned (.tuple #[.slice g (if V then 244 else 0) c,.int .i64 (if V then X else 0),.int .i64 (if V then 0 else 4)])/\(g=none->c=0)/\Row w' g c (if V then (P.body.drop 4).take 244 else [])/\Below w.heap.size w w':=by
 subst hE;dsimp only [pgV] at C;rw [hlen,hk] at C;have HC:Hid _:=C;clear C hk;go_enter func204,ntmps204
 go_wp2_with fail
 refine (Calls.mono HC.out) ?_;rintro e w1 ⟨g,c,rfl,ho,hb⟩;have HB:Hid (Below w.heap.size w w1):=hb;have HR:Hid (Row (w1.alloc (.cells #[.int .i64 P.kind,.int .i64 P.level,.int .i64 244,.slice g 248 c] 171)) g c P.body):=(ho.row' hbys).2.below ((Below.refl _ _).alloc (jB _) _);have hg:=JQ g c P.body 0 4 _ HR.out;rw [hlen,show getI P.body 0 4=X from hX] at hg;clear hb ho HC hX;obtain ⟨b,off,hgg⟩:=HR.out.some' (by omega);subst hgg;have hcap:=HR.out.2.1;have hmx:=HR.out.2.2.1;unfold maxLen at hmx;rw [hlen] at hcap;have CN:=XQ _ _ _ 248 248 _ _ HR.out hlen (by omega) V hV;rw [show ((248:Nat):Int)=248 from rfl] at CN;go_wp2_with fail
 refine hg.mono ?_;clear hg;rintro e w2 ⟨rfl,rfl⟩;cases V
 ·go_wp2_with fail
  refine CN.mono ?_;clear CN;rintro e w3 ⟨rfl,rfl⟩;go_wp2;go_ret3
  exact ⟨none,0,rfl,fun _=>rfl,row0 _,HB.out.alloc HB.out.size _⟩
 ·go_wp2_with fail
  refine CN.mono ?_;clear CN;rintro e w3 ⟨rfl,rfl⟩;go_wp2;go_ret3
  exact ⟨some ⟨b,off+4,none⟩,c-4,rfl,(fun h=>by cases h),(HR.out.drop' 4 (by omega)).take' 244 (c-4) (by rw [qC];omega) (by omega) (jB _),HB.out.alloc HB.out.size _⟩
theorem UR {P:Pg} (h1:P.kind=5) (h2:P.level=0) (h3:1<=P.count) (h4:P.count<=244) (h5:nx P≠1) (h6:nx P<4096) (h7:nx P≠0->P.count=244):ptB P=nouB (P.body.drop (4+P.count.toNat)):=by
 unfold ptB;rw [jE h1,jE h2,jE (And.intro h3 h4),jE (And.intro h5 (And.intro h6 h7))];rfl
theorem XS {P:Pg} (h:¬(P.kind=5/\P.level=0/\(1<=P.count/\P.count<=244)/\(nx P≠1/\nx P<4096/\(nx P≠0->P.count=244)))):ptB P=false:=by
 cases hB:ptB P
 ·rfl
 ·refine absurd ?_ h;unfold ptB at hB;simp only [jO,jR] at hB;exact ⟨hB.1,hB.2.1,hB.2.2.1,hB.2.2.2.1⟩
theorem rPart_v (a:Option Addr) (cap n:Nat) (zs:List Int) (w:World) (h:Row w a cap zs) (hn:zs.length=n) (E:Int) (hE:ptE zs=E) (L:List Int) (hL:ptL zs=L) (m:Nat) (hm:L.length=m) (Y:Int) (hY:ptN zs=Y):
  Calls prog 204 #[.slice a n cap] w fun e w'=>∃g c,e=.returned (.tuple #[.slice g m c,.int .i64 Y,.int .i64 E])/\(g=none->c=0)/\Row w' g c L/\Below w.heap.size w w':=by
 subst hE hL hm hY;have C:=ropen_v a cap n zs w h hn _ rfl _ rfl
 have bad:ptB (opP zs)=false->opE zs=0->Calls prog 204 #[.slice a n cap] w (fun e w'=>e=.returned (.tuple #[.slice none 0 0,.int .i64 0,.int .i64 4])/\Below w.heap.size w w')->Calls prog 204 #[.slice a n cap] w fun e w'=>∃g c,e=.returned (.tuple #[.slice g (ptL zs).length c,.int .i64 (ptN zs),.int .i64 (ptE zs)])/\(g=none->c=0)/\Row w' g c (ptL zs)/\Below w.heap.size w w':=fun hb ho hc=>by
  obtain ⟨e1,e2,e3⟩:=vN ho hb;rw [e1,e2,e3];refine hc.mono ?_;rintro e w' ⟨rfl,hb⟩;exact ⟨none,0,rfl,fun _=>rfl,row0 _,hb⟩
 by_cases ho:opE zs=0;rotate_left
 ·obtain ⟨e1,e2,e3⟩:=gP ho;rw [e1,e2,e3];refine (rpart_err a cap n w _ _ C (by simpa using ho)).mono ?_;rintro e w' ⟨rfl,hb⟩;exact ⟨none,0,rfl,fun _=>rfl,row0 _,hb⟩
 obtain ⟨_,_,hbys,hlen⟩:=JW h.1 ho;by_cases h1:(opP zs).kind=5;rotate_left
 ·exact bad (XS fun hh=>h1 hh.1) ho (JX a cap n w _ _ C ho hlen hbys _ rfl (.inl (by simpa using h1)))
 have b1:((opP zs).kind !=5)=false:=by simpa using h1
 by_cases h2:(opP zs).level=0;rotate_left
 ·exact bad (XS fun hh=>h2 hh.2.1) ho (JX a cap n w _ _ C ho hlen hbys _ rfl (.inr ⟨b1,.inl (by simpa using h2)⟩))
 have b2:((opP zs).level !=0)=false:=by simpa using h2
 by_cases h3:1<=(opP zs).count;rotate_left
 ·exact bad (XS fun hh=>h3 hh.2.2.1.1) ho (JX a cap n w _ _ C ho hlen hbys _ rfl (.inr ⟨b1,.inr ⟨b2,.inl (by omega)⟩⟩))
 by_cases h4:(opP zs).count<=244;rotate_left
 ·exact bad (XS fun hh=>h4 hh.2.2.1.2) ho (JX a cap n w _ _ C ho hlen hbys _ rfl (.inr ⟨b1,.inr ⟨b2,.inr ⟨h3,.inl (by omega)⟩⟩⟩))
 by_cases h5:nx (opP zs)=1
 ·exact bad (XS fun hh=>hh.2.2.2.1 h5) ho (JX a cap n w _ _ C ho hlen hbys _ rfl (.inr ⟨b1,.inr ⟨b2,.inr ⟨h3,.inr ⟨h4,.inl (by simpa using h5)⟩⟩⟩⟩))
 have b5:(nx (opP zs)==1)=false:=by simpa using h5
 by_cases h6:nx (opP zs)<4096;rotate_left
 ·exact bad (XS fun hh=>h6 hh.2.2.2.2.1) ho (JX a cap n w _ _ C ho hlen hbys _ rfl (.inr ⟨b1,.inr ⟨b2,.inr ⟨h3,.inr ⟨h4,.inr ⟨b5,.inl (by omega)⟩⟩⟩⟩⟩))
 obtain ⟨k,hk⟩:=jW (show 0<=(opP zs).count by omega)
 have fin:∀V:Bool,nouB ((opP zs).body.drop (4+k))=V->(nx (opP zs)≠0->(opP zs).count=244)->ptE zs=(if V then 0 else 4)/\ptL zs=(if V then ((opP zs).body.drop 4).take k else [])/\ptN zs=(if V then nx (opP zs) else 0):=fun V hV h7=>by
  have hp:ptB (opP zs)=V:=by rw [UR h1 h2 h3 h4 h5 h6 h7,hk,jS];exact hV
  cases V
  ·exact vN ho hp
  ·have e:ptE zs=0:=by unfold ptE;rw [if_pos ho,hp];rfl
   unfold ptL ptN;rw [e,hk];exact ⟨rfl,rfl,rfl⟩
 by_cases h7:nx (opP zs)=0
 ·obtain ⟨V,hV⟩:∃V,nouB ((opP zs).body.drop (4+k))=V:=⟨_,rfl⟩;obtain ⟨e1,e2,e3⟩:=fin V hV (fun hh=>absurd h7 hh);have hg:=rpart_got0 a cap n w _ _ C ho hlen hbys _ rfl b1 b2 b5 h6 (by simpa using h7) k hk (by omega) (by omega) V hV;rw [e1,e2,e3]
  have hl:(if V=true then ((opP zs).body.drop 4).take k else []).length=if V=true then k else 0:=by
   cases V
   ·rfl
   ·show (((opP zs).body.drop 4).take k).length=k;rw [qG,qC,hlen];omega
  rw [hl];exact hg
 ·have b7:(nx (opP zs) !=0)=true:=by simpa using h7
  by_cases h8:(opP zs).count=244;rotate_left
  ·exact bad (XS fun hh=>h8 (hh.2.2.2.2.2 h7)) ho (JX a cap n w _ _ C ho hlen hbys _ rfl (.inr ⟨b1,.inr ⟨b2,.inr ⟨h3,.inr ⟨h4,.inr ⟨b5,.inr ⟨h6,b7,by simpa using h8⟩⟩⟩⟩⟩⟩))
  have hk244:k=244:=by omega
  subst hk244;obtain ⟨V,hV⟩:∃V,nouB ((opP zs).body.drop 248)=V:=⟨_,rfl⟩;obtain ⟨e1,e2,e3⟩:=fin V hV (fun _=>h8);have hg:=rpart_got1 a cap n w _ _ C ho hlen hbys _ rfl b1 b2 b5 h6 b7 h8 V hV;rw [e1,e2,e3]
  have hl:(if V=true then ((opP zs).body.drop 4).take 244 else []).length=if V=true then 244 else 0:=by
   cases V
   ·rfl
   ·show (((opP zs).body.drop 4).take 244).length=244;rw [qG,qC,hlen];omega
  rw [hl];exact hg
theorem zE (w:World) (o:Obj):(w.alloc o).heap.size=w.heap.size+1:=by
 show (w.heap.push o).size=_;simp
def wcs (ia:Option Addr) (il ic gk kl ck:Nat) (q:Nat->Value) (aP:Option Addr) (nP cP:Nat) (aT:Option Addr) (nT cT:Nat) (bad:Bool):Array Value:=
 #[.slice ia il ic,.slice (some ⟨gk,0,none⟩) kl ck,q 0,q 1,q 2,q 3,q 4,q 5,q 6,q 7,q 8,.slice aP nP cP,.slice aT nT cT,q 9,q 10,q 11,.bool bad]
def obl (a:Option Addr) (k:Nat):Prop:=∃x,a=some x/\x.block=k
structure RW (w:World) (p:Nat) (F:Nat->Prop) (ia:Option Addr) (ic:Nat) (L:List Int) (gk ck:Nat) (aP aT:Option Addr) (cP cT:Nat) (q:Nat->Value) (W:Wk):Prop where
 lt:∀k,F k->k<w.heap.size
 fp:F p
 fk:F gk
 fP:∀k,obl aP k->F k
 fT:∀k,obl aT k->F k
 cells:w.heap[p]?=some (.cells (wcs ia L.length ic gk W.kd.length ck q aP W.pc.length cP aT W.tx.length cT W.bad) 188 (0,0))
 kd:Own 0 w (.slice (some ⟨gk,0,none⟩) W.kd.length ck) W.kd
 pc:OwnC 195 0 w (.slice aP W.pc.length cP) W.pc
 tx:Own 0 w (.slice aT W.tx.length cT) W.tx
 kb:Bys W.kd
 tb:Bys W.tx
 img:Row w ia ic L
 inF:∀k,obl ia k->¬F k
 il:L.length=256*W.kd.length
 kl:W.kd.length<=4096
 pk:¬p=gk
 pP:¬obl aP p
 pT:¬obl aT p
 kP:¬obl aP gk
 kT:¬obl aT gk
 PT:∀k,obl aP k->¬obl aT k
theorem zC {a:Option Addr} {n c k:Nat} (h:(Value.slice a n c).ownBlock=some k):obl a k:=by
 match a,h with
 |some x,h=>exact ⟨x,rfl,by simpa [Value.ownBlock] using h⟩
section
variable {w w':World} {p gk ck cP cT ic:Nat} {F:Nat->Prop} {ia aP aT:Option Addr} {L:List Int} {q:Nat->Value} {W:Wk}
theorem Own.keepO {base n c:Nat} {a:Option Addr} {zs:List Int} (h:Own base w (.slice a n c) zs) (k:∀g,obl a g->w'.heap[g]?=w.heap[g]?):Own base w' (.slice a n c) zs:=yQ h (fun g hg=>k g (zC hg))
theorem OwnC.keepO {ty base n c:Nat} {a:Option Addr} {l:List C4} (h:OwnC ty base w (.slice a n c) l) (k:∀g,obl a g->w'.heap[g]?=w.heap[g]?):OwnC ty base w' (.slice a n c) l:=yQ h (fun g hg=>k g (zC hg))
theorem Row.keepO {a:Option Addr} {c:Nat} {zs:List Int} (h:Row w a c zs) (k:∀g,obl a g->w'.heap[g]?=w.heap[g]?):Row w' a c zs:=by
 obtain ⟨h1,h2,h3,h4⟩:=h;refine ⟨h1,h2,h3,?_⟩;rcases h4 with h4|⟨b,off,ha,hc⟩
 ·exact .inl h4
 ·exact .inr ⟨b,off,ha,fun i hi=>(World.cell?_of_block (w:=w) (a:=⟨b,off+i,none⟩) (k b ⟨_,ha,rfl⟩)).trans (hc i hi)⟩
theorem RW.keep (h:RW w p F ia ic L gk ck aP aT cP cT q W) (hs:w.heap.size<=w'.heap.size) (k:∀g,F g->w'.heap[g]?=w.heap[g]?) (hi:∀g,obl ia g->w'.heap[g]?=w.heap[g]?):RW w' p F ia ic L gk ck aP aT cP cT q W:=
 {h with lt:=fun g hg=>qA (h.lt g hg) hs,cells:=(k p h.fp).trans h.cells,kd:=h.kd.kept (k gk h.fk),pc:=h.pc.keepO (fun g hg=>k g (h.fP g hg)),tx:=h.tx.keepO (fun g hg=>k g (h.fT g hg)),img:=h.img.keepO hi}
theorem RW.ilt (h:RW w p F ia ic L gk ck aP aT cP cT q W) (hn:0<W.kd.length):∀k,obl ia k->k<w.heap.size:=by
 rintro k ⟨x,rfl,rfl⟩;obtain ⟨b,off,e⟩:=h.img.some' (by have:=h.il;omega);cases e;exact block_lt_of_cell (h.img.cells 0 (by have:=h.il;omega))
theorem RW.below (h:RW w p F ia ic L gk ck aP aT cP cT q W) (hn:0<W.kd.length) (hb:Below w.heap.size w w'):RW w' p F ia ic L gk ck aP aT cP cT q W:=
 h.keep hb.size (fun g hg=>hb.block g (h.lt g hg)) (fun g hg=>hb.block g (h.ilt hn g hg))
theorem RW.at (h:RW w p F ia ic L gk ck aP aT cP cT q W):w.cell? ⟨p,0,none⟩=some (.slice ia L.length ic)/\w.cell? ⟨p,1,none⟩=some (.slice (some ⟨gk,0,none⟩) W.kd.length ck)/\w.cell? ⟨p,11,none⟩=some (.slice aP W.pc.length cP)/\w.cell? ⟨p,12,none⟩=some (.slice aT W.tx.length cT)/\w.cell? ⟨p,16,none⟩=some (.bool W.bad):=by
 refine ⟨?_,?_,?_,?_,?_⟩<;>rw [cell_of_row w p _ _ _ (0,0) h.cells]<;>rfl
theorem RW.frz (h:RW w p F ia ic L gk ck aP aT cP cT q W) (i:Nat):w.frozen? ⟨p,i,none⟩=false:=by
 unfold World.frozen?;rw [h.cells];simp
theorem RW.setBad (h:RW w p F ia ic L gk ck aP aT cP cT q W) (x:Bool):RW (w.setCell ⟨p,16,none⟩ (.bool x)) p F ia ic L gk ck aP aT cP cT q {W with bad:=x}:=by
 have k:∀g,¬g=p->(w.setCell ⟨p,16,none⟩ (.bool x)).heap[g]?=w.heap[g]?:=fun g hg=>Below.heap_setCell w ⟨p,16,none⟩ _ g hg
 exact {h with
  lt:=fun g hg=>by rw [yP];exact h.lt g hg
  cells:=by rw [yO _ _ _ _ _ _ _ h.cells];rfl
  kd:=h.kd.kept (k gk (fun e=>h.pk e.symm))
  pc:=h.pc.keepO (fun g hg=>k g (fun e=>h.pP (e▸hg)))
  tx:=h.tx.keepO (fun g hg=>k g (fun e=>h.pT (e▸hg)))
  img:=h.img.keepO (fun g hg=>k g (fun e=>h.inF g hg (e▸h.fp)))}
theorem RW.setKd (h:RW w p F ia ic L gk ck aP aT cP cT q W) {n:Nat} (hn:n<W.kd.length) {y:Int} (hy:0<=y/\y<=255):RW (w.setCell ⟨gk,n,none⟩ (.int .u8 y)) p F ia ic L gk ck aP aT cP cT q {W with kd:=W.kd.set n y}:=by
 have k:∀g,¬g=gk->(w.setCell ⟨gk,n,none⟩ (.int .u8 y)).heap[g]?=w.heap[g]?:=fun g hg=>Below.heap_setCell w ⟨gk,n,none⟩ _ g hg
 obtain ⟨-,-,-,hst⟩:=JL h.kd n hn
 exact {h with
  lt:=fun g hg=>by rw [yP];exact h.lt g hg
  cells:=by rw [k p h.pk,h.cells,jY]
  kd:=by rw [jY];exact hst y
  pc:=h.pc.keepO (fun g hg=>k g (fun e=>h.kP (e▸hg)))
  tx:=h.tx.keepO (fun g hg=>k g (fun e=>h.kT (e▸hg)))
  kb:=fun z hz=>by
   rcases List.mem_or_eq_of_mem_set hz with hz|rfl
   ·exact h.kb z hz
   ·exact hy
  img:=h.img.keepO (fun g hg=>k g (fun e=>h.inF g hg (e▸h.fk)))
  il:=by rw [jY];exact h.il
  kl:=by rw [jY];exact h.kl}
theorem RW.page (h:RW w p F ia ic L gk ck aP aT cP cT q W) {n:Nat} (hn:n<W.kd.length):∃b off,ia=some ⟨b,off,none⟩/\Row w (some ⟨b,off+n*256,none⟩) (ic-n*256) (pageOf L n)/\(pageOf L n).length=256/\n*256+256<=L.length/\L.length<=ic/\ic<=9223372036854775807:=by
 have il:=h.il;obtain ⟨b,off,rfl⟩:=h.img.some' (by omega);have h2:=h.img.2.1;have h3:=h.img.2.2.1;refine ⟨b,off,rfl,?_,by unfold pageOf;simp;omega,by omega,h2,by unfold maxLen at h3;omega⟩;refine ⟨fun z hz=>h.img.1 z (jV (jU hz)),by unfold pageOf;simp;omega,by omega,.inr ⟨b,off+n*256,rfl,fun i hi=>?_⟩⟩;have hi':i<256:=by unfold pageOf at hi;simp at hi;omega
 have e:=h.img.cells (n*256+i) (by omega);rw [show off+n*256+i=off+(n*256+i) by omega,e];unfold pageOf;rw [jA,jA,xZ,if_pos hi',qO]
set_option maxRecDepth 20000 in
theorem page_no (h:RW w p F ia ic L gk ck aP aT cP cT q W) (n kd:Int) (hn: -9223372036854775808<=n/\n<=9223372036854775807) (hk:kdB W n kd=false):
  Calls prog 201 #[.pointer (some ⟨p,0,none⟩),.int .i64 n,.int .u8 kd] w fun e w'=>e=.returned (.slice none 0 0)/\RW w' p F ia ic L gk ck aP aT cP cT q {W with bad:=true}/\Ch w.heap.size F w w':=by
 obtain ⟨-,c1,-,-,c16⟩:=h.at;have z16:=h.frz 16;have hkl:=h.kl;have HX:Hid (RW w p F ia ic L gk ck aP aT cP cT q W):=h;by_cases h2:n<2
 ·clear h hk;go_enter func201,ntmps201
  go_wp2;go_ret
  exact ⟨rfl,HX.out.setBad true,Ch.set HX.out.fp _ _⟩
 ·by_cases h3:(W.kd.length:Int)<=n
  ·clear h hk;go_enter func201,ntmps201
   go_wp2;go_ret
   exact ⟨rfl,HX.out.setBad true,Ch.set HX.out.fp _ _⟩
  ·obtain ⟨m,rfl⟩:=jW (show 0<=n by omega);have hm:m<W.kd.length:=by omega
   obtain ⟨-,b1,b2,-⟩:=JL h.kd m hm;obtain ⟨-,-,k1,k2,-⟩:=h.kd.cur;unfold maxLen at k2;obtain ⟨y,hy⟩:∃y,W.kd.getD m 0=y:=⟨_,rfl⟩;rw [hy] at b1;unfold kdB at hk;rw [jS,hy,jE (show (2:Int)<=m by omega),jE (show (m:Int)<W.kd.length by omega),xP,xP,Bool.or_eq_false_iff] at hk;obtain ⟨y0,y1⟩:=hk;have HY:Hid ((y==0)=false):=y0;have hyn:(y==0)=false:=y0;have hyn2:(y !=0)=true:=by simpa using y0
   by_cases e1:kd=120
   ·subst e1;have y2:(y==120)=false:=by simpa using y1
    have y3:(y !=120)=true:=by simpa using y1
    clear h y0 y1 hy;go_enter func201,ntmps201
    go_wp2;go_ret
    exact ⟨rfl,HX.out.setBad true,Ch.set HX.out.fp _ _⟩
   ·have e1':(kd==120)=false:=by simpa using e1
    have e2':(kd !=120)=true:=by simpa using e1
    clear h y0 y1 hy e1;go_enter func201,ntmps201
    go_wp2;go_ret
    exact ⟨rfl,HX.out.setBad true,Ch.set HX.out.fp _ _⟩
set_option maxRecDepth 20000 in
theorem page_yes (h:RW w p F ia ic L gk ck aP aT cP cT q W) (n kd:Int) (hkd:0<=kd/\kd<=255) (hk:kdB W n kd=true):
  Calls prog 201 #[.pointer (some ⟨p,0,none⟩),.int .i64 n,.int .u8 kd] w fun e w'=>(∃a' c',e=.returned (.slice (some a') 256 c')/\Row w' (some a') c' (pageOf L n.toNat)/\(pageOf L n.toNat).length=256/\obl ia a'.block)/\RW w' p F ia ic L gk ck aP aT cP cT q {W with kd:=W.kd.set n.toNat kd}/\Ch w.heap.size F w w':=by
 obtain ⟨i1,i2⟩:=GE hk;obtain ⟨m,rfl⟩:=jW (show 0<=n by omega);have hm:m<W.kd.length:=by omega
 have HX:Hid (RW w p F ia ic L gk ck aP aT cP cT q W):=h;obtain ⟨b,off,rfl,hrow,hpl,l1,l2,l3⟩:=h.page hm;obtain ⟨c0,c1,-,-,-⟩:=h.at;have hkl:=h.kl;obtain ⟨-,b1,b2,-⟩:=JL h.kd m hm;obtain ⟨-,-,k1,k2,-⟩:=h.kd.cur;unfold maxLen at k2;have hpk:=h.pk
 have hy1:W.kd.getD m 0=0\/(kd=120/\W.kd.getD m 0=120):=by
  unfold kdB at hk;rw [jS] at hk;simp only [jO,Bool.or_eq_true,yF] at hk;exact hk.2.2
 rw [jS]
 have HE:Hid (∀w',w'=w.setCell ⟨gk,m,none⟩ (.int .u8 kd)->(∃a' c',Ending.returned (.slice (some ⟨b,off+m*256,none⟩) 256 (ic-m*256))=.returned (.slice (some a') 256 c')/\Row w' (some a') c' (pageOf L m)/\(pageOf L m).length=256/\obl (some ⟨b,off,none⟩) a'.block)/\RW w' p F (some ⟨b,off,none⟩) ic L gk ck aP aT cP cT q {W with kd:=W.kd.set m kd}/\Ch w.heap.size F w w'):=by
  rintro w' rfl;have hb:¬b=gk:=fun e=>HX.out.inF b ⟨_,rfl,rfl⟩ (e▸HX.out.fk)
  exact ⟨⟨_,_,rfl,hrow.keepO (fun g hg=>by obtain ⟨x,hx,rfl⟩:=hg;cases hx;exact Below.heap_setCell w ⟨gk,m,none⟩ _ b hb),hpl,⟨_,rfl,rfl⟩⟩,HX.out.setKd hm hkd,Ch.set HX.out.fk _ _⟩
 obtain ⟨y,hy⟩:∃y,W.kd.getD m 0=y:=⟨_,rfl⟩;rw [hy] at b1 hy1;obtain ⟨il,hil⟩:∃il,L.length=il:=⟨_,rfl⟩;rw [hil] at c0 l1 l2;obtain ⟨s,hs⟩:∃s,m*256=s:=⟨_,rfl⟩;obtain ⟨u,hu⟩:∃u,m*256+256=u:=⟨_,rfl⟩;have m1:((m:Int)*256)=(s:Int):=by omega
 have m2:(((m:Int)+1)*256)=(u:Int):=by omega
 have m3:u-s=256:=by omega
 have m4:s<=u:=by omega
 have m5:u<=ic:=by omega
 have m6:((u:Int)-(s:Int))=256:=by omega
 have hu1:u<=1048576:=by omega
 rw [hs] at HE;clear h hrow hpl hk hy hil hs hu;rcases hy1 with rfl|⟨rfl,rfl⟩
 ·go_enter func201,ntmps201
  go_wp2;go_ret
  exact HE.out _ rfl
 ·go_enter func201,ntmps201
  go_wp2;go_ret
  exact HE.out _ rfl
end
theorem seg_len {t:List Int} {p:C4} (h0:0<=p.b) (h1:0<=p.c) (h:p.b+p.c<=(t.length:Int)):(seg t p).length=p.c.toNat:=by unfold seg;simp;omega
end Go.Proofs.YtaijfhadecennaaGreat.Oct
