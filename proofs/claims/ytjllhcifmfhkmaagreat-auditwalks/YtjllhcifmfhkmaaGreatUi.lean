/- Part of a proof. -/
import Derived.Test.YtjllhcifmfhkmaaGreatUb
import Derived.Test.YtjllhcifmfhkmaaGreatYa
import Derived.Test.YtjllhcifmfhkmaaGreatKa
set_option maxHeartbeats 2000000
namespace Go.Proofs.YtjllhcifmfhkmaaGreat.Oct
open Go.RowKit
theorem noughts_v (b off cap n:Nat) (zs:List Int) (w:World) (h:Row w (some ⟨b,off,none⟩) cap zs) (hn:zs.length=n) (V:Bool) (hV:nouB zs=V):
  Calls Tryz.prog 104 #[.slice (some ⟨b,off,none⟩) n cap] w fun e w'=>e=.returned (.bool V)∧w=w':=by
 subst hn;have hm:=Nat.le_trans h.2.1 h.2.2.1;unfold maxLen at hm;have HCE:Hid (∀i,i<zs.length→w.cell? ⟨b,off+i,none⟩=some (.int .u8 (zs.getD i 0))):=h.cells;have HBY:Hid (Bys zs):=h.1;have HV:Hid (nouB zs=V):=hV;clear hV h;go_enter Tryz.func104,Tryz.ntmps104
 go_wp2_with fail
 go_loop [7] (fun i=>∃k:Nat,k≤zs.length∧i=.int .i64 k∧Hid (∀j,j<k→zs.getD j 0=0)) (fun i=>zs.length-(intOf i).toNat)
 case atStart=>exact ⟨0,Nat.zero_le _,rfl,fun j hj=>by omega⟩
 case round=>
  obtain ⟨k,hk,rfl,HK⟩:=hrel;by_cases hlt:k<zs.length
  ·have hc:=HCE.out k hlt;obtain ⟨x,hx⟩:∃x,zs.getD k 0=x:=⟨_,rfl⟩;rw [hx] at hc;by_cases h0:x=0
   ·subst h0;have HX:Hid (zs.getD k 0=0):=hx;clear hx;go_wp2;go_round
    case rel=>exact ⟨k+1,by omega,by go_num,fun j hj=>by
     by_cases e:j=k
     ·rw [e];exact HX.out
     ·exact HK.out j (by omega)⟩
    case measure=>simp [intOf];omega
   ·have e:V=false:=by rw [←HV.out];exact nouB_no hlt (by rw [hx];exact h0)
    have h0b:(x !=0)=true:=by simpa using h0
    subst e;clear hx h0;go_wp2;go_ret
    exact ⟨rfl,rfl⟩
  ·have e:V=true:=by rw [←HV.out];exact nouB_iff.2 fun j hj=>HK.out j (by omega)
   subst e;go_wp2;go_ret
   exact ⟨rfl,rfl⟩
def mixS (T:Sp) (k:Nat):Sp:=⟨if 0<k then T.g else 0,if 1<k then T.p else 0,if 2<k then T.r else 0,if 3<k then T.h else 0,if 4<k then T.b else 0,if 5<k then T.l else 0,if 6<k then T.s else 0,if 7<k then T.f else 0⟩
theorem sd_at (zs:List Int) {k:Nat} (hk:k<8):atS (sdL zs) k=getI zs (ofS k:Nat) (wdS k:Nat):=by
 rcases eight hk with rfl|rfl|rfl|rfl|rfl|rfl|rfl|rfl<;>rfl
def Sw8 (w:World) (B:Nat) (S:Sp):Prop:=Sl8 w B S∧∀k,k<8→w.frozen? ⟨B,k,none⟩=false
theorem Sw8.same {w w1:World} {B:Nat} {S:Sp} (h:Sw8 w B S) (k:w1.heap[B]?=w.heap[B]?):Sw8 w1 B S:=
 ⟨h.1.same k,fun i hi=>(World.frozen?_of_block k).trans (h.2 i hi)⟩
theorem sw8_new (w:World) (S:Sp) (t:TypeId):Sw8 (w.alloc (.cells #[.int .i64 S.g,.int .i64 S.p,.int .i64 S.r,.int .i64 S.h,.int .i64 S.b,.int .i64 S.l,.int .i64 S.s,.int .i64 S.f] t)) w.heap.size S:=
 ⟨sl8_new w S t,fun k hk=>by rcases eight hk with rfl|rfl|rfl|rfl|rfl|rfl|rfl|rfl<;>simp⟩
theorem Sw8.put {w:World} {B:Nat} {T:Sp} {k:Nat} (h:Sw8 w B (mixS T k)) (hk:k<8):Sw8 (w.setCell ⟨B,k,none⟩ (.int .i64 (atS T k))) B (mixS T (k+1)):=by
 have hc:=h.1.at hk;refine ⟨?_,fun i hi=>by rw [World.frozen?_setCell];exact h.2 i hi⟩
 have key:∀j,j<8→(w.setCell ⟨B,k,none⟩ (.int .i64 (atS T k))).cell? ⟨B,j,none⟩=some (.int .i64 (atS (mixS T (k+1)) j)):=by
  intro j hj;by_cases e:j=k
  ·subst e;rw [World.cell?_setCell_same _ _ _ hc];rcases eight hj with rfl|rfl|rfl|rfl|rfl|rfl|rfl|rfl<;>rfl
  ·rw [World.cell?_setCell_other _ _ _ _ (by intro e';simp only [Addr.mk.injEq] at e';omega),h.1.at hj]
   have:atS (mixS T k) j=atS (mixS T (k+1)) j:=by
    have st:∀(x:Int) (i:Nat),¬i=k→(if i<k then x else 0)=(if i<k+1 then x else 0):=fun x i hi=>by
     by_cases h1:i<k
     ·rw [if_pos h1,if_pos (by omega)]
     ·rw [if_neg h1,if_neg (by omega)]
    rcases eight hj with rfl|rfl|rfl|rfl|rfl|rfl|rfl|rfl
    all_goals exact st _ _ e
   rw [this]
 exact ⟨key 0 (by omega),key 1 (by omega),key 2 (by omega),key 3 (by omega),key 4 (by omega),key 5 (by omega),key 6 (by omega),key 7 (by omega)⟩
structure Rdg (w wr:World) (zs:List Int) (B F k:Nat):Prop where
 yes:∀j,j<k→getB zs (ofS j:Nat) (wdS j:Nat)=true
 sw:Sw8 wr B (mixS (sdL zs) k)
 fd:Fds wr F B
 bel:Below B w wr
 ne:B<F
def rdB (zs:List Int):Bool:=getB zs 0 8&&nouB (zs.drop 34)
theorem sread_any (B b off cap:Nat) (zs:List Int) (w:World) (h:Sw8 w B sp0) (hr:Row w (some ⟨b,off,none⟩) cap zs) (hl:zs.length=248) (hbB:b<B):
  Calls Tryz.prog 78 #[.pointer (some ⟨B,0,none⟩),.slice (some ⟨b,off,none⟩) 248 cap] w fun e w'=>e=.returned (.bool (rdB zs))∧(rdB zs=true→Sw8 w' B (sdL zs))∧Below B w w':=by
 have HR:Hid (Row w (some ⟨b,off,none⟩) cap zs):=hr;have HW:Hid (Sw8 w B sp0):=h;have HLT:Hid (B<w.heap.size):=h.1.lt;have HL:Hid (zs.length=248):=hl;have HBB:Hid (b<B):=hbB;have hcap:=hr.2.1;have hmx:=hr.2.2.1;unfold maxLen at hmx;rw [hl] at hcap
 have HN:Hid (∀k,k<8→getB zs (ofS k:Nat) (wdS k:Nat)=false→rdB zs=false):=fun k hk hf=>by
  rcases eight hk with rfl|rfl|rfl|rfl|rfl|rfl|rfl|rfl
  ·show (getB zs 0 8&&nouB (zs.drop 34))=false;rw [show getB zs 0 8=false from hf];rfl
  all_goals
   rw [getB_yes hr.1 (by decide) (by decide) (by rw [hl];decide)] at hf;cases hf
 have HY:Hid ((∀k,k<8→getB zs (ofS k:Nat) (wdS k:Nat)=true)→rdB zs=nouB (zs.drop 34)):=fun hh=>by
  show (getB zs 0 8&&nouB (zs.drop 34))=_;rw [show getB zs 0 8=true from hh 0 (by omega)];rfl
 obtain ⟨V,hV⟩:∃V,rdB zs=V:=⟨_,rfl⟩;rw [hV] at HN HY ⊢;clear h hr hl hbB hV;go_enter Tryz.func78,Tryz.ntmps78
 go_wp2_with fail
 refine (fields_any _ _).mono ?_;rintro e w2 ⟨rfl,hfd,hb,-⟩;have HC:Hid (Rdg w w2 zs B w.heap.size 0):=⟨fun j hj=>by omega,HW.out.same (hb.block B HLT.out),hfd,hb.mono (Nat.le_of_lt HLT.out),HLT.out⟩;clear hb hfd;obtain ⟨F,hF⟩:∃F,w.heap.size=F:=⟨_,rfl⟩;rw [hF] at HC HLT ⊢;clear hF HW;go_wp2_with fail
 go_loopw [5,13] (fun a i wr=>∃k:Nat,k≤8∧a=.int .i64 (ofS k:Nat)∧i=.int .i64 k∧Rdg w wr zs B F k) (fun _ i _=>8-(intOf i).toNat)
 case atStart=>exact ⟨0,Nat.zero_le _,rfl,rfl,HC.out⟩
 case round=>
  obtain ⟨k,hk,rfl,rfl,hrd⟩:=hrel;clear HC;by_cases hlt:k<8
  ·obtain ⟨c0,c1,c2⟩:=hrd.fd k hlt;have hc3:=hrd.sw.1.at hlt;have hz3:=hrd.sw.2 k hlt;have hB:B<wr.heap.size:=hrd.sw.1.lt;obtain ⟨fk,hfk⟩:∃fk,ff k=fk:=⟨_,rfl⟩;rw [hfk] at c2
   have CG:Hid (∀o:Obj,Calls Tryz.prog 103 #[.slice (some ⟨b,off,none⟩) 248 cap,.int .i64 (ofS k:Nat),.int .i64 (wdS k:Nat)] (wr.alloc o) fun e w'=>e=.returned (.tuple #[.int .i64 (atS (sdL zs) k),.bool (getB zs (ofS k:Nat) (wdS k:Nat))])∧Below (wr.alloc o).heap.size (wr.alloc o) w'):=fun o=>by
    have:=get_any _ _ _ (ofS k:Nat) (wdS k:Nat) _ ((HR.out.low HBB.out hrd.bel).below ((Below.refl _ _).alloc (Nat.le_refl _) o));rw [HL.out,←sd_at zs hlt] at this;exact this
   have HX:Hid (∀(w3:World) (o:Obj),Below (wr.alloc o).heap.size (wr.alloc o) w3→getB zs (ofS k:Nat) (wdS k:Nat)=true→Rdg w (w3.setCell ⟨B,k,none⟩ (.int .i64 (atS (sdL zs) k))) zs B F (k+1)):=fun w3 o hb3 hg=>by
    have hb:Below wr.heap.size wr w3:=((Below.refl _ wr).alloc (Nat.le_refl _) o).trans (hb3.mono (by simp));refine ⟨fun j hj=>?_,(hrd.sw.same (hb.block B hB)).put hlt,(hrd.fd.below hb).same (Below.heap_setCell _ _ _ _ (by show F≠B;have:=hrd.ne;omega)),?_,hrd.ne⟩
    ·by_cases e:j=k
     ·rw [e];exact hg
     ·exact hrd.yes j (by omega)
    ·exact (hrd.bel.trans (hb.mono (Nat.le_of_lt hB))).setCell (p:=⟨B,k,none⟩) (Nat.le_refl _) _
   have HNX:Hid (ofS (k+1)=ofS k+wdS k):=ofS_next hlt;have HBL:Hid (Below B w wr):=hrd.bel;have hob:=ofS_bd hlt;obtain ⟨q,hq⟩:∃q,wdS k=q:=⟨_,rfl⟩;obtain ⟨x,hx⟩:∃x,atS (sdL zs) k=x:=⟨_,rfl⟩;obtain ⟨y,hy⟩:∃y,atS (mixS (sdL zs) k) k=y:=⟨_,rfl⟩;obtain ⟨p,hp⟩:∃p,ofS k=p:=⟨_,rfl⟩;rw [hy] at hc3;cases hg:getB zs (ofS k:Nat) (wdS k:Nat)
   ·have e:=HN.out k hlt hg;subst e;rw [hg,hq,hx,hp] at CG;rw [hq] at c0;rw [hp];clear hrd hfk hq hx hp HN HY HX hg HNX hy;go_wp2_with fail
    refine (CG.out _).mono ?_;rintro e w3 ⟨rfl,hb3⟩;have HB3:Hid (Below B w w3):=(HBL.out.trans (((Below.refl _ wr).alloc (Nat.le_refl _) _).mono (Nat.le_of_lt hB))).trans (hb3.mono (by simp;omega));clear hb3;go_wp2;go_ret
    exact ⟨rfl,(fun h=>by cases h),HB3.out⟩
   ·have HX':Hid (∀(w3:World) (o:Obj),Below (wr.alloc o).heap.size (wr.alloc o) w3→Rdg w (w3.setCell ⟨B,k,none⟩ (.int .i64 (atS (sdL zs) k))) zs B F (k+1)):=fun w3 o h=>HX.out w3 o h hg
    rw [hg,hq,hx,hp] at CG;rw [hx] at HX';rw [hq] at c0;rw [hq,hp] at hob HNX;rw [hp];clear hrd hfk hq hx hp hg HN HY HX hy HBL;go_wp2_with fail
    refine (CG.out _).mono ?_;rintro e w3 ⟨rfl,hb3⟩;have HR3:Hid (Rdg w (w3.setCell ⟨B,k,none⟩ (.int .i64 x)) zs B F (k+1)):=HX'.out w3 _ hb3;have d0:w3.cell? ⟨wr.heap.size,0,none⟩=some (.int .i64 (q:Int)):=(hb3.cell (p:=⟨wr.heap.size,0,none⟩) (by simp)).trans (by simp);have d1:w3.cell? ⟨wr.heap.size,1,none⟩=some (.pointer (some ⟨B,k,none⟩)):=(hb3.cell (p:=⟨wr.heap.size,1,none⟩) (by simp)).trans (by simp);have d2:w3.cell? ⟨B,k,none⟩=some (.int .i64 y):=(hb3.cell (p:=⟨B,k,none⟩) (by simp;omega)).trans (by rw [World.cell?_alloc_lt _ _ _ hB];exact hc3);have d3:w3.frozen? ⟨B,k,none⟩=false:=(hb3.frozen (p:=⟨B,k,none⟩) (by simp;omega)).trans ((((Below.refl _ wr).alloc (Nat.le_refl _) _).frozen (p:=⟨B,k,none⟩) hB).trans hz3);have d4:(w3.setCell ⟨B,k,none⟩ (.int .i64 x)).cell? ⟨wr.heap.size,0,none⟩=some (.int .i64 (q:Int)):=by rw [World.cell?_setCell_other _ _ _ _ (by intro e';simp only [Addr.mk.injEq] at e';omega)];exact d0
    clear hb3 HX';go_wp2_with fail
    go_roundw
    case rel=>exact ⟨k+1,by omega,by rw [HNX.out];go_num,by go_num,HR3.out⟩
    case measure=>simp [intOf];omega
  ·have hk8:k=8:=by omega
   subst hk8;have e:=HY.out hrd.yes;have HS:Hid (Sw8 wr B (sdL zs)):=hrd.sw;have HBL:Hid (Below B w wr):=hrd.bel;have hrr:=(HR.out.low HBB.out hrd.bel).drop' 34 (by rw [HL.out];decide);have C:=noughts_v b (off+34) (cap-34) 214 (zs.drop 34) wr hrr (by rw [List.length_drop,HL.out]) V e.symm;clear hrr hrd e HN HY;have e34:ofS 8=34:=rfl;rw [e34];clear e34;go_wp2_with fail
   refine C.mono ?_;clear C;rintro e w3 ⟨rfl,rfl⟩;go_wp2;go_ret
   exact ⟨rfl,(fun _=>HS.out),HBL.out⟩
theorem root_v (n p:Int) (V:Bool) (hV:ldB p n=V) (w:World):
  Calls Tryz.prog 69 #[.int .i64 n,.int .i64 p] w fun e w'=>e=.returned (.bool V)∧w'=w:=by
 unfold ldB at hV;by_cases h0:n=0
 ·rw [decide_eq_true (.inl h0)] at hV;subst hV h0;go_enter Tryz.func69,Tryz.ntmps69
  go_wp2;go_ret
  exact ⟨rfl,rfl⟩
 ·have h0b:(n==0)=false:=by simpa using h0
  by_cases h1:2≤n
  ·by_cases h2:n<p
   ·rw [decide_eq_true (.inr (by omega))] at hV;subst hV;go_enter Tryz.func69,Tryz.ntmps69
    go_wp2;go_ret
    exact ⟨rfl,rfl⟩
   ·rw [decide_eq_false (by omega)] at hV;subst hV;go_enter Tryz.func69,Tryz.ntmps69
    go_wp2;go_ret
    exact ⟨rfl,rfl⟩
  ·rw [decide_eq_false (by omega)] at hV;subst hV;go_enter Tryz.func69,Tryz.ntmps69
   go_wp2;go_ret
   exact ⟨rfl,rfl⟩
theorem rck_a1 (g p r h b l s f:Int) (w:World) (h1:¬1≤g):
  Calls Tryz.prog 44 #[.agg #[.int .i64 g,.int .i64 p,.int .i64 r,.int .i64 h,.int .i64 b,.int .i64 l,.int .i64 s,.int .i64 f]] w fun e w'=>e=.returned (.int .i64 1)∧Below w.heap.size w w':=by
 go_enter Tryz.func44,Tryz.ntmps44
 go_wp2;go_ret
 exact ⟨rfl,(Below.refl _ _).alloc (Nat.le_refl _) _⟩
theorem rck_a2 (g p r h b l s f:Int) (w:World) (h1:1≤g) (h2:¬g≤1152921504606846976):
  Calls Tryz.prog 44 #[.agg #[.int .i64 g,.int .i64 p,.int .i64 r,.int .i64 h,.int .i64 b,.int .i64 l,.int .i64 s,.int .i64 f]] w fun e w'=>e=.returned (.int .i64 1)∧Below w.heap.size w w':=by
 go_enter Tryz.func44,Tryz.ntmps44
 go_wp2;go_ret
 exact ⟨rfl,(Below.refl _ _).alloc (Nat.le_refl _) _⟩
theorem rck_a3 (g p r h b l s f:Int) (w:World) (h1:1≤g) (h2:g≤1152921504606846976) (h3:¬8≤p):
  Calls Tryz.prog 44 #[.agg #[.int .i64 g,.int .i64 p,.int .i64 r,.int .i64 h,.int .i64 b,.int .i64 l,.int .i64 s,.int .i64 f]] w fun e w'=>e=.returned (.int .i64 1)∧Below w.heap.size w w':=by
 go_enter Tryz.func44,Tryz.ntmps44
 go_wp2;go_ret
 exact ⟨rfl,(Below.refl _ _).alloc (Nat.le_refl _) _⟩
theorem rck_a4 (g p r h b l s f:Int) (w:World) (h1:1≤g) (h2:g≤1152921504606846976) (h3:8≤p) (h4:¬p≤4096):
  Calls Tryz.prog 44 #[.agg #[.int .i64 g,.int .i64 p,.int .i64 r,.int .i64 h,.int .i64 b,.int .i64 l,.int .i64 s,.int .i64 f]] w fun e w'=>e=.returned (.int .i64 1)∧Below w.heap.size w w':=by
 go_enter Tryz.func44,Tryz.ntmps44
 go_wp2;go_ret
 exact ⟨rfl,(Below.refl _ _).alloc (Nat.le_refl _) _⟩
theorem rck_a5 (g p r h b l s f:Int) (w:World) (h1:1≤g) (h2:g≤1152921504606846976) (h3:8≤p) (h4:p≤4096) (h5:ldB p r=false):
  Calls Tryz.prog 44 #[.agg #[.int .i64 g,.int .i64 p,.int .i64 r,.int .i64 h,.int .i64 b,.int .i64 l,.int .i64 s,.int .i64 f]] w fun e w'=>e=.returned (.int .i64 1)∧Below w.heap.size w w':=by
 have Ch5:=root_v r p false h5;clear h5;go_enter Tryz.func44,Tryz.ntmps44
 go_wp2_with fail
 refine (Ch5 _).mono ?_;clear Ch5;rintro e w1 ⟨rfl,rfl⟩;go_wp2;go_ret
 exact ⟨rfl,(Below.refl _ _).alloc (Nat.le_refl _) _⟩
theorem rck_a6 (g p r h b l s f:Int) (w:World) (h1:1≤g) (h2:g≤1152921504606846976) (h3:8≤p) (h4:p≤4096) (h5:ldB p r=true) (h6:ldB p s=false):
  Calls Tryz.prog 44 #[.agg #[.int .i64 g,.int .i64 p,.int .i64 r,.int .i64 h,.int .i64 b,.int .i64 l,.int .i64 s,.int .i64 f]] w fun e w'=>e=.returned (.int .i64 1)∧Below w.heap.size w w':=by
 have Ch5:=root_v r p true h5;have Ch6:=root_v s p false h6;clear h5 h6;go_enter Tryz.func44,Tryz.ntmps44
 go_wp2_with fail
 refine (Ch5 _).mono ?_;clear Ch5;rintro e w1 ⟨rfl,rfl⟩;go_wp2_with fail
 refine (Ch6 _).mono ?_;clear Ch6;rintro e w1 ⟨rfl,rfl⟩;go_wp2;go_ret
 exact ⟨rfl,(Below.refl _ _).alloc (Nat.le_refl _) _⟩
theorem rck_a7 (g p r h b l s f:Int) (w:World) (h1:1≤g) (h2:g≤1152921504606846976) (h3:8≤p) (h4:p≤4096) (h5:ldB p r=true) (h6:ldB p s=true) (h7:ldB p f=false):
  Calls Tryz.prog 44 #[.agg #[.int .i64 g,.int .i64 p,.int .i64 r,.int .i64 h,.int .i64 b,.int .i64 l,.int .i64 s,.int .i64 f]] w fun e w'=>e=.returned (.int .i64 1)∧Below w.heap.size w w':=by
 have Ch5:=root_v r p true h5;have Ch6:=root_v s p true h6;have Ch7:=root_v f p false h7;clear h5 h6 h7;go_enter Tryz.func44,Tryz.ntmps44
 go_wp2_with fail
 refine (Ch5 _).mono ?_;clear Ch5;rintro e w1 ⟨rfl,rfl⟩;go_wp2_with fail
 refine (Ch6 _).mono ?_;clear Ch6;rintro e w1 ⟨rfl,rfl⟩;go_wp2_with fail
 refine (Ch7 _).mono ?_;clear Ch7;rintro e w1 ⟨rfl,rfl⟩;go_wp2;go_ret
 exact ⟨rfl,(Below.refl _ _).alloc (Nat.le_refl _) _⟩
theorem rck_b1 (g p r h b l s f:Int) (w:World) (h1:1≤g) (h2:g≤1152921504606846976) (h3:8≤p) (h4:p≤4096) (h5:ldB p r=true) (h6:ldB p s=true) (h7:ldB p f=true) (k1:¬0≤h):
  Calls Tryz.prog 44 #[.agg #[.int .i64 g,.int .i64 p,.int .i64 r,.int .i64 h,.int .i64 b,.int .i64 l,.int .i64 s,.int .i64 f]] w fun e w'=>e=.returned (.int .i64 1)∧Below w.heap.size w w':=by
 have Ch5:=root_v r p true h5;have Ch6:=root_v s p true h6;have Ch7:=root_v f p true h7;clear h5 h6 h7;go_enter Tryz.func44,Tryz.ntmps44
 go_wp2_with fail
 refine (Ch5 _).mono ?_;clear Ch5;rintro e w1 ⟨rfl,rfl⟩;go_wp2_with fail
 refine (Ch6 _).mono ?_;clear Ch6;rintro e w1 ⟨rfl,rfl⟩;go_wp2_with fail
 refine (Ch7 _).mono ?_;clear Ch7;rintro e w1 ⟨rfl,rfl⟩;go_wp2;go_ret
 exact ⟨rfl,(Below.refl _ _).alloc (Nat.le_refl _) _⟩
theorem rck_b2 (g p r h b l s f:Int) (w:World) (h1:1≤g) (h2:g≤1152921504606846976) (h3:8≤p) (h4:p≤4096) (h5:ldB p r=true) (h6:ldB p s=true) (h7:ldB p f=true) (k1:0≤h) (k2:¬h≤32):
  Calls Tryz.prog 44 #[.agg #[.int .i64 g,.int .i64 p,.int .i64 r,.int .i64 h,.int .i64 b,.int .i64 l,.int .i64 s,.int .i64 f]] w fun e w'=>e=.returned (.int .i64 1)∧Below w.heap.size w w':=by
 have Ch5:=root_v r p true h5;have Ch6:=root_v s p true h6;have Ch7:=root_v f p true h7;clear h5 h6 h7;go_enter Tryz.func44,Tryz.ntmps44
 go_wp2_with fail
 refine (Ch5 _).mono ?_;clear Ch5;rintro e w1 ⟨rfl,rfl⟩;go_wp2_with fail
 refine (Ch6 _).mono ?_;clear Ch6;rintro e w1 ⟨rfl,rfl⟩;go_wp2_with fail
 refine (Ch7 _).mono ?_;clear Ch7;rintro e w1 ⟨rfl,rfl⟩;go_wp2;go_ret
 exact ⟨rfl,(Below.refl _ _).alloc (Nat.le_refl _) _⟩
theorem rck_b3 (g p r h b l s f:Int) (w:World) (h1:1≤g) (h2:g≤1152921504606846976) (h3:8≤p) (h4:p≤4096) (h5:ldB p r=true) (h6:ldB p s=true) (h7:ldB p f=true) (k1:0≤h) (k2:h≤32) (k3:(h==0)=true) (k4:(r==0)=false):
  Calls Tryz.prog 44 #[.agg #[.int .i64 g,.int .i64 p,.int .i64 r,.int .i64 h,.int .i64 b,.int .i64 l,.int .i64 s,.int .i64 f]] w fun e w'=>e=.returned (.int .i64 1)∧Below w.heap.size w w':=by
 have Ch5:=root_v r p true h5;have Ch6:=root_v s p true h6;have Ch7:=root_v f p true h7;clear h5 h6 h7;go_enter Tryz.func44,Tryz.ntmps44
 go_wp2_with fail
 refine (Ch5 _).mono ?_;clear Ch5;rintro e w1 ⟨rfl,rfl⟩;go_wp2_with fail
 refine (Ch6 _).mono ?_;clear Ch6;rintro e w1 ⟨rfl,rfl⟩;go_wp2_with fail
 refine (Ch7 _).mono ?_;clear Ch7;rintro e w1 ⟨rfl,rfl⟩;go_wp2;go_ret
 exact ⟨rfl,(Below.refl _ _).alloc (Nat.le_refl _) _⟩
theorem rck_b4 (g p r h b l s f:Int) (w:World) (h1:1≤g) (h2:g≤1152921504606846976) (h3:8≤p) (h4:p≤4096) (h5:ldB p r=true) (h6:ldB p s=true) (h7:ldB p f=true) (k1:0≤h) (k2:h≤32) (k3:(h==0)=false) (k4:(r==0)=true):
  Calls Tryz.prog 44 #[.agg #[.int .i64 g,.int .i64 p,.int .i64 r,.int .i64 h,.int .i64 b,.int .i64 l,.int .i64 s,.int .i64 f]] w fun e w'=>e=.returned (.int .i64 1)∧Below w.heap.size w w':=by
 have Ch5:=root_v r p true h5;have Ch6:=root_v s p true h6;have Ch7:=root_v f p true h7;clear h5 h6 h7;go_enter Tryz.func44,Tryz.ntmps44
 go_wp2_with fail
 refine (Ch5 _).mono ?_;clear Ch5;rintro e w1 ⟨rfl,rfl⟩;go_wp2_with fail
 refine (Ch6 _).mono ?_;clear Ch6;rintro e w1 ⟨rfl,rfl⟩;go_wp2_with fail
 refine (Ch7 _).mono ?_;clear Ch7;rintro e w1 ⟨rfl,rfl⟩;go_wp2;go_ret
 exact ⟨rfl,(Below.refl _ _).alloc (Nat.le_refl _) _⟩
theorem rck_t1 (g p r h b l s f:Int) (w:World) (h1:1≤g) (h2:g≤1152921504606846976) (h3:8≤p) (h4:p≤4096) (h5:ldB p r=true) (h6:ldB p s=true) (h7:ldB p f=true) (k1:0≤h) (k2:h≤32) (k3:(h==0)=true) (k4:(r==0)=true) (m1:¬0≤b):
  Calls Tryz.prog 44 #[.agg #[.int .i64 g,.int .i64 p,.int .i64 r,.int .i64 h,.int .i64 b,.int .i64 l,.int .i64 s,.int .i64 f]] w fun e w'=>e=.returned (.int .i64 1)∧Below w.heap.size w w':=by
 have Ch5:=root_v r p true h5;have Ch6:=root_v s p true h6;have Ch7:=root_v f p true h7;clear h5 h6 h7;go_enter Tryz.func44,Tryz.ntmps44
 go_wp2_with fail
 refine (Ch5 _).mono ?_;clear Ch5;rintro e w1 ⟨rfl,rfl⟩;go_wp2_with fail
 refine (Ch6 _).mono ?_;clear Ch6;rintro e w1 ⟨rfl,rfl⟩;go_wp2_with fail
 refine (Ch7 _).mono ?_;clear Ch7;rintro e w1 ⟨rfl,rfl⟩;go_wp2;go_ret
 exact ⟨rfl,(Below.refl _ _).alloc (Nat.le_refl _) _⟩
theorem rck_t2 (g p r h b l s f:Int) (w:World) (h1:1≤g) (h2:g≤1152921504606846976) (h3:8≤p) (h4:p≤4096) (h5:ldB p r=true) (h6:ldB p s=true) (h7:ldB p f=true) (k1:0≤h) (k2:h≤32) (k3:(h==0)=true) (k4:(r==0)=true) (m1:0≤b) (m2:¬b≤1048576):
  Calls Tryz.prog 44 #[.agg #[.int .i64 g,.int .i64 p,.int .i64 r,.int .i64 h,.int .i64 b,.int .i64 l,.int .i64 s,.int .i64 f]] w fun e w'=>e=.returned (.int .i64 1)∧Below w.heap.size w w':=by
 have Ch5:=root_v r p true h5;have Ch6:=root_v s p true h6;have Ch7:=root_v f p true h7;clear h5 h6 h7;go_enter Tryz.func44,Tryz.ntmps44
 go_wp2_with fail
 refine (Ch5 _).mono ?_;clear Ch5;rintro e w1 ⟨rfl,rfl⟩;go_wp2_with fail
 refine (Ch6 _).mono ?_;clear Ch6;rintro e w1 ⟨rfl,rfl⟩;go_wp2_with fail
 refine (Ch7 _).mono ?_;clear Ch7;rintro e w1 ⟨rfl,rfl⟩;go_wp2;go_ret
 exact ⟨rfl,(Below.refl _ _).alloc (Nat.le_refl _) _⟩
theorem rck_t3 (g p r h b l s f:Int) (w:World) (h1:1≤g) (h2:g≤1152921504606846976) (h3:8≤p) (h4:p≤4096) (h5:ldB p r=true) (h6:ldB p s=true) (h7:ldB p f=true) (k1:0≤h) (k2:h≤32) (k3:(h==0)=true) (k4:(r==0)=true) (m1:0≤b) (m2:b≤1048576) (m3:¬0≤l):
  Calls Tryz.prog 44 #[.agg #[.int .i64 g,.int .i64 p,.int .i64 r,.int .i64 h,.int .i64 b,.int .i64 l,.int .i64 s,.int .i64 f]] w fun e w'=>e=.returned (.int .i64 1)∧Below w.heap.size w w':=by
 have Ch5:=root_v r p true h5;have Ch6:=root_v s p true h6;have Ch7:=root_v f p true h7;clear h5 h6 h7;go_enter Tryz.func44,Tryz.ntmps44
 go_wp2_with fail
 refine (Ch5 _).mono ?_;clear Ch5;rintro e w1 ⟨rfl,rfl⟩;go_wp2_with fail
 refine (Ch6 _).mono ?_;clear Ch6;rintro e w1 ⟨rfl,rfl⟩;go_wp2_with fail
 refine (Ch7 _).mono ?_;clear Ch7;rintro e w1 ⟨rfl,rfl⟩;go_wp2;go_ret
 exact ⟨rfl,(Below.refl _ _).alloc (Nat.le_refl _) _⟩
theorem rck_t4 (g p r h b l s f:Int) (w:World) (h1:1≤g) (h2:g≤1152921504606846976) (h3:8≤p) (h4:p≤4096) (h5:ldB p r=true) (h6:ldB p s=true) (h7:ldB p f=true) (k1:0≤h) (k2:h≤32) (k3:(h==0)=true) (k4:(r==0)=true) (m1:0≤b) (m2:b≤1048576) (m3:0≤l) (m4:¬l≤b):
  Calls Tryz.prog 44 #[.agg #[.int .i64 g,.int .i64 p,.int .i64 r,.int .i64 h,.int .i64 b,.int .i64 l,.int .i64 s,.int .i64 f]] w fun e w'=>e=.returned (.int .i64 1)∧Below w.heap.size w w':=by
 have Ch5:=root_v r p true h5;have Ch6:=root_v s p true h6;have Ch7:=root_v f p true h7;clear h5 h6 h7;go_enter Tryz.func44,Tryz.ntmps44
 go_wp2_with fail
 refine (Ch5 _).mono ?_;clear Ch5;rintro e w1 ⟨rfl,rfl⟩;go_wp2_with fail
 refine (Ch6 _).mono ?_;clear Ch6;rintro e w1 ⟨rfl,rfl⟩;go_wp2_with fail
 refine (Ch7 _).mono ?_;clear Ch7;rintro e w1 ⟨rfl,rfl⟩;go_wp2;go_ret
 exact ⟨rfl,(Below.refl _ _).alloc (Nat.le_refl _) _⟩
theorem rck_t5 (g p r h b l s f:Int) (w:World) (h1:1≤g) (h2:g≤1152921504606846976) (h3:8≤p) (h4:p≤4096) (h5:ldB p r=true) (h6:ldB p s=true) (h7:ldB p f=true) (k1:0≤h) (k2:h≤32) (k3:(h==0)=true) (k4:(r==0)=true) (m1:0≤b) (m2:b≤1048576) (m3:0≤l) (m4:l≤b) (m5:(b==0)=false):
  Calls Tryz.prog 44 #[.agg #[.int .i64 g,.int .i64 p,.int .i64 r,.int .i64 h,.int .i64 b,.int .i64 l,.int .i64 s,.int .i64 f]] w fun e w'=>e=.returned (.int .i64 1)∧Below w.heap.size w w':=by
 have Ch5:=root_v r p true h5;have Ch6:=root_v s p true h6;have Ch7:=root_v f p true h7;clear h5 h6 h7;go_enter Tryz.func44,Tryz.ntmps44
 go_wp2_with fail
 refine (Ch5 _).mono ?_;clear Ch5;rintro e w1 ⟨rfl,rfl⟩;go_wp2_with fail
 refine (Ch6 _).mono ?_;clear Ch6;rintro e w1 ⟨rfl,rfl⟩;go_wp2_with fail
 refine (Ch7 _).mono ?_;clear Ch7;rintro e w1 ⟨rfl,rfl⟩;go_wp2;go_ret
 exact ⟨rfl,(Below.refl _ _).alloc (Nat.le_refl _) _⟩
theorem rck_t6 (g p r h b l s f:Int) (w:World) (h1:1≤g) (h2:g≤1152921504606846976) (h3:8≤p) (h4:p≤4096) (h5:ldB p r=true) (h6:ldB p s=true) (h7:ldB p f=true) (k1:0≤h) (k2:h≤32) (k3:(h==0)=true) (k4:(r==0)=true) (m1:0≤b) (m2:b≤1048576) (m3:0≤l) (m4:l≤b) (m5:(b==0)=true):
  Calls Tryz.prog 44 #[.agg #[.int .i64 g,.int .i64 p,.int .i64 r,.int .i64 h,.int .i64 b,.int .i64 l,.int .i64 s,.int .i64 f]] w fun e w'=>e=.returned (.int .i64 0)∧Below w.heap.size w w':=by
 have Ch5:=root_v r p true h5;have Ch6:=root_v s p true h6;have Ch7:=root_v f p true h7;clear h5 h6 h7;go_enter Tryz.func44,Tryz.ntmps44
 go_wp2_with fail
 refine (Ch5 _).mono ?_;clear Ch5;rintro e w1 ⟨rfl,rfl⟩;go_wp2_with fail
 refine (Ch6 _).mono ?_;clear Ch6;rintro e w1 ⟨rfl,rfl⟩;go_wp2_with fail
 refine (Ch7 _).mono ?_;clear Ch7;rintro e w1 ⟨rfl,rfl⟩;go_wp2;go_ret
 exact ⟨rfl,(Below.refl _ _).alloc (Nat.le_refl _) _⟩
theorem rck_f1 (g p r h b l s f:Int) (w:World) (h1:1≤g) (h2:g≤1152921504606846976) (h3:8≤p) (h4:p≤4096) (h5:ldB p r=true) (h6:ldB p s=true) (h7:ldB p f=true) (k1:0≤h) (k2:h≤32) (k3:(h==0)=false) (k4:(r==0)=false) (m1:¬0≤b):
  Calls Tryz.prog 44 #[.agg #[.int .i64 g,.int .i64 p,.int .i64 r,.int .i64 h,.int .i64 b,.int .i64 l,.int .i64 s,.int .i64 f]] w fun e w'=>e=.returned (.int .i64 1)∧Below w.heap.size w w':=by
 have Ch5:=root_v r p true h5;have Ch6:=root_v s p true h6;have Ch7:=root_v f p true h7;clear h5 h6 h7;go_enter Tryz.func44,Tryz.ntmps44
 go_wp2_with fail
 refine (Ch5 _).mono ?_;clear Ch5;rintro e w1 ⟨rfl,rfl⟩;go_wp2_with fail
 refine (Ch6 _).mono ?_;clear Ch6;rintro e w1 ⟨rfl,rfl⟩;go_wp2_with fail
 refine (Ch7 _).mono ?_;clear Ch7;rintro e w1 ⟨rfl,rfl⟩;go_wp2;go_ret
 exact ⟨rfl,(Below.refl _ _).alloc (Nat.le_refl _) _⟩
theorem rck_f2 (g p r h b l s f:Int) (w:World) (h1:1≤g) (h2:g≤1152921504606846976) (h3:8≤p) (h4:p≤4096) (h5:ldB p r=true) (h6:ldB p s=true) (h7:ldB p f=true) (k1:0≤h) (k2:h≤32) (k3:(h==0)=false) (k4:(r==0)=false) (m1:0≤b) (m2:¬b≤1048576):
  Calls Tryz.prog 44 #[.agg #[.int .i64 g,.int .i64 p,.int .i64 r,.int .i64 h,.int .i64 b,.int .i64 l,.int .i64 s,.int .i64 f]] w fun e w'=>e=.returned (.int .i64 1)∧Below w.heap.size w w':=by
 have Ch5:=root_v r p true h5;have Ch6:=root_v s p true h6;have Ch7:=root_v f p true h7;clear h5 h6 h7;go_enter Tryz.func44,Tryz.ntmps44
 go_wp2_with fail
 refine (Ch5 _).mono ?_;clear Ch5;rintro e w1 ⟨rfl,rfl⟩;go_wp2_with fail
 refine (Ch6 _).mono ?_;clear Ch6;rintro e w1 ⟨rfl,rfl⟩;go_wp2_with fail
 refine (Ch7 _).mono ?_;clear Ch7;rintro e w1 ⟨rfl,rfl⟩;go_wp2;go_ret
 exact ⟨rfl,(Below.refl _ _).alloc (Nat.le_refl _) _⟩
theorem rck_f3 (g p r h b l s f:Int) (w:World) (h1:1≤g) (h2:g≤1152921504606846976) (h3:8≤p) (h4:p≤4096) (h5:ldB p r=true) (h6:ldB p s=true) (h7:ldB p f=true) (k1:0≤h) (k2:h≤32) (k3:(h==0)=false) (k4:(r==0)=false) (m1:0≤b) (m2:b≤1048576) (m3:¬0≤l):
  Calls Tryz.prog 44 #[.agg #[.int .i64 g,.int .i64 p,.int .i64 r,.int .i64 h,.int .i64 b,.int .i64 l,.int .i64 s,.int .i64 f]] w fun e w'=>e=.returned (.int .i64 1)∧Below w.heap.size w w':=by
 have Ch5:=root_v r p true h5;have Ch6:=root_v s p true h6;have Ch7:=root_v f p true h7;clear h5 h6 h7;go_enter Tryz.func44,Tryz.ntmps44
 go_wp2_with fail
 refine (Ch5 _).mono ?_;clear Ch5;rintro e w1 ⟨rfl,rfl⟩;go_wp2_with fail
 refine (Ch6 _).mono ?_;clear Ch6;rintro e w1 ⟨rfl,rfl⟩;go_wp2_with fail
 refine (Ch7 _).mono ?_;clear Ch7;rintro e w1 ⟨rfl,rfl⟩;go_wp2;go_ret
 exact ⟨rfl,(Below.refl _ _).alloc (Nat.le_refl _) _⟩
theorem rck_f4 (g p r h b l s f:Int) (w:World) (h1:1≤g) (h2:g≤1152921504606846976) (h3:8≤p) (h4:p≤4096) (h5:ldB p r=true) (h6:ldB p s=true) (h7:ldB p f=true) (k1:0≤h) (k2:h≤32) (k3:(h==0)=false) (k4:(r==0)=false) (m1:0≤b) (m2:b≤1048576) (m3:0≤l) (m4:¬l≤b):
  Calls Tryz.prog 44 #[.agg #[.int .i64 g,.int .i64 p,.int .i64 r,.int .i64 h,.int .i64 b,.int .i64 l,.int .i64 s,.int .i64 f]] w fun e w'=>e=.returned (.int .i64 1)∧Below w.heap.size w w':=by
 have Ch5:=root_v r p true h5;have Ch6:=root_v s p true h6;have Ch7:=root_v f p true h7;clear h5 h6 h7;go_enter Tryz.func44,Tryz.ntmps44
 go_wp2_with fail
 refine (Ch5 _).mono ?_;clear Ch5;rintro e w1 ⟨rfl,rfl⟩;go_wp2_with fail
 refine (Ch6 _).mono ?_;clear Ch6;rintro e w1 ⟨rfl,rfl⟩;go_wp2_with fail
 refine (Ch7 _).mono ?_;clear Ch7;rintro e w1 ⟨rfl,rfl⟩;go_wp2;go_ret
 exact ⟨rfl,(Below.refl _ _).alloc (Nat.le_refl _) _⟩
theorem rck_f5 (g p r h b l s f:Int) (w:World) (h1:1≤g) (h2:g≤1152921504606846976) (h3:8≤p) (h4:p≤4096) (h5:ldB p r=true) (h6:ldB p s=true) (h7:ldB p f=true) (k1:0≤h) (k2:h≤32) (k3:(h==0)=false) (k4:(r==0)=false) (m1:0≤b) (m2:b≤1048576) (m3:0≤l) (m4:l≤b) (m5:(b==0)=true):
  Calls Tryz.prog 44 #[.agg #[.int .i64 g,.int .i64 p,.int .i64 r,.int .i64 h,.int .i64 b,.int .i64 l,.int .i64 s,.int .i64 f]] w fun e w'=>e=.returned (.int .i64 1)∧Below w.heap.size w w':=by
 have Ch5:=root_v r p true h5;have Ch6:=root_v s p true h6;have Ch7:=root_v f p true h7;clear h5 h6 h7;go_enter Tryz.func44,Tryz.ntmps44
 go_wp2_with fail
 refine (Ch5 _).mono ?_;clear Ch5;rintro e w1 ⟨rfl,rfl⟩;go_wp2_with fail
 refine (Ch6 _).mono ?_;clear Ch6;rintro e w1 ⟨rfl,rfl⟩;go_wp2_with fail
 refine (Ch7 _).mono ?_;clear Ch7;rintro e w1 ⟨rfl,rfl⟩;go_wp2;go_ret
 exact ⟨rfl,(Below.refl _ _).alloc (Nat.le_refl _) _⟩
theorem rck_f6 (g p r h b l s f:Int) (w:World) (h1:1≤g) (h2:g≤1152921504606846976) (h3:8≤p) (h4:p≤4096) (h5:ldB p r=true) (h6:ldB p s=true) (h7:ldB p f=true) (k1:0≤h) (k2:h≤32) (k3:(h==0)=false) (k4:(r==0)=false) (m1:0≤b) (m2:b≤1048576) (m3:0≤l) (m4:l≤b) (m5:(b==0)=false):
  Calls Tryz.prog 44 #[.agg #[.int .i64 g,.int .i64 p,.int .i64 r,.int .i64 h,.int .i64 b,.int .i64 l,.int .i64 s,.int .i64 f]] w fun e w'=>e=.returned (.int .i64 0)∧Below w.heap.size w w':=by
 have Ch5:=root_v r p true h5;have Ch6:=root_v s p true h6;have Ch7:=root_v f p true h7;clear h5 h6 h7;go_enter Tryz.func44,Tryz.ntmps44
 go_wp2_with fail
 refine (Ch5 _).mono ?_;clear Ch5;rintro e w1 ⟨rfl,rfl⟩;go_wp2_with fail
 refine (Ch6 _).mono ?_;clear Ch6;rintro e w1 ⟨rfl,rfl⟩;go_wp2_with fail
 refine (Ch7 _).mono ?_;clear Ch7;rintro e w1 ⟨rfl,rfl⟩;go_wp2;go_ret
 exact ⟨rfl,(Below.refl _ _).alloc (Nat.le_refl _) _⟩
theorem rcheck_any (S:Sp) (w:World):Calls Tryz.prog 44 #[spV S] w fun e w'=>e=.returned (.int .i64 (enE S))∧Below w.heap.size w w':=by
 obtain ⟨g,p,r,h,b,l,s,f⟩:=S;have no:∀k,k<8→fitS ⟨g,p,r,h,b,l,s,f⟩ k=false→enE ⟨g,p,r,h,b,l,s,f⟩=1:=fun k hk hf=>by unfold enE;rw [okS_no hk hf];rfl
 by_cases h1:1≤g;rotate_left
 ·rw [no 0 (by omega) (decide_eq_false (fun x=>h1 (by have:=x;dsimp only at this;omega)))];exact rck_a1 g p r h b l s f w h1
 by_cases h2:g≤1152921504606846976;rotate_left
 ·rw [no 0 (by omega) (decide_eq_false (fun x=>h2 (by have:=x;dsimp only at this;omega)))];exact rck_a2 g p r h b l s f w h1 h2
 by_cases h3:8≤p;rotate_left
 ·rw [no 1 (by omega) (decide_eq_false (fun x=>h3 (by have:=x;dsimp only at this;omega)))];exact rck_a3 g p r h b l s f w h1 h2 h3
 by_cases h4:p≤4096;rotate_left
 ·rw [no 1 (by omega) (decide_eq_false (fun x=>h4 (by have:=x;dsimp only at this;omega)))];exact rck_a4 g p r h b l s f w h1 h2 h3 h4
 cases h5:ldB p r
 ·rw [no 2 (by omega) h5];exact rck_a5 g p r h b l s f w h1 h2 h3 h4 h5
 cases h6:ldB p s
 ·rw [no 6 (by omega) h6];exact rck_a6 g p r h b l s f w h1 h2 h3 h4 h5 h6
 cases h7:ldB p f
 ·rw [no 7 (by omega) h7];exact rck_a7 g p r h b l s f w h1 h2 h3 h4 h5 h6 h7
 by_cases k1:0≤h;rotate_left
 ·rw [no 3 (by omega) (decide_eq_false (fun x=>k1 (by have:=x;dsimp only at this;omega)))];exact rck_b1 g p r h b l s f w h1 h2 h3 h4 h5 h6 h7 k1
 by_cases k2:h≤32;rotate_left
 ·rw [no 3 (by omega) (decide_eq_false (fun x=>k2 (by have:=x;dsimp only at this;omega)))];exact rck_b2 g p r h b l s f w h1 h2 h3 h4 h5 h6 h7 k1 k2
 by_cases k3:h=0
 ·by_cases k4:r=0
  ·skip
   by_cases m1:0≤b;rotate_left
   ·rw [no 4 (by omega) (decide_eq_false (fun x=>m1 (by have:=x;dsimp only at this;omega)))];exact rck_t1 g p r h b l s f w h1 h2 h3 h4 h5 h6 h7 k1 k2 (by simp [k3]) (by simp [k4]) m1
   by_cases m2:b≤1048576;rotate_left
   ·rw [no 4 (by omega) (decide_eq_false (fun x=>m2 (by have:=x;dsimp only at this;omega)))];exact rck_t2 g p r h b l s f w h1 h2 h3 h4 h5 h6 h7 k1 k2 (by simp [k3]) (by simp [k4]) m1 m2
   by_cases m3:0≤l;rotate_left
   ·rw [no 5 (by omega) (decide_eq_false (fun x=>m3 (by have:=x;dsimp only at this;omega)))];exact rck_t3 g p r h b l s f w h1 h2 h3 h4 h5 h6 h7 k1 k2 (by simp [k3]) (by simp [k4]) m1 m2 m3
   by_cases m4:l≤b;rotate_left
   ·rw [no 5 (by omega) (decide_eq_false (fun x=>m4 (by have:=x;dsimp only at this;omega)))];exact rck_t4 g p r h b l s f w h1 h2 h3 h4 h5 h6 h7 k1 k2 (by simp [k3]) (by simp [k4]) m1 m2 m3 m4
   by_cases m5:b=0
   ·have ok:okS ⟨g,p,r,h,b,l,s,f⟩=true:=okS_all.2 fun k hk=>by
     rcases eight hk with rfl|rfl|rfl|rfl|rfl|rfl|rfl|rfl
     ·exact decide_eq_true (by dsimp only;omega)
     ·exact decide_eq_true (by dsimp only;omega)
     ·exact h5
     ·exact decide_eq_true (by dsimp only;omega)
     ·exact decide_eq_true (by dsimp only;omega)
     ·exact decide_eq_true (by dsimp only;omega)
     ·exact h6
     ·exact h7
    have e0:enE ⟨g,p,r,h,b,l,s,f⟩=0:=by unfold enE;rw [ok];rfl
    rw [e0];exact rck_t6 g p r h b l s f w h1 h2 h3 h4 h5 h6 h7 k1 k2 (by simp [k3]) (by simp [k4]) m1 m2 m3 m4 (by simp [m5])
   ·rw [no 4 (by omega) (decide_eq_false (fun x=>m5 (by have:=x;dsimp only at this;omega)))];exact rck_t5 g p r h b l s f w h1 h2 h3 h4 h5 h6 h7 k1 k2 (by simp [k3]) (by simp [k4]) m1 m2 m3 m4 (by simp [m5])
  ·rw [no 3 (by omega) (decide_eq_false (fun x=>k4 (by have:=x;dsimp only at this;omega)))];exact rck_b3 g p r h b l s f w h1 h2 h3 h4 h5 h6 h7 k1 k2 (by simp [k3]) (by simp [k4])
 ·by_cases k4:r=0
  ·rw [no 3 (by omega) (decide_eq_false (fun x=>k3 (by have:=x;dsimp only at this;omega)))];exact rck_b4 g p r h b l s f w h1 h2 h3 h4 h5 h6 h7 k1 k2 (by simp [k3]) (by simp [k4])
  ·skip
   by_cases m1:0≤b;rotate_left
   ·rw [no 4 (by omega) (decide_eq_false (fun x=>m1 (by have:=x;dsimp only at this;omega)))];exact rck_f1 g p r h b l s f w h1 h2 h3 h4 h5 h6 h7 k1 k2 (by simp [k3]) (by simp [k4]) m1
   by_cases m2:b≤1048576;rotate_left
   ·rw [no 4 (by omega) (decide_eq_false (fun x=>m2 (by have:=x;dsimp only at this;omega)))];exact rck_f2 g p r h b l s f w h1 h2 h3 h4 h5 h6 h7 k1 k2 (by simp [k3]) (by simp [k4]) m1 m2
   by_cases m3:0≤l;rotate_left
   ·rw [no 5 (by omega) (decide_eq_false (fun x=>m3 (by have:=x;dsimp only at this;omega)))];exact rck_f3 g p r h b l s f w h1 h2 h3 h4 h5 h6 h7 k1 k2 (by simp [k3]) (by simp [k4]) m1 m2 m3
   by_cases m4:l≤b;rotate_left
   ·rw [no 5 (by omega) (decide_eq_false (fun x=>m4 (by have:=x;dsimp only at this;omega)))];exact rck_f4 g p r h b l s f w h1 h2 h3 h4 h5 h6 h7 k1 k2 (by simp [k3]) (by simp [k4]) m1 m2 m3 m4
   by_cases m5:b=0
   ·rw [no 4 (by omega) (decide_eq_false (fun x=>k4 (by have:=x;dsimp only at this;omega)))];exact rck_f5 g p r h b l s f w h1 h2 h3 h4 h5 h6 h7 k1 k2 (by simp [k3]) (by simp [k4]) m1 m2 m3 m4 (by simp [m5])
   ·have ok:okS ⟨g,p,r,h,b,l,s,f⟩=true:=okS_all.2 fun k hk=>by
     rcases eight hk with rfl|rfl|rfl|rfl|rfl|rfl|rfl|rfl
     ·exact decide_eq_true (by dsimp only;omega)
     ·exact decide_eq_true (by dsimp only;omega)
     ·exact h5
     ·exact decide_eq_true (by dsimp only;omega)
     ·exact decide_eq_true (by dsimp only;omega)
     ·exact decide_eq_true (by dsimp only;omega)
     ·exact h6
     ·exact h7
    have e0:enE ⟨g,p,r,h,b,l,s,f⟩=0:=by unfold enE;rw [ok];rfl
    rw [e0];exact rck_f6 g p r h b l s f w h1 h2 h3 h4 h5 h6 h7 k1 k2 (by simp [k3]) (by simp [k4]) m1 m2 m3 m4 (by simp [m5])
end Go.Proofs.YtjllhcifmfhkmaaGreat.Oct
