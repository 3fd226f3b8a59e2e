/- Part of a proof. -/
import Derived.Test.YtjllhcifmfhkmaaGreatZb
import Derived.Test.YtjllhcifmfhkmaaGreatZi
import Derived.Test.YtjllhcifmfhkmaaGreatR
namespace Go.Proofs.YtjllhcifmfhkmaaGreat.Oct
open Go.RowKit
theorem get1 {zs:List Int} (hb:Bys zs) (k:Nat) (hk:k<zs.length):getI zs k 1=zs.getD k 0:=by
 have hi:insB zs.length k 1=true:=by simp [insB];omega
 have h:=hb.at k;unfold getI;rw [hi,if_pos rfl]
 have e:num zs (k:Int).toNat (1:Int).toNat=zs.getD k 0:=by
  rw [Int.toNat_natCast];show num zs k 1=_;rw [num_succ];show 0*256+_=_;simp
 rw [e];exact (cap_yes (by omega)).1
set_option maxHeartbeats 1000000 in
theorem ropen_any (a:Option Addr) (cap:Nat) (zs:List Int) (w:World) (h:Row w a cap zs):
  Calls Tryz.prog 95 #[.slice a zs.length cap] w fun e w'=>∃v,e=.returned (.tuple #[v,.int .i64 (opE zs)])∧Opened w.heap.size w' v (opP zs)∧Below w.heap.size w w':=by
 by_cases hl:zs.length=256
 ·obtain ⟨b,off,rfl⟩:=h.some' (by omega)
  have cn:∀(p n:Int) (w1:World),Below w.heap.size w w1→Calls Tryz.prog 96 #[.slice (some ⟨b,off,none⟩) 256 cap,.int .i64 p,.int .i64 n] w1 fun e w'=>e=.returned (.int .i64 (getI zs p n))∧Below w1.heap.size w1 w':=fun p n w1 hb=>by
   have:=rnumber_any _ _ _ p n _ (h.below hb);rw [hl] at this;exact this.mono fun e w' ⟨h1,h2⟩=>⟨h1,h2▸Below.refl _ _⟩
  have cs:∀(w1:World),Below w.heap.size w w1→Calls Tryz.prog 42 #[.slice (some ⟨b,off+4,none⟩) 252 (cap-4)] w1 fun e w'=>e=.returned (.int .u32 (crc (zs.drop 4)))∧Below w1.heap.size w1 w':=fun w1 hb=>by
   have e:(zs.drop 4).length=252:=by simp [hl]
   have:=refcrc_any _ _ _ _ ((h.below hb).drop' 4 (by omega));rw [e] at this;exact this.mono fun e w' ⟨h1,h2⟩=>⟨h1,h2▸Below.refl _ _⟩
  have cc:∀(w1:World),Below w.heap.size w w1→Calls Tryz.prog 40 #[.slice (some ⟨b,off+8,none⟩) 248 (cap-8)] w1 fun e w'=>∃g c,e=.returned (.slice g 248 c)∧Own w1.heap.size w' (.slice g 248 c) (zs.drop 8)∧Below w1.heap.size w1 w':=fun w1 hb=>by
   have e:(zs.drop 8).length=248:=by simp [hl]
   have hr:=(h.below hb).drop' 8 (by omega);have:=copy_any _ _ _ _ hr (by omega);rw [e] at this;refine this.mono ?_;rintro e' w' ⟨v,rfl,ho,hb'⟩;obtain ⟨g,c,hv,_⟩:=ho.row hr.1;rw [e] at hv;rw [hv] at ho ⊢;exact ⟨g,c,rfl,ho,hb'⟩
  have hc:=h.2.1;have hm:=h.2.2.1;unfold maxLen at hm;rw [hl] at hc;have e1:opE zs=if getI zs 0 4=crc (zs.drop 4) then (if okK (getI zs 4 1) then 0 else 4) else 5:=by simp [opE,hl]
  have hno:∀{base:Nat} {w:World},opE zs≠0→Opened base w (.agg #[.int .i64 0,.int .i64 0,.int .i64 0,.slice none 0 0]) (opP zs):=fun hh=>opened_no _ _ zs hh
  have hyes:opE zs=0→opP zs=⟨getI zs 4 1,getI zs 5 1,getI zs 6 2,zs.drop 8⟩:=fun hh=>by simp [opP,hh]
  have l4:∀(w1:World),Below w.heap.size w w1→w1.cell? ⟨b,off+4,none⟩=some (.int .u8 (getI zs 4 1)):=fun w1 hb=>by
   rw [show getI zs 4 1=zs.getD 4 0 from get1 h.1 4 (by omega)];exact (h.below hb).cells 4 (by omega)
  have l5:∀(w1:World),Below w.heap.size w w1→w1.cell? ⟨b,off+5,none⟩=some (.int .u8 (getI zs 5 1)):=fun w1 hb=>by
   rw [show getI zs 5 1=zs.getD 5 0 from get1 h.1 5 (by omega)];exact (h.below hb).cells 5 (by omega)
  have b4:0≤getI zs 4 1∧getI zs 4 1≤255:=by rw [show getI zs 4 1=zs.getD 4 0 from get1 h.1 4 (by omega)];exact h.1.at 4
  have b5:0≤getI zs 5 1∧getI zs 5 1≤255:=by rw [show getI zs 5 1=zs.getD 5 0 from get1 h.1 5 (by omega)];exact h.1.at 5
  have bs:=crc_bd (zs:=zs.drop 4) (fun z hz=>h.1 z (List.mem_of_mem_drop hz));rw [hl];obtain ⟨E,hE⟩:∃E,opE zs=E:=⟨_,rfl⟩;obtain ⟨p,hp⟩:∃p,opP zs=p:=⟨_,rfl⟩;rw [hE,hp] at hno hyes;rw [hE] at e1 ⊢;rw [hp];obtain ⟨x0,h0⟩:∃x,getI zs 0 4=x:=⟨_,rfl⟩;obtain ⟨s0,hs0⟩:∃x,crc (zs.drop 4)=x:=⟨_,rfl⟩;obtain ⟨x4,h4⟩:∃x,getI zs 4 1=x:=⟨_,rfl⟩;obtain ⟨x5,h5⟩:∃x,getI zs 5 1=x:=⟨_,rfl⟩;obtain ⟨x6,h6⟩:∃x,getI zs 6 2=x:=⟨_,rfl⟩;have c0:=cn 0 4;have c6:=cn 6 2;rw [h0] at c0 e1;rw [h4] at e1 hyes l4 b4;rw [h5] at hyes l5 b5;rw [h6] at c6 hyes;rw [hs0] at cs e1 bs;have C0:Hid _:=c0;have L4:Hid _:=l4;have L5:Hid _:=l5;have C6:Hid _:=c6;have CS:Hid _:=cs;have CC:Hid _:=cc;have HE:Hid _:=e1;have HNO:Hid (∀{base:Nat} {w:World},E≠0→Opened base w (.agg #[.int .i64 0,.int .i64 0,.int .i64 0,.slice none 0 0]) p):= @hno;have HYES:Hid _:=hyes;clear c0 c6 cs cc cn h0 h4 h5 h6 hs0 e1 hno hyes hE hp h hl l4 l5;have HB0:Hid (Below w.heap.size w (w.alloc (.cells #[.int .i64 0,.int .i64 0,.int .i64 0,.slice none 0 0] 127))):=(Below.refl _ _).alloc (Nat.le_refl _) _;have S0:Hid (Slot (w.alloc (.cells #[.int .i64 0,.int .i64 0,.int .i64 0,.slice none 0 0] 127)) w.heap.size _ _ _ _):=slot_new w _ _ _ _ 127;have ws:IntKind.i64.wrap s0=s0:=wrap_i64 bs.1 bs.2;have w4:IntKind.i64.wrap x4=x4:=wrap_i64 b4.1 (by omega);have w5:IntKind.i64.wrap x5=x5:=wrap_i64 b5.1 (by omega);by_cases hs:x0=s0
  ·have hsb:(x0 !=s0)=false:=by simp [hs]
   have hsw:(x0 !=IntKind.i64.wrap s0)=false:=by rw [ws];exact hsb
   have HS:Hid (x0=s0):=hs;clear hs;cases hk:okK x4
   ·have he:E=4:=by rw [HE.out,if_pos HS.out,hk];rfl
    subst he;have hx:x4<1∨5<x4:=by simp [okK] at hk;omega
    clear hk;rcases hx with hx|hx
    all_goals
     go_enter Tryz.func95,Tryz.ntmps95
     go_wp2_with fail
     go_region_held3 (fun _=>True) (first|trivial|go_keep) (first
      |(go_at_call 96;refine (C0.out _ HB0.out.drew).mono ?_;rintro e w1 ⟨rfl,hb1⟩;have HB1:Hid (Below w.heap.size w w1):=HB0.out.drew.trans (hb1.mono HB0.out.size);have S1:Hid (Slot w1 w.heap.size _ _ _ _):=(S0.out.below (Below.refl _ _).drew).below hb1;clear hb1)
      |(go_at_call 42;refine (CS.out _ HB1.out).mono ?_;rintro e w2 ⟨rfl,hb2⟩;have HB2:Hid (Below w.heap.size w w2):=HB1.out.trans (hb2.mono HB1.out.size);have S2:Hid (Slot w2 w.heap.size _ _ _ _):=S1.out.below hb2;clear hb2))
     obtain ⟨⟨k0,k1,k2,k3⟩,f0,f1,f2,f3⟩:=S2.out;have k4:=L4.out _ HB2.out;go_wp2;clear k0 k1 k2 k3 f0 f1 f2 f3;obtain ⟨⟨q0,q1,q2,q3⟩,_⟩:=S2.out.wrote (.int .i64 0) (.int .i64 0) (.int .i64 0) (.slice none 0 0);refine bodyPost_ret (v:=.tuple #[.agg #[.int .i64 0,.int .i64 0,.int .i64 0,.slice none 0 0],.int .i64 4]) ?_ rfl ⟨_,rfl,HNO.out (by decide),below_wrote HB2.out (Nat.le_refl _) _ _ _ _⟩;simp [results,Tryz.results95,go_sem,q0,q1,q2,q3]
   ·have he:E=0:=by rw [HE.out,if_pos HS.out,hk];rfl
    subst he;have hp:=HYES.out rfl;subst hp;have hx:1≤x4∧x4≤5:=by simpa [okK] using hk
    obtain ⟨hx1,hx2⟩:=hx;clear hk;go_enter Tryz.func95,Tryz.ntmps95
    go_wp2_with fail
    go_region_held3 (fun _=>True) (first|trivial|go_keep) (first
     |(go_at_call 96;refine (C0.out _ HB0.out.drew).mono ?_;rintro e w1 ⟨rfl,hb1⟩;have HB1:Hid (Below w.heap.size w w1):=HB0.out.drew.trans (hb1.mono HB0.out.size);have S1:Hid (Slot w1 w.heap.size _ _ _ _):=(S0.out.below (Below.refl _ _).drew).below hb1;clear hb1)
     |(go_at_call 42;refine (CS.out _ HB1.out).mono ?_;rintro e w2 ⟨rfl,hb2⟩;have HB2:Hid (Below w.heap.size w w2):=HB1.out.trans (hb2.mono HB1.out.size);have S2:Hid (Slot w2 w.heap.size _ _ _ _):=S1.out.below hb2;clear hb2))
    have k4:=L4.out _ HB2.out;have k5:=L5.out _ HB2.out;go_wp2
    go_region_held3 (fun w'=>w'.cell? ⟨b,off+4,none⟩=some (.int .u8 x4)∧w'.cell? ⟨b,off+5,none⟩=some (.int .u8 x5)) (first|exact ⟨L4.out _ HB2.out.drew,L5.out _ HB2.out.drew⟩|exact ⟨L4.out _ HB3.out,L5.out _ HB3.out⟩|exact ⟨L4.out _ HB4.out,L5.out _ HB4.out⟩|exact ⟨L4.out _ (below_wrote HB4.out (Nat.le_refl _) _ _ _ _),L5.out _ (below_wrote HB4.out (Nat.le_refl _) _ _ _ _)⟩|go_keep) (first
     |(go_at_call 96;refine (C6.out _ HB2.out.drew).mono ?_;rintro e w3 ⟨rfl,hb3⟩;have HB3:Hid (Below w.heap.size w w3):=HB2.out.drew.trans (hb3.mono HB2.out.size);have S3:Hid (Slot w3 w.heap.size _ _ _ _):=(S2.out.below (Below.refl _ _).drew).below hb3;clear hb3)
     |(go_at_call 40;refine (CC.out _ HB3.out).mono ?_;rintro e w4 ⟨g,c,rfl,ho,hb4⟩;have HB4:Hid (Below w.heap.size w w4):=HB3.out.trans (hb4.mono HB3.out.size);have S4:Hid (Slot w4 w.heap.size _ _ _ _):=S3.out.below hb4;have HO:Hid (Own w3.heap.size w4 (.slice g 248 c) (zs.drop 8)):=ho;have HS4:Hid (w.heap.size<w3.heap.size):=block_lt_of_cell S3.out.1.1;clear hb4 ho;obtain ⟨⟨k0,k1,k2,k3⟩,f0,f1,f2,f3⟩:=S4.out))
    go_wp2;clear k0 k1 k2 k3 f0 f1 f2 f3;obtain ⟨⟨q0,q1,q2,q3⟩,_⟩:=S4.out.wrote (.int .i64 x4) (.int .i64 x5) (.int .i64 x6) (.slice g 248 c);refine bodyPost_ret (v:=.tuple #[.agg #[.int .i64 x4,.int .i64 x5,.int .i64 x6,.slice g 248 c],.int .i64 0]) ?_ rfl ⟨_,rfl,⟨_,rfl,?_⟩,below_wrote HB4.out (Nat.le_refl _) _ _ _ _⟩
    ·simp [results,Tryz.results95,go_sem,q0,q1,q2,q3]
    ·exact (HO.out.keep (fun j hj=>heap_wrote _ _ _ _ _ _ _ (by have:=HS4.out;omega))).weaken (Nat.le_of_lt HS4.out)
  ·have hsb:(x0 !=s0)=true:=by simpa using hs
   have hsw:(x0 !=IntKind.i64.wrap s0)=true:=by rw [ws];exact hsb
   have he:E=5:=by rw [HE.out,if_neg hs]
   subst he;clear hs;go_enter Tryz.func95,Tryz.ntmps95
   go_wp2_with fail
   go_region_held3 (fun _=>True) (first|trivial|go_keep) (first
    |(go_at_call 96;refine (C0.out _ HB0.out.drew).mono ?_;rintro e w1 ⟨rfl,hb1⟩;have HB1:Hid (Below w.heap.size w w1):=HB0.out.drew.trans (hb1.mono HB0.out.size);have S1:Hid (Slot w1 w.heap.size _ _ _ _):=(S0.out.below (Below.refl _ _).drew).below hb1;clear hb1)
    |(go_at_call 42;refine (CS.out _ HB1.out).mono ?_;rintro e w2 ⟨rfl,hb2⟩;have HB2:Hid (Below w.heap.size w w2):=HB1.out.trans (hb2.mono HB1.out.size);have S2:Hid (Slot w2 w.heap.size _ _ _ _):=S1.out.below hb2;clear hb2))
   obtain ⟨⟨k0,k1,k2,k3⟩,f0,f1,f2,f3⟩:=S2.out;go_wp2;clear k0 k1 k2 k3 f0 f1 f2 f3;obtain ⟨⟨q0,q1,q2,q3⟩,_⟩:=S2.out.wrote (.int .i64 0) (.int .i64 0) (.int .i64 0) (.slice none 0 0);refine bodyPost_ret (v:=.tuple #[.agg #[.int .i64 0,.int .i64 0,.int .i64 0,.slice none 0 0],.int .i64 5]) ?_ rfl ⟨_,rfl,HNO.out (by decide),below_wrote HB2.out (Nat.le_refl _) _ _ _ _⟩;simp [results,Tryz.results95,go_sem,q0,q1,q2,q3]
 ·have hv:opE zs=1:=by simp [opE,hl]
  have hp:=opened_no w.heap.size w zs (by omega);have hlb:((zs.length:Int) !=256)=true:=by simp;omega
  have hm:=Nat.le_trans h.2.1 h.2.2.1;unfold maxLen at hm;rw [hv];clear hv h hl;go_enter Tryz.func95,Tryz.ntmps95
  go_wp2;refine bodyPost_ret (v:=.tuple #[.agg #[.int .i64 0,.int .i64 0,.int .i64 0,.slice none 0 0],.int .i64 1]) ?_ rfl ⟨_,rfl,hp.alloc _,(Below.refl _ _).alloc (Nat.le_refl _) _⟩;simp [results,Tryz.results95,go_sem]
theorem getI_mid (A Z B:List Int) (p n:Int) (hz:Bys Z) (hp:p=A.length) (hn:n=Z.length) (h1:1≤Z.length) (h7:Z.length≤7):getI (A++(Z++B)) p n=num Z 0 Z.length:=by
 have hb:=num_bd7 hz 0 Z.length h7;unfold getI;rw [hp,hn,ins_yes h1 (by omega) (by simp),if_pos rfl,Int.toNat_natCast,Int.toNat_natCast,num_mid _ _ _ _ (Nat.le_refl _)];exact (cap_yes (by omega)).1
def padP (p:Pg):Pg:=⟨p.kind,p.level,p.count,p.body++List.replicate (248-p.body.length) 0⟩
theorem seal_parts (p:Pg):sealL p=nums 4 (crc (tailP p)).toNat++(nums 1 p.kind.toNat++(nums 1 p.level.toNat++(nums 2 p.count.toNat++(padP p).body))):=by
 unfold sealL tailP padP;simp only [List.append_assoc]
theorem numsZ {n X:Nat} (h:X<256^n):num (nums n X) 0 (nums n X).length=(X:Int):=by rw [nums_len];exact num_nums n X h
theorem open_seal {p:Pg} (hb:Bys p.body) (h:sealE p=0):opE (sealL p)=0∧opP (sealL p)=padP p:=by
 obtain ⟨ha,hl⟩:=sealE_zero h;obtain ⟨h1,h2,h3⟩:=argP_out ha;have hc:=crc_bd (tail_bys hb);have hlen:=seal_len hl
 have hd4:(sealL p).drop 4=tailP p:=by
  unfold sealL;rw [List.drop_append,nums_len,List.drop_of_length_le (by rw [nums_len];omega)];simp
 have g0:getI (sealL p) 0 4=crc (tailP p):=by
  have:=getI_mid [] (nums 4 (crc (tailP p)).toNat) (tailP p) 0 4 (nums_bys _ _) rfl (by rw [nums_len];rfl) (by rw [nums_len];omega) (by rw [nums_len];omega);rw [List.nil_append] at this;show getI (nums 4 (crc (tailP p)).toNat++tailP p) 0 4=_;rw [this,numsZ (by omega)];omega
 have g4:getI (sealL p) 4 1=p.kind:=by
  rw [seal_parts,getI_mid (nums 4 _) (nums 1 p.kind.toNat) _ 4 1 (nums_bys _ _) (by rw [nums_len];rfl) (by rw [nums_len];rfl) (by rw [nums_len];omega) (by rw [nums_len];omega),numsZ (by omega)];omega
 have g5:getI (sealL p) 5 1=p.level:=by
  rw [seal_parts,←List.append_assoc,getI_mid (nums 4 _++nums 1 p.kind.toNat) (nums 1 p.level.toNat) _ 5 1 (nums_bys _ _) (by simp [nums_len]) (by rw [nums_len];rfl) (by rw [nums_len];omega) (by rw [nums_len];omega),numsZ (by omega)];omega
 have g6:getI (sealL p) 6 2=p.count:=by
  rw [seal_parts,←List.append_assoc,←List.append_assoc,getI_mid ((nums 4 _++nums 1 p.kind.toNat)++nums 1 p.level.toNat) (nums 2 p.count.toNat) _ 6 2 (nums_bys _ _) (by simp [nums_len]) (by rw [nums_len];rfl) (by rw [nums_len];omega) (by rw [nums_len];omega),numsZ (by omega)];omega
 have hd8:(sealL p).drop 8=(padP p).body:=by
  rw [seal_parts,←List.append_assoc,←List.append_assoc,←List.append_assoc];have hl8:(((nums 4 (crc (tailP p)).toNat++nums 1 p.kind.toNat)++nums 1 p.level.toNat)++nums 2 p.count.toNat).length=8:=by simp [nums_len]
  rw [List.drop_append,hl8,List.drop_of_length_le (by omega)];simp
 have he:opE (sealL p)=0:=by
  unfold opE;rw [if_pos hlen,g0,hd4,if_pos rfl,g4,show okK p.kind=true from decide_eq_true h1];rfl
 refine ⟨he,?_⟩;unfold opP;rw [if_pos he,g4,g5,g6,hd8];rfl
theorem cut5 (raw:List Int) (hl:raw.length=256):∃A B C D F:List Int,raw=A++(B++(C++(D++F)))∧A.length=4∧B.length=1∧C.length=1∧D.length=2∧F.length=248:=by
 refine ⟨raw.take 4,(raw.drop 4).take 1,((raw.drop 4).drop 1).take 1,(((raw.drop 4).drop 1).drop 1).take 2,(((raw.drop 4).drop 1).drop 1).drop 2,?_,?_,?_,?_,?_,?_⟩
 ·simp only [List.take_append_drop]
 all_goals simp [hl]
theorem seal_open {raw:List Int} (hb:Bys raw) (h:opE raw=0):sealE (opP raw)=0∧sealL (opP raw)=raw∧Bys (opP raw).body∧(opP raw).body.length=248:=by
 have hp:opP raw=⟨getI raw 4 1,getI raw 5 1,getI raw 6 2,raw.drop 8⟩:=by unfold opP;rw [if_pos h]
 unfold opE at h;by_cases hl:raw.length=256
 ·rw [if_pos hl] at h;by_cases hs:getI raw 0 4=crc (raw.drop 4)
  ·rw [if_pos hs] at h;by_cases hk:okK (getI raw 4 1)=true
   ·have hk':1≤getI raw 4 1∧getI raw 4 1≤5:=of_decide_eq_true hk;obtain ⟨A,B,C,D,F,e,lA,lB,lC,lD,lF⟩:=cut5 raw hl;have bA:Bys A:=fun z hz=>hb z (by rw [e];simp [hz])
    have bB:Bys B:=fun z hz=>hb z (by rw [e];simp [hz])
    have bC:Bys C:=fun z hz=>hb z (by rw [e];simp [hz])
    have bD:Bys D:=fun z hz=>hb z (by rw [e];simp [hz])
    have bF:Bys F:=fun z hz=>hb z (by rw [e];simp [hz])
    have g0:getI raw 0 4=num A 0 A.length:=by
     have:=getI_mid [] A (B++(C++(D++F))) 0 4 bA rfl (by rw [lA];rfl) (by omega) (by omega);rw [List.nil_append] at this;rw [e];exact this
    have g4:getI raw 4 1=num B 0 B.length:=by
     rw [e,getI_mid A B _ 4 1 bB (by rw [lA];rfl) (by rw [lB];rfl) (by omega) (by omega)]
    have g5:getI raw 5 1=num C 0 C.length:=by
     rw [e,←List.append_assoc,getI_mid (A++B) C _ 5 1 bC (by rw [List.length_append,lA,lB];rfl) (by rw [lC];rfl) (by omega) (by omega)]
    have g6:getI raw 6 2=num D 0 D.length:=by
     rw [e,←List.append_assoc,←List.append_assoc,getI_mid ((A++B)++C) D _ 6 2 bD (by rw [List.length_append,List.length_append,lA,lB,lC];rfl) (by rw [lD];rfl) (by omega) (by omega)]
    have d4:raw.drop 4=B++(C++(D++F)):=by rw [e,List.drop_append,lA,List.drop_of_length_le (by omega)];simp
    have d8:raw.drop 8=F:=by
     rw [e,←List.append_assoc,←List.append_assoc,←List.append_assoc,List.drop_append,List.drop_of_length_le (by simp [lA,lB,lC,lD])];simp [lA,lB,lC,lD]
    have n1:nums 1 (num B 0 B.length).toNat=B:=by have:=nums_num bB;rwa [lB] at this ⊢
    have n2:nums 1 (num C 0 C.length).toNat=C:=by have:=nums_num bC;rwa [lC] at this ⊢
    have n3:nums 2 (num D 0 D.length).toNat=D:=by have:=nums_num bD;rwa [lD] at this ⊢
    have n0:nums 4 (num A 0 A.length).toNat=A:=by have:=nums_num bA;rwa [lA] at this ⊢
    have ht:tailP (opP raw)=raw.drop 4:=by
     rw [hp,d4];unfold tailP;dsimp only;rw [g4,g5,g6,d8,n1,n2,n3,lF];simp
    have b5:=num_bd bC 0 C.length;have b6:=num_bd bD 0 D.length;rw [lC] at b5;rw [lD] at b6;have e5:getI raw 5 1=num C 0 1:=by rw [g5,lC]
    have e6:getI raw 6 2=num D 0 2:=by rw [g6,lD]
    refine ⟨?_,?_,?_,?_⟩
    ·unfold sealE
     have:argP (opP raw)=true:=by
      rw [hp];refine decide_eq_true ⟨hk',?_,?_⟩
      ·show 0≤getI raw 5 1∧getI raw 5 1≤255;rw [e5];omega
      ·show 0≤getI raw 6 2∧getI raw 6 2≤65535;rw [e6];omega
     rw [if_pos this,if_pos (by rw [hp];show (raw.drop 8).length≤248;rw [d8];omega)]
    ·unfold sealL;rw [ht,←hs,g0,n0,d4,←e]
    ·rw [hp];show Bys (raw.drop 8);rw [d8];exact bF
    ·rw [hp];show (raw.drop 8).length=248;rw [d8];exact lF
   ·rw [if_neg hk] at h;exact absurd h (by decide)
  ·rw [if_neg hs] at h;exact absurd h (by decide)
 ·rw [if_neg hl] at h;exact absurd h (by decide)
structure Sp where
 g:Int
 p:Int
 r:Int
 h:Int
 b:Int
 l:Int
 s:Int
 f:Int
def sp0:Sp:=⟨0,0,0,0,0,0,0,0⟩
def spV (S:Sp):Value:=.agg #[.int .i64 S.g,.int .i64 S.p,.int .i64 S.r,.int .i64 S.h,.int .i64 S.b,.int .i64 S.l,.int .i64 S.s,.int .i64 S.f]
def ldB (p n:Int):Bool:=decide (n=0∨(2≤n∧n≤p-1))
def fitS (S:Sp) (k:Nat):Bool:=match k with
 |0=>decide (1≤S.g∧S.g≤1152921504606846976)
 |1=>decide (8≤S.p∧S.p≤4096)
 |2=>ldB S.p S.r
 |3=>decide ((0≤S.h∧S.h≤32)∧(S.h=0↔S.r=0))
 |4=>decide ((0≤S.b∧S.b≤1048576)∧(S.b=0↔S.r=0))
 |5=>decide (0≤S.l∧S.l≤S.b)
 |6=>ldB S.p S.s
 |_=>ldB S.p S.f
def okS (S:Sp):Bool:=fitS S 0&&fitS S 1&&fitS S 2&&fitS S 3&&fitS S 4&&fitS S 5&&fitS S 6&&fitS S 7
def atS (S:Sp) (k:Nat):Int:=match k with
 |0=>S.g
 |1=>S.p
 |2=>S.r
 |3=>S.h
 |4=>S.b
 |5=>S.l
 |6=>S.s
 |_=>S.f
def wdS (k:Nat):Nat:=match k with
 |0=>8
 |3=>2
 |_=>4
def ofS (k:Nat):Nat:=match k with
 |0=>0
 |1=>8
 |2=>12
 |3=>16
 |4=>18
 |5=>22
 |6=>26
 |7=>30
 |_=>34
theorem eight {k:Nat} (h:k<8):k=0∨k=1∨k=2∨k=3∨k=4∨k=5∨k=6∨k=7:=by omega
theorem ofS_next {k:Nat} (h:k<8):ofS (k+1)=ofS k+wdS k:=by
 rcases eight h with rfl|rfl|rfl|rfl|rfl|rfl|rfl|rfl<;>rfl
theorem wdS_bd (k:Nat):1≤wdS k∧wdS k≤8:=by
 unfold wdS;split<;>omega
theorem ofS_bd {k:Nat} (h:k<8):ofS k+wdS k≤34:=by
 rcases eight h with rfl|rfl|rfl|rfl|rfl|rfl|rfl|rfl<;>decide
theorem okS_all {S:Sp}:okS S=true↔∀k,k<8→fitS S k=true:=by
 unfold okS;simp only [Bool.and_eq_true];constructor
 ·rintro ⟨⟨⟨⟨⟨⟨⟨h0,h1⟩,h2⟩,h3⟩,h4⟩,h5⟩,h6⟩,h7⟩ k hk;rcases eight hk with rfl|rfl|rfl|rfl|rfl|rfl|rfl|rfl<;>assumption
 ·intro h;exact ⟨⟨⟨⟨⟨⟨⟨h 0 (by omega),h 1 (by omega)⟩,h 2 (by omega)⟩,h 3 (by omega)⟩,h 4 (by omega)⟩,h 5 (by omega)⟩,h 6 (by omega)⟩,h 7 (by omega)⟩
theorem okS_no {S:Sp} {k:Nat} (hk:k<8) (h:fitS S k=false):okS S=false:=by
 cases he:okS S
 ·rfl
 ·have:=okS_all.1 he k hk;rw [h] at this;cases this
theorem okS_bd {S:Sp} (h:okS S=true):(1≤S.g∧S.g≤1152921504606846976)∧(8≤S.p∧S.p≤4096)∧(0≤S.r∧S.r≤4095)∧(0≤S.h∧S.h≤32)∧(0≤S.b∧S.b≤1048576)∧(0≤S.l∧S.l≤1048576)∧(0≤S.s∧S.s≤4095)∧(0≤S.f∧S.f≤4095):=by
 have h':=okS_all.1 h;have h0:=of_decide_eq_true (h' 0 (by omega));have h1:=of_decide_eq_true (h' 1 (by omega));have h2:=of_decide_eq_true (h' 2 (by omega));have h3:=of_decide_eq_true (h' 3 (by omega));have h4:=of_decide_eq_true (h' 4 (by omega));have h5:=of_decide_eq_true (h' 5 (by omega));have h6:=of_decide_eq_true (h' 6 (by omega));have h7:=of_decide_eq_true (h' 7 (by omega));refine ⟨h0,h1,by omega,h3.1,h4.1,by omega,by omega,by omega⟩
theorem fit8 (x:Int):fitB 8 x=decide (0≤x∧x≤4611686018427387904):=by
 unfold fitB;rw [Bool.eq_iff_iff];simp only [decide_eq_true_eq,show (8:Int).toNat=8 from rfl,Int.pow_succ,Int.pow_zero];omega
theorem fit_all {S:Sp} (h:okS S=true) {k:Nat} (hk:k<8):fitB (wdS k:Nat) (atS S k)=true:=by
 obtain ⟨h0,h1,h2,h3,h4,h5,h6,h7⟩:=okS_bd h;rcases eight hk with rfl|rfl|rfl|rfl|rfl|rfl|rfl|rfl
 ·show fitB 8 S.g=true;rw [fit8];exact decide_eq_true (by omega)
 ·show fitB 4 S.p=true;rw [fit4];exact decide_eq_true (by omega)
 ·show fitB 4 S.r=true;rw [fit4];exact decide_eq_true (by omega)
 ·show fitB 2 S.h=true;rw [fit2];exact decide_eq_true (by omega)
 ·show fitB 4 S.b=true;rw [fit4];exact decide_eq_true (by omega)
 ·show fitB 4 S.l=true;rw [fit4];exact decide_eq_true (by omega)
 ·show fitB 4 S.s=true;rw [fit4];exact decide_eq_true (by omega)
 ·show fitB 4 S.f=true;rw [fit4];exact decide_eq_true (by omega)
def preS (S:Sp):Nat→List Int
 |0=>[]
 |k+1=>preS S k++nums (wdS k) (atS S k).toNat
theorem preS_len (S:Sp):∀k,k≤8→(preS S k).length=ofS k:=by
 intro k
 induction k with
 |zero=>intro _;rfl
 |succ k ih=>
  intro hk;rw [preS,List.length_append,nums_len,ih (by omega),ofS_next (by omega)]
theorem preS_bys (S:Sp):∀k,Bys (preS S k):=by
 intro k
 induction k with
 |zero=>intro z hz;cases hz
 |succ k ih=>exact ih.app (nums_bys _ _)
def shS (S:Sp) (k:Nat):List Int:=preS S k++List.replicate (248-ofS k) 0
theorem shS_len (S:Sp) {k:Nat} (h:k≤8):(shS S k).length=248:=by
 have:ofS k≤34:=by unfold ofS;split<;>omega
 unfold shS;rw [List.length_append,preS_len S k h,List.length_replicate];omega
theorem getI_nums (A B:List Int) (n X:Nat) (p m:Int) (hp:p=A.length) (hm:m=n) (h1:1≤n) (h8:n≤8) (hX:X<256^n) (hc:X≤4611686018427387904):getI (A++(nums n X++B)) p m=X∧getB (A++(nums n X++B)) p m=true:=by
 have hl:=nums_len n X
 have e:num (A++(nums n X++B)) A.length n=(X:Int):=by
  rw [num_mid _ _ _ _ (by omega),num_nums n X hX]
 unfold getI getB;rw [hp,hm,ins_yes h1 h8 (by simp [hl]),if_pos rfl,if_pos rfl,Int.toNat_natCast,Int.toNat_natCast,e];exact ⟨(cap_yes (by omega)).1,(cap_yes (by omega)).2⟩
def sdL (zs:List Int):Sp:=⟨getI zs 0 8,getI zs 8 4,getI zs 12 4,getI zs 16 2,getI zs 18 4,getI zs 22 4,getI zs 26 4,getI zs 30 4⟩
theorem pre_split (S:Sp) (B:List Int):∀d k,k+d=8→∃C,preS S 8++B=preS S k++C∧(0<d→∃C',C=nums (wdS k) (atS S k).toNat++C'):=by
 intro d
 induction d with
 |zero=>intro k hk;obtain rfl:k=8:=by omega
        exact ⟨B,rfl,fun h=>by omega⟩
 |succ d ih=>
  intro k hk;obtain ⟨C,hC,_⟩:=ih (k+1) (by omega);refine ⟨nums (wdS k) (atS S k).toNat++C,?_,fun _=>⟨C,rfl⟩⟩;rw [hC,preS,List.append_assoc]
theorem pow_nat (n:Nat):(256:Int)^n=((256^n:Nat):Int):=by
 induction n with
 |zero=>rfl
 |succ n ih=>rw [Int.pow_succ,Nat.pow_succ,ih,Int.natCast_mul];rfl
theorem get_at {S:Sp} (h:okS S=true) (B:List Int) {k:Nat} (hk:k<8):getI (preS S 8++B) (ofS k:Nat) (wdS k:Nat)=atS S k∧getB (preS S 8++B) (ofS k:Nat) (wdS k:Nat)=true:=by
 obtain ⟨C,hC,hC'⟩:=pre_split S B (8-k) k (by omega);obtain ⟨D,hD⟩:=hC' (by omega);have hf:=fit_all h hk;unfold fitB at hf;have hf':=of_decide_eq_true hf;rw [Int.toNat_natCast] at hf';have hw:=wdS_bd k;obtain ⟨X,hX⟩:=Int.eq_ofNat_of_zero_le hf'.1
 have hlt:X<256^wdS k:=by
  have:=hf'.2.2;rw [hX,pow_nat] at this;exact Int.ofNat_lt.1 this
 have:=getI_nums (preS S k) D (wdS k) (atS S k).toNat (ofS k:Nat) (wdS k:Nat) (by rw [preS_len S k (by omega)]) rfl hw.1 hw.2 (by rw [hX];exact hlt) (by omega);rw [hC,hD];refine ⟨this.1.trans (by omega),this.2⟩
theorem sdL_pre {S:Sp} (h:okS S=true) (B:List Int):sdL (preS S 8++B)=S:=by
 have g0:=(get_at h B (k:=0) (by omega)).1;have g1:=(get_at h B (k:=1) (by omega)).1;have g2:=(get_at h B (k:=2) (by omega)).1;have g3:=(get_at h B (k:=3) (by omega)).1;have g4:=(get_at h B (k:=4) (by omega)).1;have g5:=(get_at h B (k:=5) (by omega)).1;have g6:=(get_at h B (k:=6) (by omega)).1;have g7:=(get_at h B (k:=7) (by omega)).1;obtain ⟨a0,a1,a2,a3,a4,a5,a6,a7⟩:=S;unfold sdL;rw [Sp.mk.injEq];exact ⟨g0,g1,g2,g3,g4,g5,g6,g7⟩
def deB (P:Pg):Bool:=decide (P.kind=1∧P.level=0∧P.count=0)&&(nouB (P.body.drop 34)&&okS (sdL P.body))
def deE (zs:List Int):Int:=if opE zs=0 then (if deB (opP zs) then 0 else 4) else opE zs
def deS (zs:List Int):Sp:=if deE zs=0 then sdL (opP zs).body else sp0
def pgS (S:Sp):Pg:=⟨1,0,0,preS S 8⟩
def enE (S:Sp):Int:=if okS S then 0 else 1
def enZ (S:Sp):List Int:=if okS S then sealL (pgS S) else []
theorem pgS_ok (S:Sp):sealE (pgS S)=0:=by
 have hl:(pgS S).body.length=34:=preS_len S 8 (by omega);unfold sealE;rw [if_pos (show argP (pgS S)=true from rfl),if_pos (by omega)]
theorem seal_sh (S:Sp):sealE ⟨1,0,0,shS S 8⟩=0∧sealL ⟨1,0,0,shS S 8⟩=sealL (pgS S):=by
 have hl:=shS_len S (k:=8) (by omega);have hp:=preS_len S 8 (by omega)
 have e:tailP ⟨1,0,0,shS S 8⟩=tailP (pgS S):=by
  unfold tailP pgS;dsimp only;rw [hl,hp,show shS S 8=preS S 8++List.replicate (248-ofS 8) 0 from rfl,show ofS 8=34 from rfl,Nat.sub_self,List.replicate_zero,List.append_nil,←List.append_assoc]
 constructor
 ·unfold sealE;rw [if_pos (show argP ⟨1,0,0,shS S 8⟩=true from rfl),if_pos (show (shS S 8).length≤248 by omega)]
 ·unfold sealL;rw [e]
theorem nou_rep (n:Nat):nouB (List.replicate n 0)=true:=by
 unfold nouB;rw [List.all_eq_true];intro z hz;have:=List.eq_of_mem_replicate hz;simp [this]
theorem dec_enc {S:Sp} (h:okS S=true):opE (sealL (pgS S))=0∧opP (sealL (pgS S))=padP (pgS S)∧deE (sealL (pgS S))=0∧deS (sealL (pgS S))=S:=by
 obtain ⟨o1,o2⟩:=open_seal (p:=pgS S) (preS_bys S 8) (pgS_ok S);have hp:=preS_len S 8 (by omega);have hs:sdL (padP (pgS S)).body=S:=sdL_pre h _
 have hd:(padP (pgS S)).body.drop 34=List.replicate 214 0:=by
  show (preS S 8++List.replicate (248-(preS S 8).length) 0).drop 34=_;rw [List.drop_append,hp];rw [List.drop_of_length_le (by rw [hp];decide)];rfl
 have hB:deB (padP (pgS S))=true:=by
  unfold deB;rw [hs,h,hd,nou_rep];rfl
 have he:deE (sealL (pgS S))=0:=by
  unfold deE;rw [if_pos o1,o2,if_pos hB]
 refine ⟨o1,o2,he,?_⟩;unfold deS;rw [if_pos he,o2,hs]
theorem de_gen {zs:List Int} (h:deE zs=0):okS (deS zs)=true:=by
 have hs:deS zs=sdL (opP zs).body:=by unfold deS;rw [if_pos h]
 unfold deE at h;by_cases ho:opE zs=0
 ·rw [if_pos ho] at h;by_cases hB:deB (opP zs)=true
  ·unfold deB at hB;simp only [Bool.and_eq_true] at hB;rw [hs];exact hB.2.2
  ·rw [if_neg hB] at h;exact absurd h (by decide)
 ·rw [if_neg ho] at h;exact absurd h ho
end Go.Proofs.YtjllhcifmfhkmaaGreat.Oct
