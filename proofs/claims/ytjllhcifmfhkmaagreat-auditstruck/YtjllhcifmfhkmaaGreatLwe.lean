/-
  The law's Build: an image in memory, and its superblock.
-/
import Derived.Test.YtjllhcifmfhkmaaGreatLwb
import Derived.Test.YtjllhcifmfhkmaaGreatGp
import Derived.Test.YtjllhcifmfhkmaaGreatOg
import Derived.Test.YtjllhcifmfhkmaaGreatBv
namespace Go.Proofs.YtjllhcifmfhkmaaGreat.Oct
open Go.RowKit

theorem byt_ok {i tn : Nat} {z : Int} (h : szn z = tn) : bytE (txt i tn) = 0 ∧ (bytZ (txt i tn)).length = 256 := by
  subst h
  have hb := byt_txt i z
  have hs := szn_bd z
  refine ⟨by unfold bytE; rw [if_pos hb], ?_⟩
  unfold bytZ
  rw [if_pos hb]
  exact seal_len (by show (txt i (szn z)).length ≤ 248; rw [txt_len]; omega)
theorem byt_bys (i n : Nat) : Bys (bytZ (txt i n)) := by
  unfold bytZ
  split
  · exact seal_bys (txt_bys i n)
  · intro z hz
    cases hz

set_option maxHeartbeats 8000000 in
set_option maxRecDepth 20000 in
theorem build_v {w : World} {N m q c1 c2 : Nat} {a1 a2 : Option Addr} {zs st : List Int} {gen : Int} (hz : Row w a1 c1 zs) (hm : zs.length = m) (hst : Row w a2 c2 st) (hnil : a2 = none → c2 = 0) (hq : st.length = q) (h8 : 8 ≤ N) (hN : N ≤ 200) (hm4 : m ≤ 150) (_hq4 : q ≤ 1000) (hfit : m + (m + 19) / 20 + ned q + 4 ≤ N) :
    Calls Tryz.prog 13 #[.int .i64 (N : Nat), .slice a1 m c1, .slice a2 q c2, .int .i64 gen] w fun e w' => ∃ g c L S, e = .returned (.tuple #[.slice (some ⟨g, 0, none⟩) (N * 256) c, spV S]) ∧ Own w.heap.size w' (.slice (some ⟨g, 0, none⟩) (N * 256) c) L ∧ Snd N L S zs st ∧ Below w.heap.size w w' := by
  obtain ⟨i0, hi0, hz0, hz1, hz2⟩ := info_parts info5
  have hgen := and1023' gen
  obtain ⟨g0, hg0⟩ : ∃ g0, bits .and .i64 gen 1023 = g0 := ⟨_, rfl⟩
  rw [hg0] at hgen
  have hmN : (N : Int) * 256 = ((N * 256 : Nat) : Int) := by omega
  obtain ⟨n, hn⟩ : ∃ n, N * 256 = n := ⟨_, rfl⟩
  have HN : Hid (N * 256 = n) := hn
  rw [hn] at hmN ⊢
  have hn4 : n ≤ 51200 := by omega
  have hnm : n ≤ maxLen := by unfold maxLen; omega
  have HZ : Hid (Row w a1 c1 zs ∧ zs.length = m ∧ Row w a2 c2 st ∧ st.length = q) := ⟨hz, hm, hst, hq⟩
  clear hn hz hm hst hq
  go_enter Tryz.func13, Tryz.ntmps13
  go_wp2_with (at_make; refine wpList_make_full _ rfl _ _ 30 rfl w.heap.size 5 i0 (.int .u8 0) 1 Tryz.underlying30 hi0 hz0 hz1 .i64 .i64 _ _ n rfl rfl rfl rfl (by rw [hz2]; omega) hnm (by simp) ?_; intro w1 hown1 hgrow1; have hsz0 := heap_alloc_size w (.cells #[.int .i64 0, .int .i64 0, .int .i64 0, .int .i64 0, .int .i64 0, .int .i64 0, .int .i64 0, .int .i64 0] 28); rw [hsz0] at hown1 ⊢; have HO : Hid (Own w.heap.size w1 (.slice (some ⟨w.heap.size + 1, 0, none⟩) n n) (List.replicate n 0) ∧ Below (w.heap.size + 1) (w.alloc (.cells #[.int .i64 0, .int .i64 0, .int .i64 0, .int .i64 0, .int .i64 0, .int .i64 0, .int .i64 0, .int .i64 0] 28)) w1) := ⟨made_own hown1, (Below.refl _ _).grown hgrow1 (by rw [hsz0]; exact Nat.le_refl _) (by simp)⟩; clear hown1 hgrow1 hsz0)
  obtain ⟨w0, hw0⟩ : ∃ w0, w1.alloc (.cells #[.int .i64 (1 + g0), .int .i64 (N : Int), .int .i64 0, .int .i64 0, .int .i64 0, .int .i64 0, .int .i64 0, .int .i64 0] 28) = w0 := ⟨_, rfl⟩
  rw [hw0]
  obtain ⟨sb, hsb⟩ : ∃ sb, w1.heap.size = sb := ⟨_, rfl⟩
  rw [hsb]
  obtain ⟨gb, hgb⟩ : ∃ gb, w.heap.size + 1 = gb := ⟨_, rfl⟩
  rw [hgb] at HO ⊢
  obtain ⟨rb, hrb⟩ : ∃ rb, w.heap.size = rb := ⟨_, rfl⟩
  have HB0 : Hid (Below w.heap.size w w0 ∧ SpAt w0 sb ⟨1 + g0, (N : Int), 0, 0, 0, 0, 0, 0⟩ ∧ SpAt w0 w.heap.size sp0 ∧ BdI w.heap.size w0 w0 gb n n N zs 0 (.slice none 0 0) ∧ (sb < w0.heap.size ∧ gb < sb ∧ w.heap.size + 1 = gb)) := by
    have hgs := HO.out.1.lt2.2
    have hb1 : Below w.heap.size w w1 := ((Below.refl _ w).alloc (Nat.le_refl _) _).trans (HO.out.2.mono (by omega))
    have hsz : w0.heap.size = w1.heap.size + 1 := by rw [← hw0]; exact heap_alloc_size _ _
    have hold : ∀ k, k < w1.heap.size → w0.heap[k]? = w1.heap[k]? := fun k hk => by rw [← hw0]; exact heap_alloc_old w1 _ hk
    refine ⟨by rw [← hw0]; exact hb1.alloc hb1.size _, ?_, ?_, ⟨?_, ownC_nil .., Ch.refl _ _ _⟩, by omega, by omega, hgb⟩
    · rw [← hw0, ← hsb]
      exact heap_alloc_new w1 _
    · have : w1.heap[w.heap.size]? = _ := (HO.out.2.block w.heap.size (by omega)).trans (heap_alloc_new w _)
      exact (hold _ (by omega)).trans this
    · refine ⟨List.replicate n 0, HO.out.1.kept (hold gb hgs), ?_⟩
      rw [txP_zero, ← HN.out]
      exact im_zero N
  rw [hrb]
  have HRB : Hid (w.heap.size = rb) := hrb
  have HI0 : Hid (BdI w.heap.size w0 w0 gb n n N zs 0 (.slice none 0 0)) := HB0.out.2.2.2.1
  clear hw0 hsb hgb hrb HO hnm hmN hg0
  go_loopg [12, 13, 14] m (fun gh at' v i wr => ∃ k : Nat, k ≤ m ∧ gh = m - k ∧ at' = .int .i64 ((2 + k : Nat) : Int) ∧ i = .int .i64 (k : Int) ∧ Hid (BdI w.heap.size w0 wr gb n n N zs k v))
  case atStart => exact ⟨0, Nat.zero_le _, rfl, rfl, rfl, HI0.out⟩
  case round =>
    clear HI0
    obtain ⟨k, hk, hgk, rfl, rfl, HI⟩ := hrel
    have HGK : Hid (gk = m - k) := hgk
    clear hgk
    by_cases hlt : k < m
    · obtain ⟨wo, rfl⟩ : ∃ wo, wo = wr := ⟨_, rfl⟩
      obtain ⟨zb, zo, rfl, hzc⟩ : ∃ zb zo, a1 = some ⟨zb, zo, none⟩ ∧ ∀ i, i < zs.length → w.cell? ⟨zb, zo + i, none⟩ = some (.int .u8 (zs.getD i 0)) := by
        rcases HZ.out.1.2.2.2 with h | h
        · have := HZ.out.2.1; rw [h] at this; simp at this; omega
        · exact h
      have hzk := hzc k (by have := HZ.out.2.1; omega)
      have hzl : zb < w.heap.size := block_lt_of_cell hzk
      have ck : wo.cell? ⟨zb, zo + k, none⟩ = some (.int .u8 (zs.getD k 0)) := ((HI.out.ch.cell (p := ⟨zb, zo + k, none⟩) (by have := HB0.out.1.size; show zb < _; omega) (by have := HB0.out.2.2.2.2; show ¬ zb = gb; omega)).trans (HB0.out.1.cell (p := ⟨zb, zo + k, none⟩) hzl)).trans hzk
      have hzb := HZ.out.1.1.at k
      have hcc := HZ.out.1.2.1
      have hcc2 := HZ.out.1.2.2.1
      rw [HZ.out.2.1] at hcc
      unfold maxLen at hcc2
      obtain ⟨tn, htn⟩ : ∃ tn, szn (zs.getD k 0) = tn := ⟨_, rfl⟩
      have hbd := szn_bd (zs.getD k 0)
      have hz8 : 1 + (zs.getD k 0) % 8 = (tn : Int) := by rw [← htn]; unfold szn; omega
      rw [htn] at hbd
      have HTN : Hid (szn (zs.getD k 0) = tn) := htn
      obtain ⟨z, hz⟩ : ∃ z, zs.getD k 0 = z := ⟨_, rfl⟩
      rw [hz] at ck hzb hz8
      clear htn hz hzc hzk
      have hsw := HI.out.ch.size
      have hmx : tn ≤ maxLen := by unfold maxLen; omega
      go_wp2_with (at_make; refine wpList_make_full _ rfl _ _ 30 rfl wo.heap.size 5 i0 (.int .u8 0) 1 Tryz.underlying30 hi0 hz0 hz1 .i64 .i64 _ _ tn rfl rfl (by first | rfl | exact hz8) (by first | rfl | exact hz8) (by rw [hz2]; omega) hmx (Nat.le_refl _) ?_; intro w2 hown2 hgrow2; have HO2 : Hid (Own wo.heap.size w2 (.slice (some ⟨wo.heap.size, 0, none⟩) tn tn) (txK k tn 0) ∧ Below wo.heap.size wo w2) := ⟨(by rw [txK_zero]; exact made_own hown2), (Below.refl _ wo).grown hgrow2 (Nat.le_refl _) (by simp)⟩; clear hown2 hgrow2)
      obtain ⟨tb, htb⟩ : ∃ tb, wo.heap.size = tb := ⟨_, rfl⟩
      rw [htb] at HO2 ⊢
      have HTB : Hid (wo.heap.size = tb) := htb
      clear htb hmx ck hcc hcc2
      go_loopg [17] tn (fun gh j wx => ∃ y : Nat, y ≤ tn ∧ gh = tn - y ∧ j = .int .i64 (y : Int) ∧ Hid (Own tb wx (.slice (some ⟨tb, 0, none⟩) tn tn) (txK k tn y) ∧ Below tb wo wx))
      case atStart => exact ⟨0, Nat.zero_le _, rfl, rfl, HO2.out⟩
      case round =>
        clear HO2
        obtain ⟨y, hy, hgk, rfl, HJ⟩ := hrel
        have HGK2 : Hid (gk = tn - y) := hgk
        clear hgk
        by_cases hly : y < tn
        · obtain ⟨-, b1, b2, hst1⟩ := own_at' HJ.out.1 y (by rw [txK_len hy]; exact hly)
          have hset := txK_set (i := k) hly
          rw [txt_at hly] at hset
          obtain ⟨r20, hr20⟩ : ∃ r, k % 20 = r := ⟨_, rfl⟩
          have hk20 : (k : Int) % 20 = (r20 : Int) := by omega
          have hr19 : r20 ≤ 19 := by omega
          rw [hr20] at hset
          have hst2 := hst1 (97 + (r20 : Int))
          obtain ⟨-, b3, b4, hst3⟩ := own_at' hst2 y (by rw [List.length_set, txK_len hy]; exact hly)
          have hst4 := hst3 10
          rw [List.set_set] at hst4
          have hgt : ((txK k tn y).set y (97 + (r20 : Int))).getD y 0 = 97 + (r20 : Int) := by
            rw [List.getD_eq_getElem?_getD, List.getElem?_set_self (by rw [txK_len hy]; exact hly), Option.getD_some]
          rw [hgt] at b3
          obtain ⟨x0, hx0⟩ : ∃ x0, (txK k tn y).getD y 0 = x0 := ⟨_, rfl⟩
          rw [hx0] at b1
          by_cases h54 : (k + y) % 5 = 4
          · rw [if_pos h54] at hset
            rw [hset] at hst4
            have h5 : (((k : Int) + (y : Int)) % 5 == 4) = true := by rw [beq_iff_eq]; omega
            have HS : Hid _ := hst4
            have HJB : Hid (Below tb wo wr) := HJ.out.2
            clear hst1 hst2 hst3 hst4 hset hx0 hr20 hgt HJ
            go_wp2
            go_roundg (tn - (y + 1))
            case rel => exact ⟨y + 1, by omega, rfl, by go_num, (show _ ∧ _ from ⟨HS.out, (HJB.out.setCell (Nat.le_refl _) _).setCell (Nat.le_refl _) _⟩)⟩
            case measure => have := HGK2.out; omega
          · rw [if_neg h54] at hset
            rw [hset] at hst2
            have h5 : (((k : Int) + (y : Int)) % 5 == 4) = false := by rw [beq_eq_false_iff_ne]; omega
            have HS : Hid _ := hst2
            have HJB : Hid (Below tb wo wr) := HJ.out.2
            clear hst1 hst2 hst3 hst4 hset hx0 hr20 hgt HJ b3 b4
            go_wp2
            go_roundg (tn - (y + 1))
            case rel => exact ⟨y + 1, by omega, rfl, by go_num, (show _ ∧ _ from ⟨HS.out, HJB.out.setCell (Nat.le_refl _) _⟩)⟩
            case measure => have := HGK2.out; omega
        · obtain rfl : y = tn := by omega
          have hot := HJ.out.1
          rw [txK_all] at hot
          obtain ⟨hE, hL⟩ := byt_ok (i := k) HTN.out
          have hrt := (hot.row' (txt_bys _ _)).2
          have hby := rbytes_v (some ⟨tb, 0, none⟩) y y (txt k y) wr hrt (fun e => by cases e) (txt_len _ _) 0 hE (bytZ (txt k y)) rfl 256 hL
          go_wp2_with fail
          refine hby.mono ?_
          clear hby
          rintro e w4 ⟨gz, cz, rfl, hoz, hb4⟩
          have hgbt : gb < tb := by have := HTB.out; have := HB0.out.2.2.2.2; omega
          have htw : tb < wr.heap.size := hot.lt2.2
          have hb4s := hb4.size
          have hly2 := (HI.out.im.kept (w' := w4) ((hb4.block gb (by omega)).trans (HJ.out.2.block gb hgbt))).lay (by omega) (k := 2 + k) (by omega) (hoz.row' (byt_bys _ _)).2 hL (fun x e => by
            have := World.ownsRow.lt hoz x.block (by rw [e]; rfl)
            omega)
          rw [show (((2 + k : Nat) : Int)) = 2 + (k : Int) from by omega] at hly2
          have HB4 : Hid (Below tb wo w4 ∧ Row w4 (some ⟨tb, 0, none⟩) y (txt k y)) := ⟨HJ.out.2.trans (hb4.mono (by omega)), hrt.below hb4⟩
          clear hoz hb4 hot hrt HJ
          go_wp2_with fail
          refine (first_v gz 256 cz 0 w4).mono ?_
          rintro e w' ⟨rfl, rfl⟩
          go_wp2_with fail
          refine hly2.mono ?_
          clear hly2
          rintro e w5 ⟨rfl, him, hc5⟩
          have hlin := lines_v ((HB4.out.2).keep1 (hc5.block tb (by omega) (by omega))) (by rw [txt_len]; omega) (by rw [txt_len]; omega) (txt_len k y)
          have H5 : Hid (ImM w.heap.size w5 gb n n N (txP zs (k + 1)) ∧ OwnC 72 w0.heap.size w5 u13 (pcU zs k) ∧ Ch w0.heap.size (fun x => x = gb) w0 w5) := by
            have htbw := HTB.out
            refine ⟨?_, ?_, ?_⟩
            · rw [← txP_succ, HTN.out]
              exact him
            · refine owns_keep HI.out.pc (fun x hx => ?_)
              have hlx := World.ownsRow.lt HI.out.pc x hx
              have := HB0.out.2.2.2.2
              exact (hc5.block x (by omega) (by omega)).trans (HB4.out.1.block x (by omega))
            · exact (HI.out.ch.trans (Ch.of _ (HB4.out.1.mono (by omega)))).trans (hc5.mono (by omega) (fun _ _ h => h))
          obtain ⟨cq, hcq⟩ : ∃ cq, ((txt k y).count 10 : Nat) = cq := ⟨_, rfl⟩
          rw [hcq] at hlin
          have HQ : Hid (pcU zs k ++ [(⟨2 + (k : Int), 0, (y : Int), (cq : Int)⟩ : C4)] = pcU zs (k + 1)) := by
            show _ = _
            rw [pcU_succ]
            unfold pcA lin
            rw [HTN.out, hcq]
            congr 2
          have hs5 := H5.out.2.2.size
          have hcqb : cq ≤ y := by rw [← hcq]; exact Nat.le_trans List.count_le_length (by rw [txt_len]; exact Nat.le_refl _)
          clear hcq him hc5 HB4
          go_wp2_with fail
          refine hlin.mono ?_
          clear hlin
          rintro e w' ⟨rfl, rfl⟩
          go_wp2_with (at_builtin; refine append_c4n 29 72 Tryz.underlying29 infoP rfl _ _ rfl w0.heap.size u13 (pcU zs k) rfl (H5.out.2.1.below' ((Below.refl _ _).alloc (Nat.le_refl _) _)) ⟨2 + (k : Int), 0, (y : Int), (cq : Int)⟩ w'.heap.size rfl (at4_new w' ⟨2 + (k : Int), 0, (y : Int), (cq : Int)⟩ _) (by rw [pcU_len]; omega) (Nat.le_trans hs5 (by rw [heap_alloc_size]; omega)) k (pcU_len _ _) (pcU zs (k + 1)) HQ.out ?_; intro b7 c7 w7 ho7 hb7; have H7 : Hid (BdI w.heap.size w0 w7 gb n n N zs (k + 1) (.slice b7 (k + 1) c7)) := (by
            have hgs := HB0.out.2.2.2.2
            exact ⟨H5.out.1.kept ((hb7.block gb (by omega)).trans (heap_alloc_old w' _ (by omega))), ho7, (H5.out.2.2.alloc hs5 _).trans (Ch.of _ hb7)⟩); clear ho7 hb7)
          go_roundg (m - (k + 1))
          case rel => exact ⟨k + 1, by omega, rfl, by go_num, by go_num, H7.out⟩
          case measure => have := HGK.out; omega
    · obtain rfl : k = m := by omega
      obtain ⟨al, cl, hv, hrl, -⟩ := HI.out.pc.row (fun x hx => wfC_ok (pcU_ok zs (by omega) x hx))
      rw [pcU_len] at hv
      subst hv
      have hal : ∀ x, al = some x → w0.heap.size ≤ x.block ∧ x.block < wr.heap.size := fun x e => World.ownsRow.lt HI.out.pc x.block (by rw [e]; rfl)
      have hgsb := HB0.out.2.2.2.2
      have hgr := grow_v (b := 2 + k) HI.out.im (by omega) hrl (fun x e => by have := hal x e; omega) (pcU_ok zs (by omega)) (pcU_len zs k) hm4 (by omega) (by omega)
      rw [show (((2 + k : Nat) : Int)) = 2 + (k : Int) from by omega] at hgr
      have HRL : Hid (RowC wr al cl (pcU zs k) ∧ ∀ x, al = some x → w0.heap.size ≤ x.block ∧ x.block < wr.heap.size) := ⟨hrl, hal⟩
      have hsr := HI.out.ch.size
      have HSR : Hid (SpAt wr sb ⟨1 + g0, (N : Int), 0, 0, 0, 0, 0, 0⟩ ∧ SpAt wr rb sp0 ∧ Below w.heap.size w wr) := by
        have hr := HRB.out
        refine ⟨(HI.out.ch.block sb hgsb.1 (by omega)).trans HB0.out.2.1, ?_, HB0.out.1.trans ((HI.out.ch.mono HB0.out.1.size (fun _ _ h => h)).below (fun k e => by omega))⟩
        rw [← hr]
        exact (HI.out.ch.block w.heap.size (by omega) (by omega)).trans HB0.out.2.2.1
      clear hrl hal HI HGK hk hlt
      go_wp2_with fail
      refine hgr.mono ?_
      clear hgr
      rintro e w2 ⟨r, hh, b, P2, rfl, him2, htre, hble, hfar, hch2⟩
      rw [pcU_len] at hble
      have HS2 : Hid (SpAt w2 sb ⟨1 + g0, (N : Int), 0, 0, 0, 0, 0, 0⟩ ∧ SpAt w2 rb sp0 ∧ Below w.heap.size w w2 ∧ ImM w.heap.size w2 gb n n N P2) := by
        have hr := HRB.out
        have hsz := HSR.out.2.2.size
        refine ⟨(hch2.block sb (by omega) (by omega)).trans HSR.out.1, (hch2.block rb (by omega) (by omega)).trans HSR.out.2.1, HSR.out.2.2.trans ((hch2.mono hsz (fun _ _ h => h)).below (fun k e => by omega)), him2⟩
      have HT : Hid (Tre P2 (pcU zs k) (2 + k) r hh b ∧ (∀ j, (j < 2 + k ∨ b ≤ j) → P2 j = txP zs k j) ∧ Ch wr.heap.size (fun x => x = gb) wr w2) := ⟨htre, hfar, hch2⟩
      obtain ⟨-, -, z2, z3, -⟩ := HS2.out.1.cell
      have f2 := HS2.out.1.frz 2
      have f3 := HS2.out.1.frz 3
      have HS3 : Hid (SpAt ((w2.setCell ⟨sb, 2, none⟩ (.int .i64 (r : Int))).setCell ⟨sb, 3, none⟩ (.int .i64 (hh : Int))) sb ⟨1 + g0, (N : Int), (r : Int), (hh : Int), 0, 0, 0, 0⟩ ∧ Ch w2.heap.size (fun x => x = sb) w2 ((w2.setCell ⟨sb, 2, none⟩ (.int .i64 (r : Int))).setCell ⟨sb, 3, none⟩ (.int .i64 (hh : Int)))) := ⟨(HS2.out.1.set2 _).set3 _, ((Ch.refl _ (fun x => x = sb) w2).setCell (p := ⟨sb, 2, none⟩) (.inr rfl) _).setCell (p := ⟨sb, 3, none⟩) (.inr rfl) _⟩
      have hb2 : 2 + k ≤ b := by
        rcases htre with h | h | ⟨D, h⟩ <;> omega
      clear htre hfar hch2 him2 HSR
      go_wp2_with fail
      obtain ⟨w3, hw3⟩ : ∃ w3, (w2.setCell ⟨sb, 2, none⟩ (.int .i64 (r : Int))).setCell ⟨sb, 3, none⟩ (.int .i64 (hh : Int)) = w3 := ⟨_, rfl⟩
      rw [hw3] at HS3 ⊢
      have hs2r := HT.out.2.2.size
      have hs3 := HS3.out.2.size
      clear hw3 z2 z3 f2 f3
      have HJ0 : Hid (SpAt w3 sb ⟨1 + g0, (N : Int), (r : Int), (hh : Int), ((((pcU zs k).drop 0).take 0).map (·.c)).sum, ((((pcU zs k).drop 0).take 0).map (·.d)).sum, 0, 0⟩ ∧ Ch w3.heap.size (fun x => x = sb) w3 w3) := ⟨by simpa using HS3.out.1, Ch.refl _ _ _⟩
      go_loopg [18] k (fun gh i wx => ∃ y : Nat, y ≤ k ∧ gh = k - y ∧ i = .int .i64 (y : Int) ∧ Hid (SpAt wx sb ⟨1 + g0, (N : Int), (r : Int), (hh : Int), ((((pcU zs k).drop 0).take y).map (·.c)).sum, ((((pcU zs k).drop 0).take y).map (·.d)).sum, 0, 0⟩ ∧ Ch w3.heap.size (fun x => x = sb) w3 wx))
      case atStart => exact ⟨0, Nat.zero_le _, rfl, rfl, HJ0.out⟩
      case round =>
        clear HJ0
        obtain ⟨y, hy, hgk, rfl, HJ⟩ := hrel
        have HGK2 : Hid (gk = k - y) := hgk
        clear hgk
        by_cases hly : y < k
        · obtain ⟨n1, n2, n3, n4, n5, n6⟩ := part_next (l := pcU zs k) (i := 0) (k := y) (cn := k) (pcU_len zs k) hly (by omega) (pcU_ok zs (by omega))
          obtain ⟨lb, lo, rfl⟩ := HRL.out.1.some' (by rw [pcU_len]; omega)
          have hlb : w0.heap.size ≤ lb ∧ lb < _ := HRL.out.2 _ rfl
          have hAt := HRL.out.1.cells y (by rw [pcU_len]; exact hly)
          have hc1' := HRL.out.1.2.1
          have hc2' := HRL.out.1.2.2.1
          rw [pcU_len] at hc1'
          unfold maxLen at hc2'
          have hcell : ∀ o, wr.cell? ⟨lb, o, none⟩ = _ := fun o => (HJ.out.2.cell (p := ⟨lb, o, none⟩) (by show lb < _; omega) (by show ¬ lb = sb; omega)).trans ((HS3.out.2.cell (p := ⟨lb, o, none⟩) (by show lb < _; omega) (by show ¬ lb = sb; omega)).trans (HT.out.2.2.cell (p := ⟨lb, o, none⟩) hlb.2 (by show ¬ lb = gb; omega)))
          obtain ⟨-, -, ca2, ca3⟩ := hAt
          rw [← hcell] at ca2 ca3
          obtain ⟨-, -, -, -, k4, k5, -⟩ := HJ.out.1.cell
          have f4 := HJ.out.1.frz 4
          have f5 := HJ.out.1.frz 5
          rw [Nat.zero_add] at n1 n2 n3 n4
          have HS : Hid (SpAt ((wr.setCell ⟨sb, 4, none⟩ (.int .i64 (((((pcU zs k).drop 0).take y).map (·.c)).sum + ((pcU zs k).getD y c40).c))).setCell ⟨sb, 5, none⟩ (.int .i64 (((((pcU zs k).drop 0).take y).map (·.d)).sum + ((pcU zs k).getD y c40).d))) sb ⟨1 + g0, (N : Int), (r : Int), (hh : Int), ((((pcU zs k).drop 0).take (y + 1)).map (·.c)).sum, ((((pcU zs k).drop 0).take (y + 1)).map (·.d)).sum, 0, 0⟩ ∧ Ch w3.heap.size (fun x => x = sb) w3 ((wr.setCell ⟨sb, 4, none⟩ (.int .i64 (((((pcU zs k).drop 0).take y).map (·.c)).sum + ((pcU zs k).getD y c40).c))).setCell ⟨sb, 5, none⟩ (.int .i64 (((((pcU zs k).drop 0).take y).map (·.d)).sum + ((pcU zs k).getD y c40).d)))) := by
            rw [n1, n2]
            exact ⟨(HJ.out.1.set4 _).set5 _, (HJ.out.2.setCell (p := ⟨sb, 4, none⟩) (.inr rfl) _).setCell (p := ⟨sb, 5, none⟩) (.inr rfl) _⟩
          have hlsb : ¬ lb = sb := by omega
          clear n1 n2 hcell HJ
          simp only at k4 k5
          obtain ⟨sc, hsc⟩ : ∃ sc, ((((pcU zs k).drop 0).take y).map (·.c)).sum = sc := ⟨_, rfl⟩
          obtain ⟨sd, hsd⟩ : ∃ sd, ((((pcU zs k).drop 0).take y).map (·.d)).sum = sd := ⟨_, rfl⟩
          obtain ⟨xc, hxc⟩ : ∃ xc, ((pcU zs k).getD y c40).c = xc := ⟨_, rfl⟩
          obtain ⟨xd, hxd⟩ : ∃ xd, ((pcU zs k).getD y c40).d = xd := ⟨_, rfl⟩
          rw [hsc, hsd, hxc, hxd] at HS
          rw [hsc] at k4 n5
          rw [hsd] at k5 n6
          rw [hxc] at ca2 n3
          rw [hxd] at ca3 n4
          clear hsc hsd hxc hxd
          go_wp2_with fail
          go_region
          go_wp2_with fail
          go_region
          go_wp2
          go_roundg (k - (y + 1))
          case rel => exact ⟨y + 1, by omega, rfl, by go_num, (show _ ∧ _ from ⟨HS.out.1, HS.out.2.drew.drew⟩)⟩
          case measure => have := HGK2.out; omega
        · obtain rfl : y = k := by omega
          have hpl : (pcU zs y).drop 0 = pcU zs y := rfl
          have htk : ((pcU zs y).drop 0).take y = pcU zs y := by rw [hpl]; exact List.take_of_length_le (by rw [pcU_len]; exact Nat.le_refl _)
          obtain ⟨S3, hS3⟩ : ∃ S3, (⟨1 + g0, (N : Int), (r : Int), (hh : Int), ((pcU zs y).map (·.c)).sum, ((pcU zs y).map (·.d)).sum, 0, 0⟩ : Sp) = S3 := ⟨_, rfl⟩
          have HS4 : Hid (SpAt wr sb S3 ∧ SpAt wr rb sp0 ∧ Below w.heap.size w wr ∧ ImM w.heap.size wr gb n n N P2) := by
            have hr := HRB.out
            have hbs := HS2.out.2.2.1.size
            have hk1 : ∀ g, g < w2.heap.size → ¬ g = sb → wr.heap[g]? = w2.heap[g]? := fun g h1 h2 => (HJ.out.2.block g (by omega) h2).trans (HS3.out.2.block g h1 h2)
            refine ⟨?_, (hk1 rb (by omega) (by omega)).trans HS2.out.2.1, (HS2.out.2.2.1.trans ((HS3.out.2.mono hbs (fun _ _ h => h)).below (fun k e => by omega))).trans ((HJ.out.2.mono (by omega) (fun _ _ h => h)).below (fun k e => by omega)), HS2.out.2.2.2.kept (hk1 gb (by omega) (by omega))⟩
            have := HJ.out.1
            rw [htk, hS3] at this
            exact this
          have HS3E : Hid ((⟨1 + g0, (N : Int), (r : Int), (hh : Int), ((pcU zs y).map (·.c)).sum, ((pcU zs y).map (·.d)).sum, 0, 0⟩ : Sp) = S3) := hS3
          have hbl := blob_v (b := b) HS4.out.2.2.2 (by omega) (HZ.out.2.2.1.below HS4.out.2.2.1) hnil HZ.out.2.2.2 (by omega) (by omega)
          have hsb2 : sb < wr.heap.size := heap_lt HS4.out.1
          clear hpl htk hS3 HJ HGK2 hy hly
          obtain ⟨sv, hsv⟩ : ∃ sv : Int, (if q = 0 then (0 : Int) else ((b : Nat) : Int)) = sv := ⟨_, rfl⟩
          rw [hsv] at hbl
          have HSV : Hid ((if q = 0 then (0 : Int) else ((b : Nat) : Int)) = sv) := hsv
          clear hsv
          go_wp2_with fail
          refine hbl.mono ?_
          clear hbl
          rintro e w4 ⟨rfl, him4, hc4⟩
          have HS5 : Hid (SpAt w4 sb S3 ∧ SpAt w4 rb sp0 ∧ Below w.heap.size w w4 ∧ ImM w.heap.size w4 gb n n N (chaK P2 st b (ned q))) := by
            have hr := HRB.out
            have hbs := HS4.out.2.2.1.size
            exact ⟨(hc4.block sb hsb2 (by omega)).trans HS4.out.1, (hc4.block rb (by omega) (by omega)).trans HS4.out.2.1, HS4.out.2.2.1.trans ((hc4.mono hbs (fun _ _ h => h)).below (fun k e => by omega)), him4⟩
          obtain ⟨-, -, -, -, -, -, z6, -⟩ := HS5.out.1.cell
          have f6 := HS5.out.1.frz 6
          have HS6 : Hid (SpAt (w4.setCell ⟨sb, 6, none⟩ (.int .i64 sv)) sb { S3 with s := sv } ∧ SpAt (w4.setCell ⟨sb, 6, none⟩ (.int .i64 sv)) rb sp0 ∧ Below w.heap.size w (w4.setCell ⟨sb, 6, none⟩ (.int .i64 sv)) ∧ ImM w.heap.size (w4.setCell ⟨sb, 6, none⟩ (.int .i64 sv)) gb n n N (chaK P2 st b (ned q))) := by
            have hr := HRB.out
            have hk1 : ∀ g, ¬ g = sb → (w4.setCell ⟨sb, 6, none⟩ (.int .i64 sv)).heap[g]? = w4.heap[g]? := fun g h2 => Below.heap_setCell w4 ⟨sb, 6, none⟩ _ g h2
            exact ⟨HS5.out.1.set6 _, (hk1 rb (by omega)).trans HS5.out.2.1, HS5.out.2.2.1.setCell (by show _ ≤ sb; omega) _, HS5.out.2.2.2.kept (hk1 gb (by omega))⟩
          clear hc4 him4
          simp only [Int.natCast_add] at *
          go_upto_region 26 with fail
          obtain ⟨w5, hw5⟩ : ∃ w5, w4.setCell ⟨sb, 6, none⟩ (.int .i64 sv) = w5 := ⟨_, rfl⟩
          rw [hw5] at HS6 ⊢
          obtain ⟨fb, hfb⟩ : ∃ fb, b + ned q = fb := ⟨_, rfl⟩
          have hfbi : (b : Int) + (ned q : Int) = (fb : Int) := by omega
          have HFB : Hid (b + ned q = fb) := hfb
          rw [hfbi]
          obtain ⟨nb, hnb⟩ : ∃ nb, (N + 7) / 8 = nb := ⟨_, rfl⟩
          have HNB : Hid ((N + 7) / 8 = nb) := hnb
          have hq8 : ((N : Int) + 7) / 8 = (nb : Int) := by omega
          have hnb1 : 1 ≤ nb ∧ nb ≤ 25 := by omega
          have hned := @rNeed_any (nb : Int)
          rw [nedI_nat] at hned
          obtain ⟨nd, hnd⟩ : ∃ nd, ned nb = nd := ⟨_, rfl⟩
          have hnd1 : nd = 1 := by rw [← hnd]; unfold ned; omega
          rw [hnd] at hned
          have HND : Hid (ned nb = nd) := hnd
          have hmx : nb ≤ maxLen := by unfold maxLen; omega
          have hfbN : fb + nd ≤ N := by omega
          have HFN : Hid (nd = 1) := hnd1
          have hnd2 : nd ≤ 1 := by omega
          have hfb2 : fb ≤ 200 := by omega
          clear hw5 z6 f6 hfb hnb hnd hnd1 hfbi
          go_wp2_with (at_make; refine wpList_make_full _ rfl _ _ 30 rfl w5.heap.size 5 i0 (.int .u8 0) 1 Tryz.underlying30 hi0 hz0 hz1 .i64 .i64 _ _ nb rfl rfl (by first | rfl | exact hq8) (by first | rfl | exact hq8) (by rw [hz2]; omega) hmx (Nat.le_refl _) ?_; intro w6 hown6 hgrow6; have HO6 : Hid (Own w5.heap.size w6 (.slice (some ⟨w5.heap.size, 0, none⟩) nb nb) (bitsP (fun j => decide (j < 0)) N) ∧ Below w5.heap.size w5 w6) := ⟨(by rw [show (fun j => decide (j < 0)) = (fun _ => false) from by funext j; simp, bitsP_none, HNB.out]; exact made_own hown6), (Below.refl _ w5).grown hgrow6 (Nat.le_refl _) (by simp)⟩; clear hown6 hgrow6)
          refine (hned w6 (by omega) (by omega)).mono ?_
          rintro e w' ⟨rfl, rfl⟩
          obtain ⟨ub, hub⟩ : ∃ ub, w5.heap.size = ub := ⟨_, rfl⟩
          rw [hub] at HO6 ⊢
          have HUB : Hid (w5.heap.size = ub) := hub
          clear hub hned hmx
          obtain ⟨ce, hce⟩ : ∃ ce, fb + nd = ce := ⟨_, rfl⟩
          have hcei : (fb : Int) + (nd : Int) = (ce : Int) := by omega
          have HCE : Hid (fb + nd = ce) := hce
          have hceN : ce ≤ N := by omega
          clear hce
          go_wp2_with fail
          go_loopg [21] ce (fun gh i wx => ∃ x : Nat, x ≤ ce ∧ gh = ce - x ∧ i = .int .i64 (x : Int) ∧ Hid (Own ub wx (.slice (some ⟨ub, 0, none⟩) nb nb) (bitsP (fun j => decide (j < x)) N) ∧ Below ub w5 wx))
          case atStart => exact ⟨0, Nat.zero_le _, rfl, rfl, HO6.out⟩
          case round =>
            clear HO6
            obtain ⟨x, hx, hgk, rfl, HJ⟩ := hrel
            have HGK2 : Hid (gk = ce - x) := hgk
            clear hgk
            by_cases hlx : x < ce
            · obtain ⟨-, b1, b2, hst⟩ := own_at' HJ.out.1 (x / 8) (by rw [bitsP_len]; have := HNB.out; omega)
              have hyb := (bitsP_bys (fun j => decide (j < x)) N).at (x / 8)
              have hyn := bitsP_or (u := fun j => decide (j < x)) (v := fun j => decide (j < x + 1)) (n := N) (k := x) (by omega) (by simp) (fun i hi => decide_eq_decide.2 (by omega))
              obtain ⟨zz, hzz⟩ : ∃ zz, (bitsP (fun j => decide (j < x)) N).getD (x / 8) 0 = zz := ⟨_, rfl⟩
              rw [hzz] at b1 hyn hyb
              have hjl : x / 8 < nb := by have := HNB.out; omega
              obtain ⟨j, hj⟩ : ∃ j, x / 8 = j := ⟨_, rfl⟩
              have hkj : ((x : Int) / 8) = (j : Int) := by omega
              rw [hj] at b1 b2 hst hyn hjl
              obtain ⟨r8, hr⟩ : ∃ r, x % 8 = r := ⟨_, rfl⟩
              have hkr : ((x : Int) % 8) = (r8 : Int) := by omega
              have hr8 : r8 < 8 := by omega
              rw [hr] at hyn
              have HS : Hid _ := hst
              have HY : Hid _ := hyn
              have HJB : Hid (Below ub w5 wr) := HJ.out.2
              clear hst hyn hzz hj hr HJ
              go_wp2
              go_roundg (ce - (x + 1))
              case rel => exact ⟨x + 1, by omega, rfl, by go_num, (show _ ∧ _ from ⟨by rw [← HY.out]; exact HS.out _, HJB.out.setCell (Nat.le_refl _) _⟩)⟩
              case measure => have := HGK2.out; omega
            · obtain rfl : x = ce := by omega
              have HS7 : Hid (SpAt wr sb { S3 with s := sv } ∧ SpAt wr rb sp0 ∧ Below w.heap.size w wr ∧ ImM w.heap.size wr gb n n N (chaK P2 st b (ned q))) := by
                have hu := HUB.out
                have hs1 := heap_lt HS6.out.1
                have hs2 := heap_lt HS6.out.2.1
                have hs4 := HS6.out.2.2.2.lt.2.1
                exact ⟨(HJ.out.2.block sb (by omega)).trans HS6.out.1, (HJ.out.2.block rb (by omega)).trans HS6.out.2.1, HS6.out.2.2.1.trans (HJ.out.2.mono (by have := HS6.out.2.2.1.size; omega)), HS6.out.2.2.2.kept (HJ.out.2.block gb (by omega))⟩
              have hbl := blob_v (b := fb) (m := nb) HS7.out.2.2.2 (by omega) (HJ.out.1.row' (bitsP_bys _ _)).2 (fun e => by cases e) (by rw [bitsP_len, HNB.out]) (by have := HFB.out; omega) (by rw [HND.out]; omega)
              rw [if_neg (by omega : ¬ nb = 0)] at hbl
              have hsb7 := heap_lt HS7.out.1
              have hrb7 := heap_lt HS7.out.2.1
              clear HJ HGK2 hx hlx
              go_wp2_with fail
              refine hbl.mono ?_
              clear hbl
              rintro e w8 ⟨rfl, him8, hc8⟩
              have HS8 : Hid (SpAt w8 sb { S3 with s := sv } ∧ SpAt w8 rb sp0 ∧ Below w.heap.size w w8 ∧ ImM w.heap.size w8 gb n n N (chaK (chaK P2 st b (ned q)) (bitsP (fun j => decide (j < x)) N) fb (ned nb))) := by
                have hr := HRB.out
                have hbs := HS7.out.2.2.1.size
                exact ⟨(hc8.block sb hsb7 (by omega)).trans HS7.out.1, (hc8.block rb hrb7 (by omega)).trans HS7.out.2.1, HS7.out.2.2.1.trans ((hc8.mono hbs (fun _ _ h => h)).below (fun k e => by omega)), him8⟩
              obtain ⟨-, -, -, -, -, -, -, z7⟩ := HS8.out.1.cell
              have f7 := HS8.out.1.frz 7
              obtain ⟨S, hS⟩ : ∃ S, ({ S3 with s := sv, f := (fb : Int) } : Sp) = S := ⟨_, rfl⟩
              have HS9 : Hid (SpAt (w8.setCell ⟨sb, 7, none⟩ (.int .i64 (fb : Int))) sb S ∧ SpAt (w8.setCell ⟨sb, 7, none⟩ (.int .i64 (fb : Int))) rb sp0 ∧ Below w.heap.size w (w8.setCell ⟨sb, 7, none⟩ (.int .i64 (fb : Int))) ∧ ImM w.heap.size (w8.setCell ⟨sb, 7, none⟩ (.int .i64 (fb : Int))) gb n n N (chaK (chaK P2 st b (ned q)) (bitsP (fun j => decide (j < x)) N) fb (ned nb))) := by
                have hr := HRB.out
                have hk1 : ∀ g, ¬ g = sb → (w8.setCell ⟨sb, 7, none⟩ (.int .i64 (fb : Int))).heap[g]? = w8.heap[g]? := fun g h2 => Below.heap_setCell w8 ⟨sb, 7, none⟩ _ g h2
                have := HS8.out.1.set7 (fb : Int)
                rw [hS] at this
                exact ⟨this, (hk1 rb (by omega)).trans HS8.out.2.1, HS8.out.2.2.1.setCell (by show _ ≤ sb; omega) _, HS8.out.2.2.2.kept (hk1 gb (by omega))⟩
              have HSE : Hid ((⟨1 + g0, (N : Int), (r : Int), (hh : Int), ((pcU zs y).map (·.c)).sum, ((pcU zs y).map (·.d)).sum, sv, (fb : Int)⟩ : Sp) = S) := by
                show _ = _
                rw [← hS, ← HS3E.out]
              have hok : okS S = true := by
                rw [← HSE.out]
                exact bd_okS HT.out.1 (by omega) h8 (by omega) hgen HFB.out (by have := HFN.out; omega) HSV.out
              have henz : enZ S = sealL (pgS S) := by unfold enZ; rw [if_pos hok]
              have hlen : (enZ S).length = 256 := by rw [henz]; exact seal_len (by show (preS S 8).length ≤ 248; rw [preS_len S 8 (Nat.le_refl _)]; decide)
              have hbyz : Bys (enZ S) := by rw [henz]; exact seal_bys (preS_bys S 8)
              have HOK : Hid (Bys (enZ S) ∧ (enZ S).length = 256) := ⟨hbyz, hlen⟩
              obtain ⟨w9, hw9⟩ : ∃ w9, w8.setCell ⟨sb, 7, none⟩ (.int .i64 (fb : Int)) = w9 := ⟨_, rfl⟩
              go_upto_region 34 with fail
              rw [hw9] at HS9
              have hen := rencode_v S w9 0 (by unfold enE; rw [if_pos hok]) (enZ S) rfl 256 hlen
              unfold spV at hen
              obtain ⟨a0, a1', a2', a3, a4, a5, a6, a7⟩ := HS9.out.1.cell
              clear hS hw9 z7 f7 hc8 him8 hok henz hlen hbyz
              go_wp2_with fail
              refine hen.mono ?_
              clear hen
              rintro e w10 ⟨gz, cz, rfl, hoz, hb10⟩
              have hsb9 := heap_lt HS9.out.1
              have hrb9 := heap_lt HS9.out.2.1
              have hgb9 := HS9.out.2.2.2.lt.2.1
              have hb10s := hb10.size
              have hly := (HS9.out.2.2.2.kept (w' := w10) (hb10.block gb hgb9)).lay (by omega) (k := 0) (by omega) (hoz.row' HOK.out.1).2 HOK.out.2 (fun x e => by
                have := World.ownsRow.lt hoz x.block (by rw [e]; rfl)
                omega)
              rw [show (((0 : Nat) : Int)) = 0 from rfl] at hly
              have HS10 : Hid (SpAt w10 sb S ∧ SpAt w10 rb sp0 ∧ Below w.heap.size w w10) := ⟨(hb10.block sb hsb9).trans HS9.out.1, (hb10.block rb hrb9).trans HS9.out.2.1, HS9.out.2.2.1.trans (hb10.mono HS9.out.2.2.1.size)⟩
              clear hoz hb10
              go_wp2_with fail
              refine (first_v gz 256 cz 0 w10).mono ?_
              rintro e w' ⟨rfl, rfl⟩
              go_wp2_with fail
              refine hly.mono ?_
              clear hly
              rintro e w11 ⟨rfl, him, hc11⟩
              have HS11 : Hid (SpAt w11 sb S ∧ SpAt w11 rb sp0 ∧ Below w.heap.size w w11 ∧ ImM w.heap.size w11 gb n n N (putP (chaK (chaK P2 st b (ned q)) (bitsP (fun j => decide (j < x)) N) fb (ned nb)) 0 (enZ S))) := by
                have hr := HRB.out
                have hbs := HS10.out.2.2.size
                exact ⟨(hc11.block sb (by omega) (by omega)).trans HS10.out.1, (hc11.block rb (by omega) (by omega)).trans HS10.out.2.1, HS10.out.2.2.trans ((hc11.mono hbs (fun _ _ h => h)).below (fun k e => by omega)), him⟩
              clear him hc11 a0 a1' a2' a3 a4 a5 a6 a7
              obtain ⟨a0, a1', a2', a3, a4, a5, a6, a7⟩ := HS11.out.1.cell
              obtain ⟨e0, e1, e2, e3, e4, e5, e6, e7⟩ := HS11.out.2.1.cell
              have g0' := HS11.out.2.1.frz 0
              have g1' := HS11.out.2.1.frz 1
              have g2' := HS11.out.2.1.frz 2
              have g3' := HS11.out.2.1.frz 3
              have g4' := HS11.out.2.1.frz 4
              have g5' := HS11.out.2.1.frz 5
              have g6' := HS11.out.2.1.frz 6
              have g7' := HS11.out.2.1.frz 7
              go_upto_region 35 with fail
              have HW : Hid (SpAt (wrS w11 rb S).drew rb S) := (HS11.out.2.1.wrS S).drew
              have HE : Hid (∃ g c L S', Ending.returned (.tuple #[.slice (some ⟨gb, 0, none⟩) n n, .agg #[.int .i64 S.g, .int .i64 S.p, .int .i64 S.r, .int .i64 S.h, .int .i64 S.b, .int .i64 S.l, .int .i64 S.s, .int .i64 S.f]]) = .returned (.tuple #[.slice (some ⟨g, 0, none⟩) n c, spV S']) ∧ Own w.heap.size (wrS w11 rb S).drew (.slice (some ⟨g, 0, none⟩) n c) L ∧ Snd N L S' zs st ∧ Below w.heap.size w (wrS w11 rb S).drew) := by
                obtain ⟨L, hoL, hiL⟩ := HS11.out.2.2.2
                have hx : x = fb + ned nb := by rw [HND.out, HCE.out]
                rw [hx] at hiL
                have hr := HRB.out
                refine ⟨gb, n, L, S, rfl, own_drew1 (hoL.kept (wrS_same w11 rb S gb (by omega))), ?_, (wrS_below HS11.out.2.2.1 (by omega) S).drew⟩
                exact (bd_make HT.out.1 HT.out.2.1 HZ.out.2.1 HZ.out.2.2.2 HZ.out.2.2.1.1 (by omega) h8 (by omega) hgen HFB.out HNB.out (by rw [HND.out]; omega) HSV.out HSE.out).snd hiL
              obtain ⟨wz, hwz⟩ : ∃ wz, (wrS w11 rb S).drew = wz := ⟨_, rfl⟩
              rw [hwz] at HW HE
              unfold wrS at hwz
              go_region
              go_wp2
              try rw [hwz]
              refine bodyPost_ret (results_tmprow rfl _ _ rb _ #[.int .i64 S.g, .int .i64 S.p, .int .i64 S.r, .int .i64 S.h, .int .i64 S.b, .int .i64 S.l, .int .i64 S.s, .int .i64 S.f] (0, 0) _ rfl HW.out Tryz.underlying28 rfl (by kernel_rfl)) rfl ?_
              exact HE.out
end Go.Proofs.YtjllhcifmfhkmaaGreat.Oct

/-
  The law's Build keeps what is asked of it.
-/
namespace Go.Proofs.YtjllhcifmfhkmaaGreat.Oct
open Go.RowKit

theorem buildC : BuildC := fun _ _ _ _ _ _ _ _ _ _ _ h1 h2 h3 h4 h5 h6 h7 h8 h9 h10 => build_v h1 h2 h3 h4 h5 h6 h7 h8 h9 h10
end Go.Proofs.YtjllhcifmfhkmaaGreat.Oct
