/-
  A pool's device, read; the statements' awake.
-/
import Derived.Test.YtojckbhbnalkeaaIr
import Derived.Test.YtojckbhbnalkeaaSm
namespace Go.Proofs.Ytojckbhbnalkeaa.Oct
open Go.RowKit

section
variable {w : World} {p d N : Nat} {F : Nat → Prop} {D : Dv} {L : List Fr}

theorem Pool_read (h : Pool w p d F D N L) (hops : D.ops ≤ 4611686018427387904) (pg : Nat) (hpg : pg < D.n) :
    Calls Try.prog 12 #[.pointer (some ⟨d, 0, none⟩), .int .i64 pg] w fun x w' => ReadEnd D pg w x w' ∧ Pool w' p d F (readD D) N L ∧ Ch w.heap.size F w w' := by
  obtain ⟨Fd, m, e, bs, fr, ol, nw, h, rfl⟩ := h
  refine (read_any h.dev hops pg hpg).mono ?_
  rintro x w1 ⟨hx, h1, h2⟩
  refine ⟨hx, ⟨Fd, m, e, bs, fr, ol, nw, ⟨h1, ?_, h.fd, h.fp, fun k hk => Nat.lt_of_lt_of_le (h.flt k hk) h2.size⟩, rfl⟩, h2.mono (Nat.le_refl _) (fun k _ hk => (h.fd k hk).1)⟩
  rw [readD_n]
  exact h.pool.keep (fun g hg => h2.block g (h.flt g (h.fp g hg)) (fun e1 => (h.fd g e1).2 hg))
end

theorem Row.step {w w' : World} {g o c : Nat} {zs : List Int} {F F' : Nat → Prop} (h : Row w (some ⟨g, o, none⟩) c zs) (hF : ¬ F g) (hg : g < w.heap.size) (st : Step F F' w w') : Row w' (some ⟨g, o, none⟩) c zs ∧ ¬ F' g ∧ g < w'.heap.size :=
  ⟨h.ch st.1 (fun x hx => by cases hx; exact hF), fun e1 => by rcases st.2 g e1 with e2 | e2; exact hF e2; omega, Nat.lt_of_lt_of_le hg st.1.size⟩

theorem Row.chF {w w' : World} {g o c : Nat} {zs : List Int} {F : Nat → Prop} (h : Row w (some ⟨g, o, none⟩) c zs) (hF : ¬ F g) (st : Ch w.heap.size F w w') : Row w' (some ⟨g, o, none⟩) c zs :=
  h.ch st (fun x hx => by cases hx; exact hF)

theorem Step.of {F : Nat → Prop} {w w' : World} (h : Ch w.heap.size F w w') : Step F F w w' := ⟨h, fun _ h => .inl h⟩
theorem Step.ofB {F : Nat → Prop} {w w' : World} (h : Below w.heap.size w w') : Step F F w w' := Step.of (Ch.of F h)

theorem pgs_len (fill n : Int) : (pgL (pgB fill n)).length = 256 := pgL_len _
theorem pgs_bys (fill n : Int) : Bys (pgL (pgB fill n)) := by unfold pgL; exact fl_bys (fun i => pgB_by fill n i) _

theorem bit15' (s : Nat) (h : s < 4) : bitAt 15 s = true := by
  have : s = 0 ∨ s = 1 ∨ s = 2 ∨ s = 3 := by omega
  rcases this with rfl | rfl | rfl | rfl <;> rfl
theorem onto_at' (L : List Int) (pg : Nat) (b : List Int) (i : Nat) (hi : i < L.length) : (onto L pg b 15).getD i 0 = if i / 256 = pg then b.getD (i % 256) 0 else L.getD i 0 := by
  unfold onto
  rw [ontoS_at _ _ _ _ _ _ hi]
  have e : (i % 256 / 64 < 4) = True := eq_true (by omega)
  have e2 : (bitAt 15 (i % 256 / 64) = true) = True := eq_true (bit15' _ (by omega))
  simp only [e, e2, and_true]
theorem pageOf_at' (L : List Int) (pg i : Nat) (hi : i < 256) : (pageOf L pg).getD i 0 = L.getD (pg * 256 + i) 0 := by
  simp [pageOf, List.getD_eq_getElem?_getD, hi, List.getElem?_drop]
/-- A page behind a write. -/
theorem pageOf_onto {L b : List Int} {pg q : Nat} (hL : pg * 256 + 256 ≤ L.length) (hq : q * 256 + 256 ≤ L.length) (hb : b.length = 256) : pageOf (onto L pg b 15) q = if q = pg then b else pageOf L q := by
  have hl : (pageOf (onto L pg b 15) q).length = 256 := pageOf_len (by rw [onto_len]; exact hq)
  refine eq_of_getD ?_ fun i hi => ?_
  · rw [hl]; split
    · exact hb.symm
    · exact (pageOf_len hq).symm
  rw [hl] at hi
  rw [pageOf_at' _ _ _ hi, onto_at' _ _ _ _ (by omega)]
  by_cases h : q = pg
  · subst h
    rw [if_pos (by omega), if_pos rfl]
    congr 1
    omega
  · rw [if_neg (by omega), if_neg h, pageOf_at' _ _ _ hi]

/-- A device that is well: no fuse, no outcomes, alive. -/
structure Well (D : Dv) : Prop where
  dead : D.dead = false
  fuse : D.fuse = -1
  out : D.out = []

theorem Well.new (L : List Int) : Well (newD L) := ⟨rfl, rfl, rfl⟩
theorem Well.says {D : Dv} (h : Well D) : saysD D = 0 := by simp [saysD, h.dead, h.fuse, oc, h.out]
theorem Well.tells {D : Dv} (h : Well D) : tellsD D = true := by simp [tellsD, h.dead, h.fuse, oc, h.out]
theorem Well.writeE {D : Dv} (h : Well D) (pg : Nat) (b : List Int) : writeD D pg b = wrD (opD D) pg b := by simp [writeD, h.dead, h.fuse, oc, h.out]
theorem Well.readE {D : Dv} (h : Well D) : readD D = opD D := by simp [readD, h.dead, h.fuse]
theorem Well.op {D : Dv} (h : Well D) : Well (opD D) := ⟨h.dead, by simp [opD, h.fuse], by simp [opD, h.out]⟩
theorem Well.write {D : Dv} (h : Well D) (pg : Nat) (b : List Int) : Well (writeD D pg b) := by rw [h.writeE]; exact ⟨h.op.dead, h.op.fuse, h.op.out⟩
theorem Well.read {D : Dv} (h : Well D) : Well (readD D) := by rw [h.readE]; exact h.op
theorem Well.writeNow {D : Dv} (h : Well D) (pg : Nat) (b : List Int) : (writeD D pg b).now = onto D.now pg b 15 := by rw [h.writeE]; rfl
theorem Well.readNow {D : Dv} (h : Well D) : (readD D).now = D.now := by rw [h.readE]; rfl

theorem srt_one (x : Int) : srt [x] = [x] := by simp [srt]

theorem fiP_none {L : List Fr} {x : Int} (h : ∀ f ∈ L, (f.page : Int) ≠ x) : ¬ fiP L x < L.length := by
  unfold fiP
  intro h1
  have := List.findIdx_getElem (w := h1)
  simp only [decide_eq_true_eq] at this
  exact h _ (List.getElem_mem h1) this

/-- awake, plainly. -/
theorem aw_put (D : Dv) (b : List Int) : usE D 8 [] 3 false = 0 ∧ usD D 8 [] 3 false = D ∧ ptL D 8 [] 3 b = [⟨3, b, true, 0⟩] := by
  refine ⟨by simp [usE, fiP, tkE], by simp [usD, fiP, tkE, tkD], ?_⟩
  simp [ptL, usE, usL, fiP, tkE, tkL, lastUp]
theorem aw_pin (D : Dv) (b : List Int) : usE D 8 [⟨3, b, true, 0⟩] 3 true = 0 ∧ usD D 8 [⟨3, b, true, 0⟩] 3 true = D ∧ pnL D 8 [⟨3, b, true, 0⟩] 3 = [⟨3, b, true, 1⟩] ∧ pnB D 8 [⟨3, b, true, 0⟩] 3 = b := by
  refine ⟨by simp [usE, fiP], by simp [usD, fiP], ?_, ?_⟩
  · simp [pnL, usE, usL, fiP, lastUp]
  · simp [pnB, usL, fiP]
theorem aw_unpin (b : List Int) : unE [⟨3, b, true, 1⟩] 3 = 0 ∧ unL [⟨3, b, true, 1⟩] 3 = [⟨3, b, true, 0⟩] := by
  simp [unE, unL, pinB, fiP]
theorem aw_flush {D : Dv} (h : Well D) (b : List Int) : flS (pgsP [⟨3, b, true, 0⟩] fitD) D [⟨3, b, true, 0⟩] = (0, writeD D 3 b, [⟨3, b, false, 0⟩]) := by
  have e : pgsP [⟨3, b, true, 0⟩] fitD = [3] := by
    unfold pgsP
    rw [show List.filter fitD [⟨3, b, true, 0⟩] = [⟨3, b, true, 0⟩] from rfl]
    exact srt_one 3
  rw [e]
  simp [flS, h.says, fiP]

set_option maxRecDepth 20000 in
set_option maxHeartbeats 4000000 in
theorem awake9_any (w : World) : Calls Try.prog 7 #[] w fun x w' => x = .returned (.bool true) ∧ Below w.heap.size w w' := by
  have hn := new_yes 16 w (by omega) (by omega)
  rw [show ((16 : Nat) : Int) = 16 from rfl] at hn
  have hwl : Well (newD (List.replicate (16 * 256) 0)) := Well.new _
  have hdn : (newD (List.replicate (16 * 256) 0)).n = 16 := by simp only [newD, List.length_replicate]
  have hdo : (newD (List.replicate (16 * 256) 0)).ops = 0 := rfl
  have hds : (newD (List.replicate (16 * 256) 0)).since = [] := rfl
  obtain ⟨D0, hD0⟩ : ∃ D0, newD (List.replicate (16 * 256) 0) = D0 := ⟨_, rfl⟩
  rw [hD0] at hn hwl hdn hdo hds
  clear hD0
  go_enter Try.func7, Try.ntmps7
  go_wp2_with fail
  refine hn.mono ?_
  clear hn
  rintro x w1 ⟨d, Fd, rfl, hd1, hb1, hFd⟩
  have hok := hd1.1
  have hpn := pNew_yes hd1 8 (by omega) (by omega)
  rw [show ((8 : Nat) : Int) = 8 from rfl] at hpn
  clear hd1
  go_wp2_with fail
  refine hpn.mono ?_
  clear hpn
  rintro x w2 ⟨p, F, rfl, hp2, hb2, hF2, _⟩
  have hFw : ∀ k, F k → w.heap.size ≤ k := fun k hk => by
    rcases hF2 k hk with e1 | e1
    · exact hFd k e1
    · have := hb1.size; omega
  have HB2 : Hid (Below w.heap.size w w2) := hb1.trans (hb2.mono hb1.size)
  have hpg := page_any 7 1 w2
  have HP2 : Hid (Pool w2 p d F D0 8 []) := hp2
  have HF2 : Hid (∀ k, F k → w.heap.size ≤ k) := hFw
  clear hp2 hF2 hb1 hb2 hFd hFw
  obtain ⟨b, hb⟩ : ∃ b, pgL (pgB 7 1) = b := ⟨_, rfl⟩
  have hbl : b.length = 256 := by rw [← hb]; exact pgs_len 7 1
  have hbb : Bys b := by rw [← hb]; exact pgs_bys 7 1
  rw [hb] at hpg
  clear hb
  go_wp2_with fail
  refine hpg.mono ?_
  clear hpg
  rintro x w3 ⟨rfl, ho3, hb3⟩
  have hp3 := HP2.out.below hb3
  have hl3 := ho3.lt2
  have hgF : ¬ F w2.heap.size := fun e1 => by have := HP2.out.lt _ e1; omega
  have hr3 := (ho3.row' hbb).2
  have hput := Put_any hp3 (by omega) (by rw [hds]; simp) 3 (by omega) w2.heap.size 0 256 b hbl hr3 hgF
  obtain ⟨u1, u2, u3⟩ := aw_put D0 b
  rw [u1, u2, u3, show ((3 : Nat) : Int) = 3 from rfl] at hput
  have HB3 : Hid (Below w.heap.size w w3) := HB2.out.trans (hb3.mono HB2.out.size)
  have HR3 : Hid (Row w3 (some ⟨w2.heap.size, 0, none⟩) 256 b) := hr3
  clear u1 u2 u3 hp3 hr3 ho3 hb3 HP2 HB2
  go_wp2_with fail
  refine hput.mono ?_
  clear hput
  rintro x w4 ⟨rfl, F4, hp4, st4⟩
  obtain ⟨hr4, hF4, hl4⟩ := HR3.out.step hgF hl3.2 st4
  have sb4 := st4.below HB3.out.size HF2.out
  have HB4 : Hid (Below w.heap.size w w4) := HB3.out.trans sb4.1
  have HF4 : Hid (∀ k, F4 k → w.heap.size ≤ k) := sb4.2
  have hpin := Pin_any hp4 (by omega) (by rw [hds]; simp) (by simp) 3 (by omega)
  obtain ⟨u1, u2, u3, u4⟩ := aw_pin D0 b
  rw [show ((3 : Nat) : Int) = 3 from rfl, u2, u3] at hpin
  have HR4 : Hid (Row w4 (some ⟨w2.heap.size, 0, none⟩) 256 b) := hr4
  clear hp4 st4 sb4 hr4 HR3 HB3 HF2 u2 u3 hgF hl3
  go_wp2_with fail
  refine hpin.mono ?_
  clear hpin
  rintro x w5 ⟨hx5, F5, hp5, st5⟩
  unfold PinR at hx5
  rw [u1, u4] at hx5
  rcases hx5 with ⟨-, g5, c5, rfl, ho5⟩ | ⟨hx5, -⟩
  · obtain ⟨hr5, hF5, hl5⟩ := HR4.out.step hF4 hl4 st5
    have sb5 := st5.below HB4.out.size HF4.out
    have HB5 : Hid (Below w.heap.size w w5) := HB4.out.trans sb5.1
    have HF5 : Hid (∀ k, F5 k → w.heap.size ≤ k) := sb5.2
    have hsm := same_any _ _ 256 c5 b b w5 hr5 (ho5.row' hbb).2
    rw [hbl, show sameB b b = true by simp [sameB]] at hsm
    have HP5 : Hid (Pool w5 p d F5 D0 8 [⟨3, b, true, 1⟩]) := hp5
    have HR5 : Hid (Row w5 (some ⟨w2.heap.size, 0, none⟩) 256 b) := hr5
    clear hp5 st5 sb5 hr5 HR4 HB4 HF4 u1 u4 hF4 hl4 ho5
    go_wp2_with fail
    refine hsm.mono ?_
    clear hsm
    rintro x w6 ⟨rfl, hb6⟩
    have hp6 := HP5.out.below hb6
    have hpd := Pinned_any hp6
    rw [show (List.filter fitP [⟨3, b, true, 1⟩]).length = 1 by simp [fitP]] at hpd
    have HB6 : Hid (Below w5.heap.size w5 w6) := hb6
    clear hp6 hb6
    go_wp2_with fail
    refine hpd.mono ?_
    clear hpd
    rintro x w7 ⟨rfl, hb7⟩
    have hb57 := HB6.out.trans (hb7.mono HB6.out.size)
    have hp7 := HP5.out.below hb57
    have hun := Unpin_any hp7 (by simp) 3 (by decide)
    obtain ⟨u1, u2⟩ := aw_unpin b
    rw [u1, u2] at hun
    have HB7 : Hid (Below w5.heap.size w5 w7) := hb57
    clear hp7 hb7 hb57 u1 u2 HB6
    go_wp2_with fail
    refine hun.mono ?_
    clear hun
    rintro x w8 ⟨rfl, hp8, hc8⟩
    have hfl := Flush_any hp8 (by omega) (by rw [hds]; simp)
    rw [aw_flush hwl] at hfl
    have st8 : Step F5 F5 w5 w8 := (Step.ofB HB7.out).trans (Step.of hc8)
    have HS8 : Hid (Step F5 F5 w5 w8) := st8
    clear hp8 hc8 HB7 st8 HP5
    go_wp2_with fail
    refine hfl.mono ?_
    clear hfl
    rintro x w9 ⟨rfl, F9, hp9, st9⟩
    have st59 := HS8.out.trans st9
    obtain ⟨hr9, hF9, hl9⟩ := HR5.out.step hF5 hl5 st59
    have sb9 := st59.below HB5.out.size HF5.out
    have HB9 : Hid (Below w.heap.size w w9) := HB5.out.trans sb9.1
    have sb9' : Hid (∀ k, F9 k → w.heap.size ≤ k) := sb9.2
    have hwo := writeD_ops D0 3 b
    have hrd := Pool_read hp9 (by show (writeD D0 3 b).ops ≤ _; omega) 3 (by show 3 < (writeD D0 3 b).n; rw [writeD_n]; omega)
    rw [show ((3 : Nat) : Int) = 3 from rfl] at hrd
    have hnow : pageOf (writeD D0 3 b).now 3 = b := by
      have := hok.now
      rw [hwl.writeNow, pageOf_onto (by omega) (by omega) hbl, if_pos rfl]
    have ht := (hwl.write 3 b).tells
    have HR9 : Hid (Row w9 (some ⟨w2.heap.size, 0, none⟩) 256 b) := hr9
    clear hp9 st9 st59 hr9 HR5 sb9 HS8
    go_wp2_with fail
    refine hrd.mono ?_
    clear hrd
    rintro x w10 ⟨hx, _, hc10⟩
    unfold ReadEnd at hx
    rw [if_pos ht, hnow] at hx
    obtain ⟨g, c, rfl, ho⟩ := hx
    have hr10 := HR9.out.chF hF9 hc10
    have hF9' : ∀ k, F9 k → w.heap.size ≤ k := fun k hk => sb9'.out k hk
    have HB10 : Hid (Below w.heap.size w w10) := HB9.out.trans ((hc10.mono HB9.out.size (fun _ _ e => e)).below hF9')
    have hsm := same_any _ _ 256 c b b w10 hr10 (ho.row' hbb).2
    rw [hbl, show sameB b b = true by simp [sameB]] at hsm
    clear hr10 hc10 HR9 hnow ht ho
    go_wp2_with fail
    refine hsm.mono ?_
    clear hsm
    rintro x w11 ⟨rfl, hb11⟩
    have HB11 : Hid (Below w.heap.size w w11) := HB10.out.trans (hb11.mono HB10.out.size)
    clear hb11
    go_wp2
    go_ret
    exact ⟨rfl, HB11.out⟩
  · exact absurd rfl hx5
end Go.Proofs.Ytojckbhbnalkeaa.Oct
