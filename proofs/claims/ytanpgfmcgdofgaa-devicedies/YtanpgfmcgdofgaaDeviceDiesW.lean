/- The walk: Whatever is done to a device that is to die at an op, and to one that is well: up to that op they do the same; that op and all later ones say so, and nothing is done but a last write. -/
import Derived.Test.YtanpgfmcgdofgaaGs
import Derived.Test.YtanpgfmcgdofgaaGu
import Derived.WalkKit
import Derived.ProofKit
import Derived.OpenShut
import Derived.ShutString
import Derived.ChangeOld
import Derived.Below
namespace Go.Proofs.Ytanpgfmcgdofgaa.deviceDies
open Go.ChangeShapes Go.WideShapes Go.ChangeAt Go.RowKit
open Go.Proofs.Ytanpgfmcgdofgaa.Oct
set_option linter.unusedVariables false

theorem and31 (n : Int) : 0 ≤ bits .and .i64 n 31 ∧ bits .and .i64 n 31 ≤ 31 := by
  have h : bits .and .i64 n 31 = IntKind.i64.wrap ((BitVec.ofInt 64 n &&& BitVec.ofInt 64 31).toNat : Int) := rfl
  have h2 : (BitVec.ofInt 64 n &&& BitVec.ofInt 64 31).toNat ≤ 31 := by
    rw [BitVec.toNat_and]
    exact Nat.and_le_right
  rw [h, IntKind.wrap_i64]
  omega

/-- Two devices apart. -/
structure Two (w wr : World) (p q : Nat) (F G : Nat → Prop) (D E : Dv) : Prop where
  d : Dev wr p F D
  e : Dev wr q G E
  lF : ∀ k, F k → w.heap.size ≤ k
  lG : ∀ k, G k → w.heap.size ≤ k
  far : ∀ k, F k → ¬ G k
  bel : Below w.heap.size w wr

theorem Two.left {w wr w2 : World} {p q : Nat} {F F' G : Nat → Prop} {D D' E : Dv} (h : Two w wr p q F G D E) (hd : Dev w2 p F' D') (hs : Step F F' wr w2) : Two w w2 p q F' G D' E := by
  obtain ⟨hb, hF⟩ := hs.below h.bel.size h.lF
  exact ⟨hd, h.e.ch hs.1 (fun k hg hf => h.far k hf hg), hF, h.lG, fun k hf hg => by rcases hs.2 k hf with e | e; exact h.far k e hg; have := h.e.2.1 k hg; omega, h.bel.trans hb⟩
theorem Two.right {w wr w2 : World} {p q : Nat} {F G G' : Nat → Prop} {D E E' : Dv} (h : Two w wr p q F G D E) (hd : Dev w2 q G' E') (hs : Step G G' wr w2) : Two w w2 p q F G' D E' := by
  obtain ⟨hb, hG⟩ := hs.below h.bel.size h.lG
  exact ⟨h.d.ch hs.1 (fun k hf hg => h.far k hf hg), hd, h.lF, hG, fun k hf hg => by rcases hs.2 k hg with e | e; exact h.far k hf e; have := h.d.2.1 k hf; omega, h.bel.trans hb⟩
theorem Two.below {w wr w2 : World} {p q : Nat} {F G : Nat → Prop} {D E : Dv} (h : Two w wr p q F G D E) (hb : Below wr.heap.size wr w2) : Two w w2 p q F G D E :=
  ⟨h.d.below hb, h.e.below hb, h.lF, h.lG, h.far, h.bel.trans (hb.mono h.bel.size)⟩

/-- As long as it lives. -/
structure Pl (D E : Dv) (n i : Nat) : Prop where
  now : D.now = E.now
  ops : D.ops = E.ops
  oD : D.out = []
  oE : E.out = []
  aD : D.dead = false
  aE : E.dead = false
  fE : E.fuse = -1
  fD : D.fuse + D.ops = n
  f0 : 0 ≤ D.fuse
  nD : D.n = 8
  nE : E.n = 8
  sD : D.since.length ≤ i
  sE : E.since.length ≤ i

theorem Pl.op {D E : Dv} {n i : Nat} (h : Pl D E n i) (hf : D.fuse ≠ 0) : Pl (opD D) (opD E) n (i + 1) := by
  have f0 := h.f0
  have fD := h.fD
  refine ⟨h.now, by show D.ops + 1 = E.ops + 1; rw [h.ops], by show D.out.tail = []; rw [h.oD]; rfl, by show E.out.tail = []; rw [h.oE]; rfl, h.aD, h.aE, ?_, ?_, ?_, h.nD, h.nE, Nat.le_succ_of_le h.sD, Nat.le_succ_of_le h.sE⟩
  · show (if 0 < E.fuse then E.fuse - 1 else E.fuse) = -1
    rw [h.fE]; rfl
  · show (if 0 < D.fuse then D.fuse - 1 else D.fuse) + ((D.ops + 1 : Nat) : Int) = n
    rw [if_pos (by omega)]; omega
  · show 0 ≤ (if 0 < D.fuse then D.fuse - 1 else D.fuse)
    split <;> omega
theorem Pl.wr {D E : Dv} {n i : Nat} (h : Pl D E n i) (hf : D.fuse ≠ 0) (pg : Nat) (b : List Int) : Pl (wrD (opD D) pg b) (wrD (opD E) pg b) n (i + 1) := by
  have h1 := h.op hf
  have hn := h.now
  have sD := h.sD
  have sE := h.sE
  exact ⟨by show onto D.now pg b 15 = onto E.now pg b 15; rw [hn], h1.ops, h1.oD, h1.oE, h1.aD, h1.aE, h1.fE, h1.fD, h1.f0, h1.nD, h1.nE, by show (D.since ++ [(pg, b)]).length ≤ _; simp; omega, by show (E.since ++ [(pg, b)]).length ≤ _; simp; omega⟩
theorem Pl.set {D E : Dv} {n i : Nat} (h : Pl D E n i) (hf : D.fuse ≠ 0) : Pl (setD (opD D)) (setD (opD E)) n (i + 1) := by
  have h1 := h.op hf
  exact ⟨h1.now, h1.ops, h1.oD, h1.oE, h1.aD, h1.aE, h1.fE, h1.fD, h1.f0, h1.nD, h1.nE, Nat.zero_le _, Nat.zero_le _⟩
theorem Pl.mono {D E : Dv} {n i : Nat} (h : Pl D E n i) : Pl D E n (i + 1) := { h with sD := Nat.le_succ_of_le h.sD, sE := Nat.le_succ_of_le h.sE }

theorem ocz {D : Dv} (h : D.out = []) : oc D = 0 := by simp [oc, h]
theorem live_says {D : Dv} (hd : D.dead = false) (hf : D.fuse ≠ 0) (ho : D.out = []) : saysD D = 0 := by simp [saysD, hd, hf, ocz ho]
theorem live_write {D : Dv} (hd : D.dead = false) (hf : D.fuse ≠ 0) (ho : D.out = []) (pg : Nat) (b : List Int) : writeD D pg b = wrD (opD D) pg b := by simp [writeD, hd, hf, ocz ho]
theorem live_sync {D : Dv} (hd : D.dead = false) (hf : D.fuse ≠ 0) (ho : D.out = []) : syncD D = setD (opD D) := by simp [syncD, hd, hf, ocz ho]
theorem live_read {D : Dv} (hd : D.dead = false) (hf : D.fuse ≠ 0) : readD D = opD D := by simp [readD, hd, hf]
theorem live_tells {D : Dv} (hd : D.dead = false) (hf : D.fuse ≠ 0) (ho : D.out = []) : tellsD D = true := by simp [tellsD, hd, hf, ocz ho]
theorem die_says {D : Dv} (hf : D.fuse = 0) : saysD D = 7 := by simp [saysD, hf]
theorem dead_says {D : Dv} (hd : D.dead = true) : saysD D = 7 := by simp [saysD, hd]
theorem die_write {D : Dv} (hd : D.dead = false) (hf : D.fuse = 0) (pg : Nat) (b : List Int) : writeD D pg b = wrD (dieD D) pg b := by simp [writeD, hd, hf]
theorem die_sync {D : Dv} (hd : D.dead = false) (hf : D.fuse = 0) : syncD D = dieD D := by simp [syncD, hd, hf]
theorem die_read {D : Dv} (hd : D.dead = false) (hf : D.fuse = 0) : readD D = dieD D := by simp [readD, hd, hf]
theorem die_tells {D : Dv} (hf : D.fuse = 0) : tellsD D = false := by simp [tellsD, hf]
theorem dead_sync {D : Dv} (hd : D.dead = true) : syncD D = D := by simp [syncD, hd]

theorem Step.of {F : Nat → Prop} {w w' : World} (h : Ch w.heap.size F w w') : Step F F w w' := ⟨h, fun _ e => .inl e⟩

theorem page_drew (fill n : Int) (w : World) : Calls Try.prog 22 #[.int .u8 fill, .int .i64 n] w.drew fun e w' => e = .returned (.slice (some ⟨w.heap.size, 0, none⟩) 256 256) ∧ Own w.heap.size w' (.slice (some ⟨w.heap.size, 0, none⟩) 256 256) (pgL (pgB fill n)) ∧ Below w.heap.size w w' :=
  (page_any fill n w.drew).mono (fun e w' h => ⟨h.1, h.2.1, ⟨h.2.2.os, h.2.2.tape, h.2.2.output, h.2.2.size, h.2.2.block⟩⟩)

theorem pgB_bys (a n : Int) : Bys (pgL (pgB a n)) := by unfold pgL; exact fl_bys (pgB_by a n) _

/-- What a Read says. -/
def readI (D : Dv) : Int := if tellsD D = true then 0 else 7
theorem read_says {D : Dv} {pg : Nat} {w w' : World} {e : Ending} (h : ReadEnd D pg w e w') : ∃ a n c, e = .returned (.tuple #[.slice a n c, .int .i64 (readI D)]) := by
  unfold ReadEnd at h
  unfold readI
  split at h
  · rename_i ht
    obtain ⟨g, c, he, _⟩ := h
    rw [if_pos ht]
    exact ⟨_, _, _, he⟩
  · rename_i ht
    rw [if_neg ht]
    exact ⟨_, _, _, h⟩
set_option maxHeartbeats 8000000 in
set_option maxRecDepth 100000 in
theorem walk (a0 : Option Addr) (cap0 : Nat) (l0 : List Dd) (a1 : Int) (w : World) (w0 : IsDeeds w a0 cap0 l0) (w1 : -9223372036854775808 ≤ a1 ∧ a1 ≤ 9223372036854775807) :
    Calls Try.prog 7 #[.slice a0 l0.length cap0, .int .i64 a1] w fun e w' => e = .returned (.bool true) ∧ Below w.heap.size w w' := by
  obtain ⟨b1, b2⟩ := w1
  obtain ⟨hl1, hl2, hl3⟩ := id w0
  unfold maxLen at hl2
  have hroom := room_any a0 cap0 l0 100
  obtain ⟨nn, hnn⟩ : ∃ nn, bits .and .i64 a1 31 = nn := ⟨_, rfl⟩
  have hna := and31 a1
  rw [hnn] at hna
  obtain ⟨hn0, hn31⟩ := hna
  obtain ⟨n, rfl⟩ := Int.eq_ofNat_of_zero_le hn0
  have HW0 : Hid (IsDeeds w a0 cap0 l0) := w0
  have HL3 : Hid (l0 = [] ∨ ∃ b off, a0 = some ⟨b, off, none⟩ ∧ ∀ i, i < l0.length → DeedAt w b (off + i * 5) (l0.getD i noDeed)) := hl3
  clear w0 hl3
  go_enter Try.func7, Try.ntmps7
  go_wp2_with fail
  refine (awake_any w).mono ?_
  rintro e w1 ⟨rfl, hb1⟩
  have HB1 : Hid (Below w.heap.size w w1) := hb1
  have hi1 : IsDeeds w1 a0 cap0 l0 := by
    obtain ⟨x, y, z⟩ := HW0.out
    refine ⟨x, y, ?_⟩
    rcases z with z | ⟨b, off, e, z⟩
    · exact .inl z
    · exact .inr ⟨b, off, e, fun i hi => (z i hi).below hb1⟩
  have hrm := hroom w1 hi1
  clear hb1 hi1 hroom HW0
  cases hrb : roomB l0 100 with
  | false =>
    rw [hrb] at hrm
    go_wp2_with fail
    refine hrm.mono ?_
    rintro e w2 ⟨rfl, rfl⟩
    go_wp2
    go_ret
    exact ⟨rfl, HB1.out⟩
  | true =>
    have hlen : (l0.length : Int) ≤ 100 := room_len hrb
    rw [hrb] at hrm
    clear hrb
    have hn8 := new_yes 8 w1 (by omega) (by omega)
    rw [show ((8 : Nat) : Int) = 8 from rfl] at hn8
    go_wp2_with fail
    refine hrm.mono ?_
    clear hrm
    rintro e w2 ⟨rfl, rfl⟩
    go_wp2_with fail
    refine hn8.mono ?_
    clear hn8
    rintro e w2 ⟨p, F, rfl, hd2, hb2, hF⟩
    have hn8 := new_yes 8 w2 (by omega) (by omega)
    rw [show ((8 : Nat) : Int) = 8 from rfl] at hn8
    have HB2 : Hid (Below w.heap.size w w2) := HB1.out.trans (hb2.mono HB1.out.size)
    have HD2 : Hid (Dev w2 p F (newD (List.replicate (8 * 256) 0))) := hd2
    have HF : Hid (∀ k, F k → w.heap.size ≤ k) := fun k hk => Nat.le_trans HB1.out.size (hF k hk)
    clear hd2 hb2 hF HB1
    go_wp2_with fail
    refine hn8.mono ?_
    clear hn8
    rintro e w3 ⟨q, G, rfl, hd3, hb3, hG⟩
    have T3 : Two w w3 p q F G (newD (List.replicate (8 * 256) 0)) (newD (List.replicate (8 * 256) 0)) :=
      ⟨HD2.out.below hb3, hd3, HF.out, fun k hk => Nat.le_trans HB2.out.size (hG k hk), fun k hf hg => by have := HD2.out.2.1 k hf; have := hG k hg; omega, HB2.out.trans (hb3.mono HB2.out.size)⟩
    have hfu := fuse_any T3.d n (by omega) (by omega)
    have HT3 : Hid (Two w w3 p q F G (newD (List.replicate (8 * 256) 0)) (newD (List.replicate (8 * 256) 0))) := T3
    clear hd3 hb3 hG T3 HD2 HF HB2
    go_wp2_with fail
    refine hfu.mono ?_
    clear hfu
    rintro e w4 ⟨rfl, hd4, hc4⟩
    have HT4 : Hid (Two w w4 p q F G (fuseD (newD (List.replicate (8 * 256) 0)) n) (newD (List.replicate (8 * 256) 0))) := HT3.out.left hd4 (Step.of hc4)
    have HP4 : Hid (Pl (fuseD (newD (List.replicate (8 * 256) 0)) n) (newD (List.replicate (8 * 256) 0)) n 0) := by
      have e : fuseD (newD (List.replicate (8 * 256) 0)) n = { newD (List.replicate (8 * 256) 0) with fuse := n } := by simp [fuseD, newD]; omega
      rw [e]
      exact ⟨rfl, rfl, rfl, rfl, rfl, rfl, rfl, by simp [newD], by show (0 : Int) ≤ n; omega, by simp [newD], by simp [newD], Nat.zero_le _, Nat.zero_le _⟩
    clear hd4 hc4 HT3
    go_wp2
    go_loopw [9] (fun i wr => ∃ k : Nat, k ≤ l0.length ∧ i = .int .i64 k ∧ ∃ F G D E, Two w wr p q F G D E ∧ Pl D E n k) (fun i _ => l0.length - (intOf i).toNat)
    case atStart => exact ⟨0, Nat.zero_le _, rfl, _, _, _, _, HT4.out, HP4.out⟩
    case round =>
      clear HT4 HP4
      obtain ⟨k, hk, rfl, F, G, D, E, hT, hP⟩ := hrel
      have HP : Hid (Pl D E n k) := hP
      by_cases hlt : k < l0.length
      · obtain ⟨bb, off, rfl, hdeeds⟩ := HL3.out.resolve_left (by intro e; rw [e] at hlt; exact absurd hlt (by simp))
        obtain ⟨dd, hdd⟩ : ∃ dd, l0.getD k noDeed = dd := ⟨_, rfl⟩
        have hde := hdeeds k hlt
        rw [hdd] at hde
        have hdw := hde.below hT.bel
        obtain ⟨x0, x1, x2, x3, x4, _, _, ⟨u1, u2⟩, ⟨v1, v2⟩, ⟨y1, y2⟩, ⟨f1, f2⟩⟩ := hdw
        have hb5 : Below wr.heap.size wr (wr.alloc (.cells #[.int .i64 dd.do', .int .i64 dd.n, .int .i64 dd.page, .int .u8 dd.fill, .slice dd.ba dd.b.length dd.bc] 43)) := (Below.refl _ wr).alloc (Nat.le_refl _) _
        have HT5 : Hid (Two w (wr.alloc (.cells #[.int .i64 dd.do', .int .i64 dd.n, .int .i64 dd.page, .int .u8 dd.fill, .slice dd.ba dd.b.length dd.bc] 43)) p q F G D E) := hT.below hb5
        have hop := ops_any HT5.out.d
        have him := image_any HT5.out.d
        have hlenD : D.now.length = 2048 := by rw [HT5.out.d.1.now, hP.nD]
        have hlenE : E.now.length = 2048 := by rw [HT5.out.e.1.now, hP.nE]
        rw [hlenD] at him
        have HLD : Hid (D.now.length = 2048) := hlenD
        have HLE : Hid (E.now.length = 2048) := hlenE
        obtain ⟨ab, hab⟩ : ∃ ab, wr.heap.size = ab := ⟨_, rfl⟩
        have hnF : ¬ F ab := fun e => by have := hT.d.2.1 ab e; omega
        have hnG : ¬ G ab := fun e => by have := hT.e.2.1 ab e; omega
        have HNF : Hid (¬ F ab) := hnF
        have HNG : Hid (¬ G ab) := hnG
        have HAB : Hid (wr.heap.size = ab) := hab
        clear hdeeds hdd hde hb5 hT hP hlenD hlenE hnF hnG hab
        go_wp2_with fail
        refine hop.mono ?_
        clear hop
        rintro e w5 ⟨rfl, rfl⟩
        go_wp2_with fail
        refine him.mono ?_
        clear him
        rintro e w6 ⟨gi, ci, rfl, hoi, hb6⟩
        rw [HAB.out]
        have HT6 : Hid (Two w w6 p q F G D E) := HT5.out.below hb6
        have HOI : Hid (Own 0 w6 (.slice (some ⟨gi, 0, none⟩) 2048 ci) D.now) := hoi.zero
        have lgi := hoi.lt2
        have hgF : ¬ F gi := fun e => by have := HT5.out.d.2.1 gi e; omega
        have hgG : ¬ G gi := fun e => by have := HT5.out.e.2.1 gi e; omega
        have HGF : Hid (¬ F gi) := hgF
        have HGG : Hid (¬ G gi) := hgG
        have hab6 : ab < w6.heap.size := by have h1 := hb6.size; have h2 := HAB.out; simp at h1; omega
        have q0 : w6.cell? ⟨ab, 0, none⟩ = some (.int .i64 dd.do') := by rw [← HAB.out]; exact (hb6.cell (p := ⟨wr.heap.size, 0, none⟩) (by simp)).trans (by simp [go_sem])
        have q2 : w6.cell? ⟨ab, 2, none⟩ = some (.int .i64 dd.page) := by rw [← HAB.out]; exact (hb6.cell (p := ⟨wr.heap.size, 2, none⟩) (by simp)).trans (by simp [go_sem])
        have q3 : w6.cell? ⟨ab, 3, none⟩ = some (.int .u8 dd.fill) := by rw [← HAB.out]; exact (hb6.cell (p := ⟨wr.heap.size, 3, none⟩) (by simp)).trans (by simp [go_sem])
        have hlg : gi < w6.heap.size := lgi.2
        clear hoi hb6 lgi hgF hgG HT5 x0 x1 x2 x3 x4
        by_cases h4 : dd.do' ≤ 4
        · by_cases hpv : 0 ≤ dd.page ∧ dd.page < 8
          · obtain ⟨pg, hpg⟩ := Int.eq_ofNat_of_zero_le hpv.1
            have hp8 : pg < 8 := by omega
            rw [hpg] at q2
            clear hpv hpg y1 y2
            by_cases hf : D.fuse = 0
            · have wD : ∀ {w7 : World} {F : Nat → Prop}, Dev w7 p F D → ∀ (ad : Option Addr), Row w7 ad 256 (pgL (pgB dd.fill 1)) → Calls Try.prog 11 #[.pointer (some ⟨p, 0, none⟩), .int .i64 pg, .slice ad 256 256] w7 fun e w' => e = .returned (.int .i64 7) ∧ ∃ F', Dev w' p F' (wrD (dieD D) pg (pgL (pgB dd.fill 1))) ∧ Step F F' w7 w' := fun {w7 F} h ad hr => by
                have := write_any h (by have := HP.out.fD; have := HP.out.f0; omega) (by have := HP.out.sD; omega) pg (by rw [HP.out.nD]; exact hp8) ad 256 _ hr (pgL_len _)
                rw [die_says hf, die_write HP.out.aD hf] at this
                exact this
              have wE : ∀ {w7 : World} {G : Nat → Prop}, Dev w7 q G E → ∀ (ad : Option Addr), Row w7 ad 256 (pgL (pgB dd.fill 1)) → Calls Try.prog 11 #[.pointer (some ⟨q, 0, none⟩), .int .i64 pg, .slice ad 256 256] w7 fun e w' => e = .returned (.int .i64 0) ∧ ∃ F', Dev w' q F' (wrD (opD E) pg (pgL (pgB dd.fill 1))) ∧ Step G F' w7 w' := fun {w7 G} h ad hr => by
                have := write_any h (by have := HP.out.fD; have := HP.out.f0; have := HP.out.ops; omega) (by have := HP.out.sE; omega) pg (by rw [HP.out.nE]; exact hp8) ad 256 _ hr (pgL_len _)
                rw [live_says HP.out.aE (by rw [HP.out.fE]; omega) HP.out.oE, live_write HP.out.aE (by rw [HP.out.fE]; omega) HP.out.oE] at this
                exact this
              have tok1 : True := trivial
              have tok2 : True := trivial
              have tok3 : True := trivial
              have tok4 : True := trivial
              go_wp2_with fail
              go_region_held3 (fun w' => w'.cell? ⟨ab, 2, none⟩ = some (.int .i64 pg) ∧ w'.cell? ⟨ab, 3, none⟩ = some (.int .u8 dd.fill)) (first | go_keep | exact ⟨by assumption, by assumption⟩) (first | (go_at_call 22; have _t := tok1; refine (page_drew dd.fill 1 _).mono ?_; rintro e w7 ⟨rfl, ho7, hb7⟩; clear tok1; have hab7 : ab < w7.heap.size := Nat.lt_of_lt_of_le hab6 hb7.size; have hlg7 : gi < w7.heap.size := Nat.lt_of_lt_of_le hlg hb7.size; have HOI7 : Hid (Own 0 w7 (.slice (some ⟨gi, 0, none⟩) 2048 ci) D.now) := HOI.out.kept (hb7.block gi hlg); have HT7 : Hid (Two w w7 p q F G D E) := HT6.out.below hb7; have r2 : w7.cell? ⟨ab, 2, none⟩ = some (.int .i64 pg) := (hb7.cell (p := ⟨ab, 2, none⟩) hab6).trans q2; have r3 : w7.cell? ⟨ab, 3, none⟩ = some (.int .u8 dd.fill) := (hb7.cell (p := ⟨ab, 3, none⟩) hab6).trans q3; have r0 : w7.cell? ⟨ab, 0, none⟩ = some (.int .i64 dd.do') := (hb7.cell (p := ⟨ab, 0, none⟩) hab6).trans q0; have HR7 : Hid (Row w7 (some ⟨w6.heap.size, 0, none⟩) 256 (pgL (pgB dd.fill 1))) := (ho7.row' (pgB_bys _ _)).2; clear ho7 hb7) | (go_at_call 11; have _t := tok2; refine (wD HT7.out.d _ HR7.out).mono ?_; rintro e w8 ⟨rfl, F', hd8, hs8⟩; clear tok2; have hab8 : ab < w8.heap.size := Nat.lt_of_lt_of_le hab7 hs8.1.size; have hlg8 : gi < w8.heap.size := Nat.lt_of_lt_of_le hlg7 hs8.1.size; have HOI8 : Hid (Own 0 w8 (.slice (some ⟨gi, 0, none⟩) 2048 ci) D.now) := HOI7.out.kept (hs8.1.block gi hlg7 HGF.out); have HT8 : Hid (Two w w8 p q F' G (wrD (dieD D) pg (pgL (pgB dd.fill 1))) E) := HT7.out.left hd8 hs8; have s2 : w8.cell? ⟨ab, 2, none⟩ = some (.int .i64 pg) := (hs8.1.cell (p := ⟨ab, 2, none⟩) hab7 HNF.out).trans r2; have s3 : w8.cell? ⟨ab, 3, none⟩ = some (.int .u8 dd.fill) := (hs8.1.cell (p := ⟨ab, 3, none⟩) hab7 HNF.out).trans r3; have s0 : w8.cell? ⟨ab, 0, none⟩ = some (.int .i64 dd.do') := (hs8.1.cell (p := ⟨ab, 0, none⟩) hab7 HNF.out).trans r0; clear hd8 hs8) | (go_at_call 22; have _t := tok3; refine (page_any dd.fill 1 _).mono ?_; rintro e w9 ⟨rfl, ho9, hb9⟩; clear tok3; have hab9 : ab < w9.heap.size := Nat.lt_of_lt_of_le hab8 hb9.size; have hlg9 : gi < w9.heap.size := Nat.lt_of_lt_of_le hlg8 hb9.size; have HOI9 : Hid (Own 0 w9 (.slice (some ⟨gi, 0, none⟩) 2048 ci) D.now) := HOI8.out.kept (hb9.block gi hlg8); have HT9 : Hid (Two w w9 p q F' G (wrD (dieD D) pg (pgL (pgB dd.fill 1))) E) := HT8.out.below hb9; have t2 : w9.cell? ⟨ab, 2, none⟩ = some (.int .i64 pg) := (hb9.cell (p := ⟨ab, 2, none⟩) hab8).trans s2; have t3 : w9.cell? ⟨ab, 3, none⟩ = some (.int .u8 dd.fill) := (hb9.cell (p := ⟨ab, 3, none⟩) hab8).trans s3; have t0 : w9.cell? ⟨ab, 0, none⟩ = some (.int .i64 dd.do') := (hb9.cell (p := ⟨ab, 0, none⟩) hab8).trans s0; have HR9 : Hid (Row w9 (some ⟨w8.heap.size, 0, none⟩) 256 (pgL (pgB dd.fill 1))) := (ho9.row' (pgB_bys _ _)).2; clear ho9 hb9) | (go_at_call 11; have _t := tok4; refine (wE HT9.out.e _ HR9.out).mono ?_; rintro e w10 ⟨rfl, G', hd10, hs10⟩; clear tok4; have habc : ab < w10.heap.size := Nat.lt_of_lt_of_le hab9 hs10.1.size; have HOIc : Hid (Own 0 w10 (.slice (some ⟨gi, 0, none⟩) 2048 ci) D.now) := HOI9.out.kept (hs10.1.block gi hlg9 HGG.out); have HT10 : Hid (Two w w10 p q F' G' (wrD (dieD D) pg (pgL (pgB dd.fill 1))) (wrD (opD E) pg (pgL (pgB dd.fill 1)))) := HT9.out.right hd10 hs10; have z2 : w10.cell? ⟨ab, 2, none⟩ = some (.int .i64 pg) := (hs10.1.cell (p := ⟨ab, 2, none⟩) hab9 HNG.out).trans t2; have z3 : w10.cell? ⟨ab, 3, none⟩ = some (.int .u8 dd.fill) := (hs10.1.cell (p := ⟨ab, 3, none⟩) hab9 HNG.out).trans t3; have z0 : w10.cell? ⟨ab, 0, none⟩ = some (.int .i64 dd.do') := (hs10.1.cell (p := ⟨ab, 0, none⟩) hab9 HNG.out).trans t0; clear hd10 hs10))
              clear wD wE
              have hDn : D.ops = n := by have := HP.out.fD; omega
              have HDb : Hid (Bys D.now) := HT6.out.d.1.bnow
              obtain ⟨F1, G1, D', E', HTc, HDd, HDo, HNow, HDn, HEn⟩ : ∃ F' G' D' E', Hid (Two w w10 p q F' G' D' E') ∧ Hid (D'.dead = true) ∧ Hid (D'.ops = n + 1) ∧ Hid (D'.now = E'.now) ∧ Hid (D'.n = 8) ∧ Hid (E'.n = 8) := ⟨F', G', _, _, HT10.out, rfl, by show D.ops + 1 = n + 1; rw [hDn], by show onto D.now pg _ 15 = onto E.now pg _ 15; rw [HP.out.now], HP.out.nD, HP.out.nE⟩
              clear HT10 HT9 HT8 HT7 HT6
              have hlD : D'.now.length = 2048 := by rw [HTc.out.d.1.now, HDn.out]
              have hlE : E'.now.length = 2048 := by rw [HTc.out.e.1.now, HEn.out]
              have hdead := dead_any HTc.out.d
              rw [HDd.out] at hdead
              have him1 := image_any HTc.out.d
              rw [hlD] at him1
              go_wp2_with fail
              refine hdead.mono ?_
              clear hdead
              rintro e wa ⟨rfl, rfl⟩
              go_wp2_with fail
              refine him1.mono ?_
              clear him1
              rintro e wi ⟨g1, c1, rfl, hoi1, hbi⟩
              have HTi : Hid (Two w wi p q F1 G1 D' E') := HTc.out.below hbi
              have hsm := same_any _ _ _ _ D'.now D.now wi (hoi1.row' HTc.out.d.1.bnow).2 (HOIc.out.rowB HDb.out hbi)
              rw [hlD, HLD.out] at hsm
              have hab_i : ab < wi.heap.size := Nat.lt_of_lt_of_le habc hbi.size
              have i0 : wi.cell? ⟨ab, 0, none⟩ = some (.int .i64 dd.do') := (hbi.cell (p := ⟨ab, 0, none⟩) habc).trans z0
              clear hoi1 hbi HOIc
              cases hsb : sameB D'.now D.now
              all_goals
                rw [hsb] at hsm
                clear hsb
                go_wp2_with fail
                refine hsm.mono ?_
                clear hsm
                rintro e wj ⟨rfl, hbj⟩
                have hj0 : wj.cell? ⟨ab, 0, none⟩ = some (.int .i64 dd.do') := (hbj.cell (p := ⟨ab, 0, none⟩) hab_i).trans i0
                have HTj : Hid (Two w wj p q F1 G1 D' E') := HTi.out.below hbj
                have ho1 := ops_any HTj.out.d
                rw [HDo.out] at ho1
                clear hbj HTi
                go_wp2_with fail
                refine ho1.mono ?_
                clear ho1
                rintro e wa ⟨rfl, rfl⟩
                have him1 := image_any HTj.out.d
                rw [hlD] at him1
                go_wp2_with fail
                refine him1.mono ?_
                clear him1
                rintro e wl ⟨g3, c3, rfl, hoi3, hbl⟩
                have HTl : Hid (Two w wl p q F1 G1 D' E') := HTj.out.below hbl
                have him2 := image_any HTl.out.e
                rw [hlE] at him2
                have HO3 : Hid (Own 0 wl (.slice (some ⟨g3, 0, none⟩) 2048 c3) D'.now) := hoi3.zero
                clear hoi3 hbl HTj
                go_wp2_with fail
                refine him2.mono ?_
                clear him2
                rintro e wm ⟨g4, c4, rfl, hoi4, hbm⟩
                have HTm : Hid (Two w wm p q F1 G1 D' E') := HTl.out.below hbm
                have hsm := same_any _ _ _ _ D'.now E'.now wm (HO3.out.rowB HTm.out.d.1.bnow hbm) (hoi4.row' HTm.out.e.1.bnow).2
                rw [hlD, hlE, show sameB D'.now E'.now = true by simp [sameB, HNow.out]] at hsm
                clear hoi4 hbm HTl HO3
                go_wp2_with fail
                refine hsm.mono ?_
                clear hsm
                rintro e wo ⟨rfl, hbo⟩
                have HTo : Hid (Two w wo p q F1 G1 D' E') := HTm.out.below hbo
                have hsy := sync_any HTo.out.d (by rw [HDo.out]; omega)
                rw [dead_says HDd.out] at hsy
                clear hbo HTm
                go_wp2_with fail
                refine hsy.mono ?_
                clear hsy
                rintro e ws ⟨rfl, hds, hcs⟩
                have HTs : Hid (Two w ws p q F1 G1 (syncD D') E') := HTo.out.left hds (Step.of hcs)
                have ho1 := ops_any HTs.out.d
                rw [dead_sync HDd.out, HDo.out] at ho1
                clear hds hcs HTo
                go_wp2_with fail
                refine ho1.mono ?_
                clear ho1
                rintro e wa ⟨rfl, rfl⟩
                go_wp2
                go_ret
                exact ⟨rfl, HTs.out.bel⟩
            · have wD : ∀ {w7 : World} {F : Nat → Prop}, Dev w7 p F D → ∀ (ad : Option Addr), Row w7 ad 256 (pgL (pgB dd.fill 1)) → Calls Try.prog 11 #[.pointer (some ⟨p, 0, none⟩), .int .i64 pg, .slice ad 256 256] w7 fun e w' => e = .returned (.int .i64 0) ∧ ∃ F', Dev w' p F' (wrD (opD D) pg (pgL (pgB dd.fill 1))) ∧ Step F F' w7 w' := fun {w7 F} h ad hr => by
                have := write_any h (by have := HP.out.fD; have := HP.out.f0; omega) (by have := HP.out.sD; omega) pg (by rw [HP.out.nD]; exact hp8) ad 256 _ hr (pgL_len _)
                rw [live_says HP.out.aD hf HP.out.oD, live_write HP.out.aD hf HP.out.oD] at this
                exact this
              have wE : ∀ {w7 : World} {G : Nat → Prop}, Dev w7 q G E → ∀ (ad : Option Addr), Row w7 ad 256 (pgL (pgB dd.fill 1)) → Calls Try.prog 11 #[.pointer (some ⟨q, 0, none⟩), .int .i64 pg, .slice ad 256 256] w7 fun e w' => e = .returned (.int .i64 0) ∧ ∃ F', Dev w' q F' (wrD (opD E) pg (pgL (pgB dd.fill 1))) ∧ Step G F' w7 w' := fun {w7 G} h ad hr => by
                have := write_any h (by have := HP.out.fD; have := HP.out.f0; have := HP.out.ops; omega) (by have := HP.out.sE; omega) pg (by rw [HP.out.nE]; exact hp8) ad 256 _ hr (pgL_len _)
                rw [live_says HP.out.aE (by rw [HP.out.fE]; omega) HP.out.oE, live_write HP.out.aE (by rw [HP.out.fE]; omega) HP.out.oE] at this
                exact this
              have tok1 : True := trivial
              have tok2 : True := trivial
              have tok3 : True := trivial
              have tok4 : True := trivial
              go_wp2_with fail
              go_region_held3 (fun w' => w'.cell? ⟨ab, 2, none⟩ = some (.int .i64 pg) ∧ w'.cell? ⟨ab, 3, none⟩ = some (.int .u8 dd.fill)) (first | go_keep | exact ⟨by assumption, by assumption⟩) (first | (go_at_call 22; have _t := tok1; refine (page_drew dd.fill 1 _).mono ?_; rintro e w7 ⟨rfl, ho7, hb7⟩; clear tok1; have hab7 : ab < w7.heap.size := Nat.lt_of_lt_of_le hab6 hb7.size; have hlg7 : gi < w7.heap.size := Nat.lt_of_lt_of_le hlg hb7.size; have HOI7 : Hid (Own 0 w7 (.slice (some ⟨gi, 0, none⟩) 2048 ci) D.now) := HOI.out.kept (hb7.block gi hlg); have HT7 : Hid (Two w w7 p q F G D E) := HT6.out.below hb7; have r2 : w7.cell? ⟨ab, 2, none⟩ = some (.int .i64 pg) := (hb7.cell (p := ⟨ab, 2, none⟩) hab6).trans q2; have r3 : w7.cell? ⟨ab, 3, none⟩ = some (.int .u8 dd.fill) := (hb7.cell (p := ⟨ab, 3, none⟩) hab6).trans q3; have r0 : w7.cell? ⟨ab, 0, none⟩ = some (.int .i64 dd.do') := (hb7.cell (p := ⟨ab, 0, none⟩) hab6).trans q0; have HR7 : Hid (Row w7 (some ⟨w6.heap.size, 0, none⟩) 256 (pgL (pgB dd.fill 1))) := (ho7.row' (pgB_bys _ _)).2; clear ho7 hb7) | (go_at_call 11; have _t := tok2; refine (wD HT7.out.d _ HR7.out).mono ?_; rintro e w8 ⟨rfl, F', hd8, hs8⟩; clear tok2; have hab8 : ab < w8.heap.size := Nat.lt_of_lt_of_le hab7 hs8.1.size; have hlg8 : gi < w8.heap.size := Nat.lt_of_lt_of_le hlg7 hs8.1.size; have HOI8 : Hid (Own 0 w8 (.slice (some ⟨gi, 0, none⟩) 2048 ci) D.now) := HOI7.out.kept (hs8.1.block gi hlg7 HGF.out); have HT8 : Hid (Two w w8 p q F' G (wrD (opD D) pg (pgL (pgB dd.fill 1))) E) := HT7.out.left hd8 hs8; have s2 : w8.cell? ⟨ab, 2, none⟩ = some (.int .i64 pg) := (hs8.1.cell (p := ⟨ab, 2, none⟩) hab7 HNF.out).trans r2; have s3 : w8.cell? ⟨ab, 3, none⟩ = some (.int .u8 dd.fill) := (hs8.1.cell (p := ⟨ab, 3, none⟩) hab7 HNF.out).trans r3; have s0 : w8.cell? ⟨ab, 0, none⟩ = some (.int .i64 dd.do') := (hs8.1.cell (p := ⟨ab, 0, none⟩) hab7 HNF.out).trans r0; clear hd8 hs8) | (go_at_call 22; have _t := tok3; refine (page_any dd.fill 1 _).mono ?_; rintro e w9 ⟨rfl, ho9, hb9⟩; clear tok3; have hab9 : ab < w9.heap.size := Nat.lt_of_lt_of_le hab8 hb9.size; have hlg9 : gi < w9.heap.size := Nat.lt_of_lt_of_le hlg8 hb9.size; have HOI9 : Hid (Own 0 w9 (.slice (some ⟨gi, 0, none⟩) 2048 ci) D.now) := HOI8.out.kept (hb9.block gi hlg8); have HT9 : Hid (Two w w9 p q F' G (wrD (opD D) pg (pgL (pgB dd.fill 1))) E) := HT8.out.below hb9; have t2 : w9.cell? ⟨ab, 2, none⟩ = some (.int .i64 pg) := (hb9.cell (p := ⟨ab, 2, none⟩) hab8).trans s2; have t3 : w9.cell? ⟨ab, 3, none⟩ = some (.int .u8 dd.fill) := (hb9.cell (p := ⟨ab, 3, none⟩) hab8).trans s3; have t0 : w9.cell? ⟨ab, 0, none⟩ = some (.int .i64 dd.do') := (hb9.cell (p := ⟨ab, 0, none⟩) hab8).trans s0; have HR9 : Hid (Row w9 (some ⟨w8.heap.size, 0, none⟩) 256 (pgL (pgB dd.fill 1))) := (ho9.row' (pgB_bys _ _)).2; clear ho9 hb9) | (go_at_call 11; have _t := tok4; refine (wE HT9.out.e _ HR9.out).mono ?_; rintro e w10 ⟨rfl, G', hd10, hs10⟩; clear tok4; have habc : ab < w10.heap.size := Nat.lt_of_lt_of_le hab9 hs10.1.size; have HOIc : Hid (Own 0 w10 (.slice (some ⟨gi, 0, none⟩) 2048 ci) D.now) := HOI9.out.kept (hs10.1.block gi hlg9 HGG.out); have HT10 : Hid (Two w w10 p q F' G' (wrD (opD D) pg (pgL (pgB dd.fill 1))) (wrD (opD E) pg (pgL (pgB dd.fill 1)))) := HT9.out.right hd10 hs10; have z2 : w10.cell? ⟨ab, 2, none⟩ = some (.int .i64 pg) := (hs10.1.cell (p := ⟨ab, 2, none⟩) hab9 HNG.out).trans t2; have z3 : w10.cell? ⟨ab, 3, none⟩ = some (.int .u8 dd.fill) := (hs10.1.cell (p := ⟨ab, 3, none⟩) hab9 HNG.out).trans t3; have z0 : w10.cell? ⟨ab, 0, none⟩ = some (.int .i64 dd.do') := (hs10.1.cell (p := ⟨ab, 0, none⟩) hab9 HNG.out).trans t0; clear hd10 hs10))
              clear wD wE
              obtain ⟨F1, G1, D', E', HTc, HPc⟩ : ∃ F' G' D' E', Hid (Two w w10 p q F' G' D' E') ∧ Hid (Pl D' E' n (k + 1)) := ⟨_, _, _, _, HT10.out, HP.out.wr hf pg _⟩
              clear HT10 HT9 HT8 HT7 HT6
              have hlD : D'.now.length = 2048 := by rw [HTc.out.d.1.now, HPc.out.nD]
              have hlE : E'.now.length = 2048 := by rw [HTc.out.e.1.now, HPc.out.nE]
              have hdead := dead_any HTc.out.d
              rw [HPc.out.aD] at hdead
              have ho1 := ops_any HTc.out.d
              have ho2 := ops_any HTc.out.e
              rw [← HPc.out.ops] at ho2
              obtain ⟨oo, hoo⟩ : ∃ oo, D'.ops = oo := ⟨_, rfl⟩
              rw [hoo] at ho1 ho2
              have him1 := image_any HTc.out.d
              rw [hlD] at him1
              clear hoo
              go_wp2_with fail
              refine hdead.mono ?_
              clear hdead
              rintro e wa ⟨rfl, rfl⟩
              go_wp2_with fail
              refine ho1.mono ?_
              clear ho1
              rintro e wa ⟨rfl, rfl⟩
              go_wp2_with fail
              refine ho2.mono ?_
              clear ho2
              rintro e wa ⟨rfl, rfl⟩
              go_wp2_with fail
              refine him1.mono ?_
              clear him1
              rintro e wi ⟨g1, c1, rfl, hoi1, hbi⟩
              have HTi : Hid (Two w wi p q F1 G1 D' E') := HTc.out.below hbi
              have him2 := image_any HTi.out.e
              rw [hlE] at him2
              have HO1 : Hid (Own 0 wi (.slice (some ⟨g1, 0, none⟩) 2048 c1) D'.now) := hoi1.zero
              clear hoi1 hbi
              go_wp2_with fail
              refine him2.mono ?_
              clear him2
              rintro e wj ⟨g2, c2, rfl, hoj, hbj⟩
              have hsm := same_any _ _ _ _ D'.now E'.now wj (HO1.out.rowB HTc.out.d.1.bnow hbj) (hoj.row' HTc.out.e.1.bnow).2
              rw [hlD, hlE, show sameB D'.now E'.now = true by simp [sameB, HPc.out.now]] at hsm
              have HTj : Hid (Two w wj p q F1 G1 D' E') := HTi.out.below hbj
              clear hoj hbj HTi HO1 hlD hlE
              go_wp2_with fail
              refine hsm.mono ?_
              clear hsm
              rintro e wk ⟨rfl, hbk⟩
              have HTk : Hid (Two w wk p q F1 G1 D' E') := HTj.out.below hbk
              clear hbk HTj HTc
              go_wp2
              go_roundw
              case rel => exact ⟨k + 1, by omega, by go_num, _, _, _, _, HTk.out, HPc.out⟩
              case measure => simp [intOf]; omega
          · have hbadD : (hasB D dd.page && decide (256 = 256)) = false := by simp [hasB, HP.out.nD]; omega
            have hbadE : (hasB E dd.page && decide (256 = 256)) = false := by simp [hasB, HP.out.nE]; omega
            have tok1 : True := trivial
            have tok2 : True := trivial
            have tok3 : True := trivial
            have tok4 : True := trivial
            go_wp2_with fail
            go_region_held3 (fun w' => w'.cell? ⟨ab, 2, none⟩ = some (.int .i64 dd.page) ∧ w'.cell? ⟨ab, 3, none⟩ = some (.int .u8 dd.fill)) (first | go_keep | exact ⟨by assumption, by assumption⟩) (first | (go_at_call 22; have _t := tok1; refine (page_drew dd.fill 1 _).mono ?_; rintro e w7 ⟨rfl, ho7, hb7⟩; clear tok1; have hab7 : ab < w7.heap.size := Nat.lt_of_lt_of_le hab6 hb7.size; have hlg7 : gi < w7.heap.size := Nat.lt_of_lt_of_le hlg hb7.size; have HOI7 : Hid (Own 0 w7 (.slice (some ⟨gi, 0, none⟩) 2048 ci) D.now) := HOI.out.kept (hb7.block gi hlg); have HT7 : Hid (Two w w7 p q F G D E) := HT6.out.below hb7; have r2 : w7.cell? ⟨ab, 2, none⟩ = some (.int .i64 dd.page) := (hb7.cell (p := ⟨ab, 2, none⟩) hab6).trans q2; have r3 : w7.cell? ⟨ab, 3, none⟩ = some (.int .u8 dd.fill) := (hb7.cell (p := ⟨ab, 3, none⟩) hab6).trans q3; have r0 : w7.cell? ⟨ab, 0, none⟩ = some (.int .i64 dd.do') := (hb7.cell (p := ⟨ab, 0, none⟩) hab6).trans q0; have HR7 : Hid (Row w7 (some ⟨w6.heap.size, 0, none⟩) 256 (pgL (pgB dd.fill 1))) := (ho7.row' (pgB_bys _ _)).2; clear ho7 hb7) | (go_at_call 11; have _t := tok2; refine (write_bad HT7.out.d dd.page _ 256 256 hbadD).mono ?_; rintro e wx ⟨rfl, rfl⟩; clear tok2) | (go_at_call 22; have _t := tok3; refine (page_any dd.fill 1 _).mono ?_; rintro e w9 ⟨rfl, ho9, hb9⟩; clear tok3; have HT9 : Hid (Two w w9 p q F G D E) := HT7.out.below hb9; have t2 : w9.cell? ⟨ab, 2, none⟩ = some (.int .i64 dd.page) := (hb9.cell (p := ⟨ab, 2, none⟩) hab7).trans r2; have t3 : w9.cell? ⟨ab, 3, none⟩ = some (.int .u8 dd.fill) := (hb9.cell (p := ⟨ab, 3, none⟩) hab7).trans r3; have t0 : w9.cell? ⟨ab, 0, none⟩ = some (.int .i64 dd.do') := (hb9.cell (p := ⟨ab, 0, none⟩) hab7).trans r0; clear ho9 hb9) | (go_at_call 11; have _t := tok4; refine (write_bad HT9.out.e dd.page _ 256 256 hbadE).mono ?_; rintro e wx ⟨rfl, rfl⟩; clear tok4))
            obtain ⟨F', G', D', E', HTc, HPc⟩ : ∃ F' G' D' E', Hid (Two w w9 p q F' G' D' E') ∧ Hid (Pl D' E' n (k + 1)) := ⟨_, _, _, _, HT9.out, HP.out.mono⟩
            clear HT9 HT7 HT6
            have hlD : D'.now.length = 2048 := by rw [HTc.out.d.1.now, HPc.out.nD]
            have hlE : E'.now.length = 2048 := by rw [HTc.out.e.1.now, HPc.out.nE]
            have hdead := dead_any HTc.out.d
            rw [HPc.out.aD] at hdead
            have ho1 := ops_any HTc.out.d
            have ho2 := ops_any HTc.out.e
            rw [← HPc.out.ops] at ho2
            obtain ⟨oo, hoo⟩ : ∃ oo, D'.ops = oo := ⟨_, rfl⟩
            rw [hoo] at ho1 ho2
            have him1 := image_any HTc.out.d
            rw [hlD] at him1
            clear hoo
            go_wp2_with fail
            refine hdead.mono ?_
            clear hdead
            rintro e wa ⟨rfl, rfl⟩
            go_wp2_with fail
            refine ho1.mono ?_
            clear ho1
            rintro e wa ⟨rfl, rfl⟩
            go_wp2_with fail
            refine ho2.mono ?_
            clear ho2
            rintro e wa ⟨rfl, rfl⟩
            go_wp2_with fail
            refine him1.mono ?_
            clear him1
            rintro e wi ⟨g1, c1, rfl, hoi1, hbi⟩
            have HTi : Hid (Two w wi p q F' G' D' E') := HTc.out.below hbi
            have him2 := image_any HTi.out.e
            rw [hlE] at him2
            have HO1 : Hid (Own 0 wi (.slice (some ⟨g1, 0, none⟩) 2048 c1) D'.now) := hoi1.zero
            clear hoi1 hbi
            go_wp2_with fail
            refine him2.mono ?_
            clear him2
            rintro e wj ⟨g2, c2, rfl, hoj, hbj⟩
            have hsm := same_any _ _ _ _ D'.now E'.now wj (HO1.out.rowB HTc.out.d.1.bnow hbj) (hoj.row' HTc.out.e.1.bnow).2
            rw [hlD, hlE, show sameB D'.now E'.now = true by simp [sameB, HPc.out.now]] at hsm
            have HTj : Hid (Two w wj p q F' G' D' E') := HTi.out.below hbj
            clear hoj hbj HTi HO1 hlD hlE
            go_wp2_with fail
            refine hsm.mono ?_
            clear hsm
            rintro e wk ⟨rfl, hbk⟩
            have HTk : Hid (Two w wk p q F' G' D' E') := HTj.out.below hbk
            clear hbk HTj HTc
            go_wp2
            go_roundw
            case rel => exact ⟨k + 1, by omega, by go_num, _, _, _, _, HTk.out, HPc.out⟩
            case measure => simp [intOf]; omega
        · by_cases h6 : dd.do' ≤ 6
          · by_cases hpv : 0 ≤ dd.page ∧ dd.page < 8
            · obtain ⟨pg, hpg⟩ := Int.eq_ofNat_of_zero_le hpv.1
              have hp8 : pg < 8 := by omega
              rw [hpg] at q2
              clear hpv hpg y1 y2
              by_cases hf : D.fuse = 0
              · have hcall := read_any HT6.out.d (by have := HP.out.fD; have := HP.out.f0; omega) pg (by rw [HP.out.nD]; exact hp8)
                go_wp2_with fail
                refine hcall.mono ?_
                clear hcall
                rintro e w7 ⟨hre, hd7, hc7⟩
                obtain ⟨ra, rn, rc, he⟩ := read_says hre
                rw [show readI D = 7 by simp [readI, die_tells hf]] at he
                rw [die_read HP.out.aD hf] at hd7
                subst he
                have HT7 : Hid (Two w w7 p q F G _ E) := HT6.out.left hd7 (Step.of hc7)
                have HOI7 : Hid (Own 0 w7 (.slice (some ⟨gi, 0, none⟩) 2048 ci) D.now) := HOI.out.kept (hc7.block gi hlg HGF.out)
                have hlg7 : gi < w7.heap.size := Nat.lt_of_lt_of_le hlg hc7.size
                have hab7 : ab < w7.heap.size := Nat.lt_of_lt_of_le hab6 hc7.size
                have r0 : w7.cell? ⟨ab, 0, none⟩ = some (.int .i64 dd.do') := (hc7.cell (p := ⟨ab, 0, none⟩) hab6 HNF.out).trans q0
                have r2 : w7.cell? ⟨ab, 2, none⟩ = some (.int .i64 pg) := (hc7.cell (p := ⟨ab, 2, none⟩) hab6 HNF.out).trans q2
                clear hre hd7 hc7 q0 q2 q3 HOI hlg hab6
                have hcall := read_any HT7.out.e (by have := HP.out.fD; have := HP.out.f0; have := HP.out.ops; omega) pg (by rw [HP.out.nE]; exact hp8)
                go_wp2_with fail
                refine hcall.mono ?_
                clear hcall
                rintro e w8 ⟨hre, hd8, hc8⟩
                obtain ⟨ra2, rn2, rc2, he⟩ := read_says hre
                rw [show readI E = 0 by simp [readI, live_tells HP.out.aE (by rw [HP.out.fE]; omega) HP.out.oE]] at he
                rw [live_read HP.out.aE (by rw [HP.out.fE]; omega)] at hd8
                subst he
                have HT8 : Hid (Two w w8 p q F G _ _) := HT7.out.right hd8 (Step.of hc8)
                have HOIc : Hid (Own 0 w8 (.slice (some ⟨gi, 0, none⟩) 2048 ci) D.now) := HOI7.out.kept (hc8.block gi hlg7 HGG.out)
                have t0 : w8.cell? ⟨ab, 0, none⟩ = some (.int .i64 dd.do') := (hc8.cell (p := ⟨ab, 0, none⟩) hab7 HNG.out).trans r0
                clear hre hd8 hc8 r0 r2 HOI7 hlg7 hab7 HT7
                have hDn : D.ops = n := by have := HP.out.fD; omega
                obtain ⟨F', G', D', E', HTc, HDd, HDo, HNow, HSame, HDn, HEn⟩ : ∃ F' G' D' E', Hid (Two w w8 p q F' G' D' E') ∧ Hid (D'.dead = true) ∧ Hid (D'.ops = n + 1) ∧ Hid (D'.now = E'.now) ∧ Hid (D'.now = D.now) ∧ Hid (D'.n = 8) ∧ Hid (E'.n = 8) := ⟨F, G, dieD D, (opD E), HT8.out, rfl, by show D.ops + 1 = n + 1; rw [hDn], HP.out.now, rfl, HP.out.nD, HP.out.nE⟩
                have HDb : Hid (Bys D.now) := HT6.out.d.1.bnow
                clear HT8
                have hlD : D'.now.length = 2048 := by rw [HTc.out.d.1.now, HDn.out]
                have hlE : E'.now.length = 2048 := by rw [HTc.out.e.1.now, HEn.out]
                have hdead := dead_any HTc.out.d
                rw [HDd.out] at hdead
                have him1 := image_any HTc.out.d
                rw [hlD] at him1
                go_wp2_with fail
                refine hdead.mono ?_
                clear hdead
                rintro e wa ⟨rfl, rfl⟩
                go_wp2_with fail
                refine him1.mono ?_
                clear him1
                rintro e wi ⟨g1, c1, rfl, hoi1, hbi⟩
                have HTi : Hid (Two w wi p q F' G' D' E') := HTc.out.below hbi
                have hsm := same_any _ _ _ _ D'.now D.now wi (hoi1.row' HTc.out.d.1.bnow).2 (HOIc.out.rowB HDb.out hbi)
                rw [hlD, HLD.out] at hsm
                clear hoi1 hbi HOIc
                rw [show sameB D'.now D.now = true by simp [sameB, HSame.out]] at hsm
                go_wp2_with fail
                refine hsm.mono ?_
                clear hsm
                rintro e wj ⟨rfl, hbj⟩
                have HTj : Hid (Two w wj p q F' G' D' E') := HTi.out.below hbj
                have ho1 := ops_any HTj.out.d
                rw [HDo.out] at ho1
                clear hbj HTi
                go_wp2_with fail
                refine ho1.mono ?_
                clear ho1
                rintro e wa ⟨rfl, rfl⟩
                have him1 := image_any HTj.out.d
                rw [hlD] at him1
                go_wp2_with fail
                refine him1.mono ?_
                clear him1
                rintro e wl ⟨g3, c3, rfl, hoi3, hbl⟩
                have HTl : Hid (Two w wl p q F' G' D' E') := HTj.out.below hbl
                have him2 := image_any HTl.out.e
                rw [hlE] at him2
                have HO3 : Hid (Own 0 wl (.slice (some ⟨g3, 0, none⟩) 2048 c3) D'.now) := hoi3.zero
                clear hoi3 hbl HTj
                go_wp2_with fail
                refine him2.mono ?_
                clear him2
                rintro e wm ⟨g4, c4, rfl, hoi4, hbm⟩
                have HTm : Hid (Two w wm p q F' G' D' E') := HTl.out.below hbm
                have hsm := same_any _ _ _ _ D'.now E'.now wm (HO3.out.rowB HTm.out.d.1.bnow hbm) (hoi4.row' HTm.out.e.1.bnow).2
                rw [hlD, hlE, show sameB D'.now E'.now = true by simp [sameB, HNow.out]] at hsm
                clear hoi4 hbm HTl HO3
                go_wp2_with fail
                refine hsm.mono ?_
                clear hsm
                rintro e wo ⟨rfl, hbo⟩
                have HTo : Hid (Two w wo p q F' G' D' E') := HTm.out.below hbo
                have hsy := sync_any HTo.out.d (by rw [HDo.out]; omega)
                rw [dead_says HDd.out] at hsy
                clear hbo HTm
                go_wp2_with fail
                refine hsy.mono ?_
                clear hsy
                rintro e ws ⟨rfl, hds, hcs⟩
                have HTs : Hid (Two w ws p q F' G' (syncD D') E') := HTo.out.left hds (Step.of hcs)
                have ho1 := ops_any HTs.out.d
                rw [dead_sync HDd.out, HDo.out] at ho1
                clear hds hcs HTo
                go_wp2_with fail
                refine ho1.mono ?_
                clear ho1
                rintro e wa ⟨rfl, rfl⟩
                go_wp2
                go_ret
                exact ⟨rfl, HTs.out.bel⟩
              · have hcall := read_any HT6.out.d (by have := HP.out.fD; have := HP.out.f0; omega) pg (by rw [HP.out.nD]; exact hp8)
                go_wp2_with fail
                refine hcall.mono ?_
                clear hcall
                rintro e w7 ⟨hre, hd7, hc7⟩
                obtain ⟨ra, rn, rc, he⟩ := read_says hre
                rw [show readI D = 0 by simp [readI, live_tells HP.out.aD hf HP.out.oD]] at he
                rw [live_read HP.out.aD hf] at hd7
                subst he
                have HT7 : Hid (Two w w7 p q F G _ E) := HT6.out.left hd7 (Step.of hc7)
                have HOI7 : Hid (Own 0 w7 (.slice (some ⟨gi, 0, none⟩) 2048 ci) D.now) := HOI.out.kept (hc7.block gi hlg HGF.out)
                have hlg7 : gi < w7.heap.size := Nat.lt_of_lt_of_le hlg hc7.size
                have hab7 : ab < w7.heap.size := Nat.lt_of_lt_of_le hab6 hc7.size
                have r0 : w7.cell? ⟨ab, 0, none⟩ = some (.int .i64 dd.do') := (hc7.cell (p := ⟨ab, 0, none⟩) hab6 HNF.out).trans q0
                have r2 : w7.cell? ⟨ab, 2, none⟩ = some (.int .i64 pg) := (hc7.cell (p := ⟨ab, 2, none⟩) hab6 HNF.out).trans q2
                clear hre hd7 hc7 q0 q2 q3 HOI hlg hab6
                have hcall := read_any HT7.out.e (by have := HP.out.fD; have := HP.out.f0; have := HP.out.ops; omega) pg (by rw [HP.out.nE]; exact hp8)
                go_wp2_with fail
                refine hcall.mono ?_
                clear hcall
                rintro e w8 ⟨hre, hd8, hc8⟩
                obtain ⟨ra2, rn2, rc2, he⟩ := read_says hre
                rw [show readI E = 0 by simp [readI, live_tells HP.out.aE (by rw [HP.out.fE]; omega) HP.out.oE]] at he
                rw [live_read HP.out.aE (by rw [HP.out.fE]; omega)] at hd8
                subst he
                have HT8 : Hid (Two w w8 p q F G _ _) := HT7.out.right hd8 (Step.of hc8)
                have HOIc : Hid (Own 0 w8 (.slice (some ⟨gi, 0, none⟩) 2048 ci) D.now) := HOI7.out.kept (hc8.block gi hlg7 HGG.out)
                have t0 : w8.cell? ⟨ab, 0, none⟩ = some (.int .i64 dd.do') := (hc8.cell (p := ⟨ab, 0, none⟩) hab7 HNG.out).trans r0
                clear hre hd8 hc8 r0 r2 HOI7 hlg7 hab7 HT7
                obtain ⟨F', G', D', E', HTc, HPc⟩ : ∃ F' G' D' E', Hid (Two w w8 p q F' G' D' E') ∧ Hid (Pl D' E' n (k + 1)) := ⟨_, _, _, _, HT8.out, HP.out.op hf⟩
                clear HT8 HOIc
                have hlD : D'.now.length = 2048 := by rw [HTc.out.d.1.now, HPc.out.nD]
                have hlE : E'.now.length = 2048 := by rw [HTc.out.e.1.now, HPc.out.nE]
                have hdead := dead_any HTc.out.d
                rw [HPc.out.aD] at hdead
                have ho1 := ops_any HTc.out.d
                have ho2 := ops_any HTc.out.e
                rw [← HPc.out.ops] at ho2
                obtain ⟨oo, hoo⟩ : ∃ oo, D'.ops = oo := ⟨_, rfl⟩
                rw [hoo] at ho1 ho2
                have him1 := image_any HTc.out.d
                rw [hlD] at him1
                clear hoo
                go_wp2_with fail
                refine hdead.mono ?_
                clear hdead
                rintro e wa ⟨rfl, rfl⟩
                go_wp2_with fail
                refine ho1.mono ?_
                clear ho1
                rintro e wa ⟨rfl, rfl⟩
                go_wp2_with fail
                refine ho2.mono ?_
                clear ho2
                rintro e wa ⟨rfl, rfl⟩
                go_wp2_with fail
                refine him1.mono ?_
                clear him1
                rintro e wi ⟨g1, c1, rfl, hoi1, hbi⟩
                have HTi : Hid (Two w wi p q F' G' D' E') := HTc.out.below hbi
                have him2 := image_any HTi.out.e
                rw [hlE] at him2
                have HO1 : Hid (Own 0 wi (.slice (some ⟨g1, 0, none⟩) 2048 c1) D'.now) := hoi1.zero
                clear hoi1 hbi
                go_wp2_with fail
                refine him2.mono ?_
                clear him2
                rintro e wj ⟨g2, c2, rfl, hoj, hbj⟩
                have hsm := same_any _ _ _ _ D'.now E'.now wj (HO1.out.rowB HTc.out.d.1.bnow hbj) (hoj.row' HTc.out.e.1.bnow).2
                rw [hlD, hlE, show sameB D'.now E'.now = true by simp [sameB, HPc.out.now]] at hsm
                have HTj : Hid (Two w wj p q F' G' D' E') := HTi.out.below hbj
                clear hoj hbj HTi HO1 hlD hlE
                go_wp2_with fail
                refine hsm.mono ?_
                clear hsm
                rintro e wk ⟨rfl, hbk⟩
                have HTk : Hid (Two w wk p q F' G' D' E') := HTj.out.below hbk
                clear hbk HTj HTc
                go_wp2
                go_roundw
                case rel => exact ⟨k + 1, by omega, by go_num, _, _, _, _, HTk.out, HPc.out⟩
                case measure => simp [intOf]; omega
            · have hcall := read_bad HT6.out.d dd.page (by simp [hasB, HP.out.nD]; omega)
              go_wp2_with fail
              refine hcall.mono ?_
              clear hcall
              rintro e wx ⟨rfl, rfl⟩
              have hcall := read_bad HT6.out.e dd.page (by simp [hasB, HP.out.nE]; omega)
              go_wp2_with fail
              refine hcall.mono ?_
              clear hcall
              rintro e wx ⟨rfl, rfl⟩
              obtain ⟨F', G', D', E', HTc, HPc⟩ : ∃ F' G' D' E', Hid (Two w w6 p q F' G' D' E') ∧ Hid (Pl D' E' n (k + 1)) := ⟨_, _, _, _, HT6.out, HP.out.mono⟩
              have hlD : D'.now.length = 2048 := by rw [HTc.out.d.1.now, HPc.out.nD]
              have hlE : E'.now.length = 2048 := by rw [HTc.out.e.1.now, HPc.out.nE]
              have hdead := dead_any HTc.out.d
              rw [HPc.out.aD] at hdead
              have ho1 := ops_any HTc.out.d
              have ho2 := ops_any HTc.out.e
              rw [← HPc.out.ops] at ho2
              obtain ⟨oo, hoo⟩ : ∃ oo, D'.ops = oo := ⟨_, rfl⟩
              rw [hoo] at ho1 ho2
              have him1 := image_any HTc.out.d
              rw [hlD] at him1
              clear hoo
              go_wp2_with fail
              refine hdead.mono ?_
              clear hdead
              rintro e wa ⟨rfl, rfl⟩
              go_wp2_with fail
              refine ho1.mono ?_
              clear ho1
              rintro e wa ⟨rfl, rfl⟩
              go_wp2_with fail
              refine ho2.mono ?_
              clear ho2
              rintro e wa ⟨rfl, rfl⟩
              go_wp2_with fail
              refine him1.mono ?_
              clear him1
              rintro e wi ⟨g1, c1, rfl, hoi1, hbi⟩
              have HTi : Hid (Two w wi p q F' G' D' E') := HTc.out.below hbi
              have him2 := image_any HTi.out.e
              rw [hlE] at him2
              have HO1 : Hid (Own 0 wi (.slice (some ⟨g1, 0, none⟩) 2048 c1) D'.now) := hoi1.zero
              clear hoi1 hbi
              go_wp2_with fail
              refine him2.mono ?_
              clear him2
              rintro e wj ⟨g2, c2, rfl, hoj, hbj⟩
              have hsm := same_any _ _ _ _ D'.now E'.now wj (HO1.out.rowB HTc.out.d.1.bnow hbj) (hoj.row' HTc.out.e.1.bnow).2
              rw [hlD, hlE, show sameB D'.now E'.now = true by simp [sameB, HPc.out.now]] at hsm
              have HTj : Hid (Two w wj p q F' G' D' E') := HTi.out.below hbj
              clear hoj hbj HTi HO1 hlD hlE
              go_wp2_with fail
              refine hsm.mono ?_
              clear hsm
              rintro e wk ⟨rfl, hbk⟩
              have HTk : Hid (Two w wk p q F' G' D' E') := HTj.out.below hbk
              clear hbk HTj HTc
              go_wp2
              go_roundw
              case rel => exact ⟨k + 1, by omega, by go_num, _, _, _, _, HTk.out, HPc.out⟩
              case measure => simp [intOf]; omega
          · by_cases h8 : dd.do' ≤ 8
            · by_cases hf : D.fuse = 0
              · have hcall := sync_any HT6.out.d (by have := HP.out.fD; have := HP.out.f0; omega)
                rw [die_says hf, die_sync HP.out.aD hf] at hcall
                go_wp2_with fail
                refine hcall.mono ?_
                clear hcall
                rintro e w7 ⟨rfl, hd7, hc7⟩
                have HT7 : Hid (Two w w7 p q F G _ E) := HT6.out.left hd7 (Step.of hc7)
                have HOI7 : Hid (Own 0 w7 (.slice (some ⟨gi, 0, none⟩) 2048 ci) D.now) := HOI.out.kept (hc7.block gi hlg HGF.out)
                have hlg7 : gi < w7.heap.size := Nat.lt_of_lt_of_le hlg hc7.size
                have hab7 : ab < w7.heap.size := Nat.lt_of_lt_of_le hab6 hc7.size
                have r0 : w7.cell? ⟨ab, 0, none⟩ = some (.int .i64 dd.do') := (hc7.cell (p := ⟨ab, 0, none⟩) hab6 HNF.out).trans q0
                have r2 : w7.cell? ⟨ab, 2, none⟩ = some (.int .i64 dd.page) := (hc7.cell (p := ⟨ab, 2, none⟩) hab6 HNF.out).trans q2
                clear hd7 hc7 q0 q2 q3 HOI hlg hab6
                have hcall := sync_any HT7.out.e (by have := HP.out.fD; have := HP.out.f0; have := HP.out.ops; omega)
                rw [live_says HP.out.aE (by rw [HP.out.fE]; omega) HP.out.oE, live_sync HP.out.aE (by rw [HP.out.fE]; omega) HP.out.oE] at hcall
                go_wp2_with fail
                refine hcall.mono ?_
                clear hcall
                rintro e w8 ⟨rfl, hd8, hc8⟩
                have HT8 : Hid (Two w w8 p q F G _ _) := HT7.out.right hd8 (Step.of hc8)
                have HOIc : Hid (Own 0 w8 (.slice (some ⟨gi, 0, none⟩) 2048 ci) D.now) := HOI7.out.kept (hc8.block gi hlg7 HGG.out)
                have t0 : w8.cell? ⟨ab, 0, none⟩ = some (.int .i64 dd.do') := (hc8.cell (p := ⟨ab, 0, none⟩) hab7 HNG.out).trans r0
                clear hd8 hc8 r0 r2 HOI7 hlg7 hab7 HT7
                have hDn : D.ops = n := by have := HP.out.fD; omega
                obtain ⟨F', G', D', E', HTc, HDd, HDo, HNow, HSame, HDn, HEn⟩ : ∃ F' G' D' E', Hid (Two w w8 p q F' G' D' E') ∧ Hid (D'.dead = true) ∧ Hid (D'.ops = n + 1) ∧ Hid (D'.now = E'.now) ∧ Hid (D'.now = D.now) ∧ Hid (D'.n = 8) ∧ Hid (E'.n = 8) := ⟨F, G, dieD D, (setD (opD E)), HT8.out, rfl, by show D.ops + 1 = n + 1; rw [hDn], HP.out.now, rfl, HP.out.nD, HP.out.nE⟩
                have HDb : Hid (Bys D.now) := HT6.out.d.1.bnow
                clear HT8
                have hlD : D'.now.length = 2048 := by rw [HTc.out.d.1.now, HDn.out]
                have hlE : E'.now.length = 2048 := by rw [HTc.out.e.1.now, HEn.out]
                have hdead := dead_any HTc.out.d
                rw [HDd.out] at hdead
                have him1 := image_any HTc.out.d
                rw [hlD] at him1
                go_wp2_with fail
                refine hdead.mono ?_
                clear hdead
                rintro e wa ⟨rfl, rfl⟩
                go_wp2_with fail
                refine him1.mono ?_
                clear him1
                rintro e wi ⟨g1, c1, rfl, hoi1, hbi⟩
                have HTi : Hid (Two w wi p q F' G' D' E') := HTc.out.below hbi
                have hsm := same_any _ _ _ _ D'.now D.now wi (hoi1.row' HTc.out.d.1.bnow).2 (HOIc.out.rowB HDb.out hbi)
                rw [hlD, HLD.out] at hsm
                clear hoi1 hbi HOIc
                rw [show sameB D'.now D.now = true by simp [sameB, HSame.out]] at hsm
                go_wp2_with fail
                refine hsm.mono ?_
                clear hsm
                rintro e wj ⟨rfl, hbj⟩
                have HTj : Hid (Two w wj p q F' G' D' E') := HTi.out.below hbj
                have ho1 := ops_any HTj.out.d
                rw [HDo.out] at ho1
                clear hbj HTi
                go_wp2_with fail
                refine ho1.mono ?_
                clear ho1
                rintro e wa ⟨rfl, rfl⟩
                have him1 := image_any HTj.out.d
                rw [hlD] at him1
                go_wp2_with fail
                refine him1.mono ?_
                clear him1
                rintro e wl ⟨g3, c3, rfl, hoi3, hbl⟩
                have HTl : Hid (Two w wl p q F' G' D' E') := HTj.out.below hbl
                have him2 := image_any HTl.out.e
                rw [hlE] at him2
                have HO3 : Hid (Own 0 wl (.slice (some ⟨g3, 0, none⟩) 2048 c3) D'.now) := hoi3.zero
                clear hoi3 hbl HTj
                go_wp2_with fail
                refine him2.mono ?_
                clear him2
                rintro e wm ⟨g4, c4, rfl, hoi4, hbm⟩
                have HTm : Hid (Two w wm p q F' G' D' E') := HTl.out.below hbm
                have hsm := same_any _ _ _ _ D'.now E'.now wm (HO3.out.rowB HTm.out.d.1.bnow hbm) (hoi4.row' HTm.out.e.1.bnow).2
                rw [hlD, hlE, show sameB D'.now E'.now = true by simp [sameB, HNow.out]] at hsm
                clear hoi4 hbm HTl HO3
                go_wp2_with fail
                refine hsm.mono ?_
                clear hsm
                rintro e wo ⟨rfl, hbo⟩
                have HTo : Hid (Two w wo p q F' G' D' E') := HTm.out.below hbo
                have hsy := sync_any HTo.out.d (by rw [HDo.out]; omega)
                rw [dead_says HDd.out] at hsy
                clear hbo HTm
                go_wp2_with fail
                refine hsy.mono ?_
                clear hsy
                rintro e ws ⟨rfl, hds, hcs⟩
                have HTs : Hid (Two w ws p q F' G' (syncD D') E') := HTo.out.left hds (Step.of hcs)
                have ho1 := ops_any HTs.out.d
                rw [dead_sync HDd.out, HDo.out] at ho1
                clear hds hcs HTo
                go_wp2_with fail
                refine ho1.mono ?_
                clear ho1
                rintro e wa ⟨rfl, rfl⟩
                go_wp2
                go_ret
                exact ⟨rfl, HTs.out.bel⟩
              · have hcall := sync_any HT6.out.d (by have := HP.out.fD; have := HP.out.f0; omega)
                rw [live_says HP.out.aD hf HP.out.oD, live_sync HP.out.aD hf HP.out.oD] at hcall
                go_wp2_with fail
                refine hcall.mono ?_
                clear hcall
                rintro e w7 ⟨rfl, hd7, hc7⟩
                have HT7 : Hid (Two w w7 p q F G _ E) := HT6.out.left hd7 (Step.of hc7)
                have HOI7 : Hid (Own 0 w7 (.slice (some ⟨gi, 0, none⟩) 2048 ci) D.now) := HOI.out.kept (hc7.block gi hlg HGF.out)
                have hlg7 : gi < w7.heap.size := Nat.lt_of_lt_of_le hlg hc7.size
                have hab7 : ab < w7.heap.size := Nat.lt_of_lt_of_le hab6 hc7.size
                have r0 : w7.cell? ⟨ab, 0, none⟩ = some (.int .i64 dd.do') := (hc7.cell (p := ⟨ab, 0, none⟩) hab6 HNF.out).trans q0
                have r2 : w7.cell? ⟨ab, 2, none⟩ = some (.int .i64 dd.page) := (hc7.cell (p := ⟨ab, 2, none⟩) hab6 HNF.out).trans q2
                clear hd7 hc7 q0 q2 q3 HOI hlg hab6
                have hcall := sync_any HT7.out.e (by have := HP.out.fD; have := HP.out.f0; have := HP.out.ops; omega)
                rw [live_says HP.out.aE (by rw [HP.out.fE]; omega) HP.out.oE, live_sync HP.out.aE (by rw [HP.out.fE]; omega) HP.out.oE] at hcall
                go_wp2_with fail
                refine hcall.mono ?_
                clear hcall
                rintro e w8 ⟨rfl, hd8, hc8⟩
                have HT8 : Hid (Two w w8 p q F G _ _) := HT7.out.right hd8 (Step.of hc8)
                have HOIc : Hid (Own 0 w8 (.slice (some ⟨gi, 0, none⟩) 2048 ci) D.now) := HOI7.out.kept (hc8.block gi hlg7 HGG.out)
                have t0 : w8.cell? ⟨ab, 0, none⟩ = some (.int .i64 dd.do') := (hc8.cell (p := ⟨ab, 0, none⟩) hab7 HNG.out).trans r0
                clear hd8 hc8 r0 r2 HOI7 hlg7 hab7 HT7
                obtain ⟨F', G', D', E', HTc, HPc⟩ : ∃ F' G' D' E', Hid (Two w w8 p q F' G' D' E') ∧ Hid (Pl D' E' n (k + 1)) := ⟨_, _, _, _, HT8.out, HP.out.set hf⟩
                clear HT8 HOIc
                have hlD : D'.now.length = 2048 := by rw [HTc.out.d.1.now, HPc.out.nD]
                have hlE : E'.now.length = 2048 := by rw [HTc.out.e.1.now, HPc.out.nE]
                have hdead := dead_any HTc.out.d
                rw [HPc.out.aD] at hdead
                have ho1 := ops_any HTc.out.d
                have ho2 := ops_any HTc.out.e
                rw [← HPc.out.ops] at ho2
                obtain ⟨oo, hoo⟩ : ∃ oo, D'.ops = oo := ⟨_, rfl⟩
                rw [hoo] at ho1 ho2
                have him1 := image_any HTc.out.d
                rw [hlD] at him1
                clear hoo
                go_wp2_with fail
                refine hdead.mono ?_
                clear hdead
                rintro e wa ⟨rfl, rfl⟩
                go_wp2_with fail
                refine ho1.mono ?_
                clear ho1
                rintro e wa ⟨rfl, rfl⟩
                go_wp2_with fail
                refine ho2.mono ?_
                clear ho2
                rintro e wa ⟨rfl, rfl⟩
                go_wp2_with fail
                refine him1.mono ?_
                clear him1
                rintro e wi ⟨g1, c1, rfl, hoi1, hbi⟩
                have HTi : Hid (Two w wi p q F' G' D' E') := HTc.out.below hbi
                have him2 := image_any HTi.out.e
                rw [hlE] at him2
                have HO1 : Hid (Own 0 wi (.slice (some ⟨g1, 0, none⟩) 2048 c1) D'.now) := hoi1.zero
                clear hoi1 hbi
                go_wp2_with fail
                refine him2.mono ?_
                clear him2
                rintro e wj ⟨g2, c2, rfl, hoj, hbj⟩
                have hsm := same_any _ _ _ _ D'.now E'.now wj (HO1.out.rowB HTc.out.d.1.bnow hbj) (hoj.row' HTc.out.e.1.bnow).2
                rw [hlD, hlE, show sameB D'.now E'.now = true by simp [sameB, HPc.out.now]] at hsm
                have HTj : Hid (Two w wj p q F' G' D' E') := HTi.out.below hbj
                clear hoj hbj HTi HO1 hlD hlE
                go_wp2_with fail
                refine hsm.mono ?_
                clear hsm
                rintro e wk ⟨rfl, hbk⟩
                have HTk : Hid (Two w wk p q F' G' D' E') := HTj.out.below hbk
                clear hbk HTj HTc
                go_wp2
                go_roundw
                case rel => exact ⟨k + 1, by omega, by go_num, _, _, _, _, HTk.out, HPc.out⟩
                case measure => simp [intOf]; omega
            · go_wp2
              go_roundw
              case rel => exact ⟨k + 1, by omega, by go_num, _, _, _, _, HT6.out, HP.out.mono⟩
              case measure => simp [intOf]; omega
      · have e : k = l0.length := by omega
        subst e
        have hop := ops_any hT.d
        have hle : D.ops ≤ n := by have := hP.fD; have := hP.f0; omega
        have HB : Hid (Below w.heap.size w wr) := hT.bel
        clear hT hP
        go_wp2_with fail
        refine hop.mono ?_
        rintro e w5 ⟨rfl, rfl⟩
        go_wp2
        go_ret
        exact ⟨rfl, HB.out⟩

end Go.Proofs.Ytanpgfmcgdofgaa.deviceDies
