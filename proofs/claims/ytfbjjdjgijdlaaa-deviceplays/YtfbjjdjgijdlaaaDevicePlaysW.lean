/- The walk: At every deed, from the beginning on, the device answers as the document asks: the same errors, bytes, ops and pages, alive or dead. -/
import Derived.Test.YtfbjjdjgijdlaaaGs
import Derived.Test.YtfbjjdjgijdlaaaGu
import Derived.Test.YtfbjjdjgijdlaaaNp
import Derived.WalkKit
import Derived.Deep.CutBlock
import Derived.Deep.DeepCutAuto
import Derived.Deep.RegionLawGrows
import Derived.ProofKit
import Derived.OpenShut
import Derived.ShutString
import Derived.ChangeOld
import Derived.Below
namespace Go.Proofs.Ytfbjjdjgijdlaaa.devicePlays
open Go.ChangeShapes Go.WideShapes Go.ChangeAt Go.RowKit
open Go.Proofs.Ytfbjjdjgijdlaaa.Oct
set_option linter.unusedVariables false

/-- The device and the document's, both of the one plain state. -/
structure Pr (w wr : World) (p q : Nat) (F G : Nat → Prop) (D : Dv) (k : Nat) : Prop where
  d : Dev wr p F D
  r : RD wr q G D
  lF : ∀ k, F k → w.heap.size ≤ k
  lG : ∀ k, G k → w.heap.size ≤ k
  far : ∀ k, F k → ¬ G k
  bel : Below w.heap.size w wr
  ops : D.ops ≤ k
  si : D.since.length ≤ k
  ou : D.out.length ≤ 200 * k

theorem Pr.below {w wr w2 : World} {p q : Nat} {F G : Nat → Prop} {D : Dv} {k : Nat} (h : Pr w wr p q F G D k) (hb : Below wr.heap.size wr w2) : Pr w w2 p q F G D k :=
  { h with d := h.d.below hb, r := h.r.below hb, bel := h.bel.trans (hb.mono h.bel.size) }
theorem Pr.next {w wr : World} {p q : Nat} {F G : Nat → Prop} {D : Dv} {k : Nat} (h : Pr w wr p q F G D k) : Pr w wr p q F G D (k + 1) :=
  { h with ops := Nat.le_succ_of_le h.ops, si := Nat.le_succ_of_le h.si, ou := by have := h.ou; omega }
/-- What a deed adds. -/
structure Bd (D D' : Dv) : Prop where
  ops : D'.ops ≤ D.ops + 1
  si : D'.since.length ≤ D.since.length + 1
  ou : D'.out.length ≤ D.out.length + 200
theorem bd_sync (D : Dv) : Bd D (syncD D) := by
  unfold syncD
  repeat' split
  all_goals (constructor <;> simp [dieD, opD, setD] <;> omega)
theorem bd_read (D : Dv) : Bd D (readD D) := by
  unfold readD
  repeat' split
  all_goals (constructor <;> simp [dieD, opD] <;> omega)
theorem bd_write (D : Dv) (pg : Nat) (b : List Int) : Bd D (writeD D pg b) := by
  unfold writeD
  repeat' split
  all_goals (constructor <;> simp [dieD, opD, wrD] <;> omega)
theorem bd_fuse (D : Dv) (n : Int) : Bd D (fuseD D n) := by
  unfold fuseD
  split
  all_goals (constructor <;> simp)
theorem bd_out (D : Dv) (l : List Int) (h : l.length ≤ 200) : Bd D (outD D l) := by
  unfold outD
  constructor <;> simp <;> omega
theorem bd_new (D : Dv) (L : List Int) : Bd D (newD L) := by
  constructor <;> simp [newD]
theorem bd_same (D : Dv) : Bd D D := by constructor <;> omega

/-- The one has turned, then the other one. -/
theorem Pr.both {w wr w2 w3 : World} {p q : Nat} {F F' G G' : Nat → Prop} {D D' : Dv} {k : Nat} (h : Pr w wr p q F G D k) (hd : Dev w2 p F' D') (hs : Step F F' wr w2) (hr : RD w3 q G' D') (ht : Step G G' w2 w3) (hbd : Bd D D') : Pr w w3 p q F' G' D' (k + 1) := by
  obtain ⟨b1, lF⟩ := hs.below h.bel.size h.lF
  have hb2 := h.bel.trans b1
  obtain ⟨b2, lG⟩ := ht.below hb2.size h.lG
  have far' : ∀ x, F' x → ¬ G x := fun x hf hg => by
    rcases hs.2 x hf with e | e
    · exact h.far x e hg
    · have := h.r.2.1 x hg; omega
  refine ⟨hd.ch ht.1 far', hr, lF, lG, fun x hf hg => ?_, hb2.trans b2, by have := hbd.ops; have := h.ops; omega, by have := hbd.si; have := h.si; omega, by have := hbd.ou; have := h.ou; omega⟩
  rcases ht.2 x hg with e | e
  · exact far' x hf e
  · have := hd.2.1 x hf; omega
/-- Both anew. -/
theorem Pr.anew {w wr w2 w3 : World} {p q p' q' : Nat} {F F' G G' : Nat → Prop} {D D' : Dv} {k : Nat} (h : Pr w wr p q F G D k) (hd : Dev w2 p' F' D') (b1 : Below wr.heap.size wr w2) (l1 : ∀ x, F' x → wr.heap.size ≤ x) (hr : RD w3 q' G' D') (b2 : Below w2.heap.size w2 w3) (l2 : ∀ x, G' x → w2.heap.size ≤ x) (hbd : Bd D D') : Pr w w3 p' q' F' G' D' (k + 1) := by
  have s0 := h.bel.size
  have s1 := b1.size
  exact ⟨hd.below b2, hr, fun x hx => Nat.le_trans s0 (l1 x hx), fun x hx => Nat.le_trans s0 (Nat.le_trans s1 (l2 x hx)), fun x hf hg => by have := hd.2.1 x hf; have := l2 x hg; omega, (h.bel.trans (b1.mono s0)).trans (b2.mono (Nat.le_trans s0 s1)), by have := hbd.ops; have := h.ops; omega, by have := hbd.si; have := h.si; omega, by have := hbd.ou; have := h.ou; omega⟩
/-- The other one, once the one has turned. -/
theorem Pr.mid {w wr w2 : World} {p q : Nat} {F F' G : Nat → Prop} {D : Dv} {k : Nat} (h : Pr w wr p q F G D k) (hs : Step F F' wr w2) : RD w2 q G D := h.r.ch hs.1 (fun x hg hf => h.far x hf hg)

theorem Pr.im {w wr : World} {p q : Nat} {F G : Nat → Prop} {D : Dv} {k N : Nat} (h : Pr w wr p q F G D k) (hN : D.now.length = N) : Calls Try.prog 31 #[.pointer (some ⟨p, 0, none⟩)] wr fun e w' => ∃ g c, e = .returned (.slice (some ⟨g, 0, none⟩) N c) ∧ Own 0 w' (.slice (some ⟨g, 0, none⟩) N c) D.now ∧ Below wr.heap.size wr w' := by
  have c := image_any h.d
  rw [hN] at c
  exact c.mono fun e w' ⟨g, c, h1, h2, h3⟩ => ⟨g, c, h1, h2.zero, h3⟩
theorem Pr.rim {w wr : World} {p q : Nat} {F G : Nat → Prop} {D : Dv} {k N : Nat} (h : Pr w wr p q F G D k) (hN : D.now.length = N) : Calls Try.prog 32 #[.pointer (some ⟨q, 0, none⟩)] wr fun e w' => ∃ g c, e = .returned (.slice (some ⟨g, 0, none⟩) N c) ∧ Own 0 w' (.slice (some ⟨g, 0, none⟩) N c) D.now ∧ Below wr.heap.size wr w' := by
  have c := rimg_any h.r
  rw [hN] at c
  exact c.mono fun e w' ⟨g, c, h1, h2, h3⟩ => ⟨g, c, h1, h2.zero, h3⟩
theorem same_o {w : World} {g1 g2 c1 c2 N : Nat} {L : List Int} (h1 : Own 0 w (.slice (some ⟨g1, 0, none⟩) N c1) L) (h2 : Own 0 w (.slice (some ⟨g2, 0, none⟩) N c2) L) (hb : Bys L) (hk : L.length = N) : Calls Try.prog 19 #[.slice (some ⟨g1, 0, none⟩) N c1, .slice (some ⟨g2, 0, none⟩) N c2] w fun e w' => e = .returned (.bool true) ∧ Below w.heap.size w w' := by
  have c := same_any _ _ _ _ L L w (h1.row' hb).2 (h2.row' hb).2
  rw [hk, show sameB L L = true by simp [sameB]] at c
  exact c
theorem own_kp {g n cap : Nat} {w w' : World} {zs : List Int} (h : Own 0 w (.slice (some ⟨g, 0, none⟩) n cap) zs) (k : Below w.heap.size w w') : Own 0 w' (.slice (some ⟨g, 0, none⟩) n cap) zs := h.kept (k.block g h.lt2.2)
theorem dead_drew {w : World} {p : Nat} {F : Nat → Prop} {D : Dv} (h : Dev w p F D) : Calls Try.prog 18 #[.pointer (some ⟨p, 0, none⟩)] w.drew fun e w' => e = .returned (.bool D.dead) ∧ w.drew = w' := dead_any (h.below ⟨rfl, rfl, rfl, Nat.le_refl _, fun _ _ => rfl⟩)
theorem Pr.cloned {w w5 w6 w7 w8 w9 : World} {p q r : Nat} {F F' F2 G : Nat → Prop} {D : Dv} {k : Nat} (h : Pr w w5 p q F G D k) (hd : Dev w6 r F' D) (b6 : Below w5.heap.size w5 w6) (l6 : ∀ x, F' x → w5.heap.size ≤ x) (b7 : Below w6.heap.size w6 w7) (s8 : Step F F2 w7 w8) (c9 : Ch w8.heap.size F2 w8 w9) : Pr w w9 r q F' G D (k + 1) := by
  have z5 := h.bel.size
  have z6 := b6.size
  have z7 := b7.size
  have z8 := s8.1.size
  have fF : ∀ x, F x → x < w5.heap.size := h.d.2.1
  have fG : ∀ x, G x → x < w5.heap.size := h.r.2.1
  have f6 : ∀ x, F' x → x < w6.heap.size := hd.2.1
  have d1 : ∀ x, F' x → ¬ F x := fun x h1 h2 => by have := l6 x h1; have := fF x h2; omega
  have n2 : ∀ x, x < w7.heap.size → ¬ F x → ¬ F2 x := fun x h1 h2 h3 => by
    rcases s8.2 x h3 with e | e
    · exact h2 e
    · omega
  have d2 : ∀ x, F' x → ¬ F2 x := fun x h1 => n2 x (by have := f6 x h1; omega) (d1 x h1)
  have dG : ∀ x, G x → ¬ F x := fun x h1 h2 => h.far x h2 h1
  have dG2 : ∀ x, G x → ¬ F2 x := fun x h1 => n2 x (by have := fG x h1; omega) (dG x h1)
  have bel7 : Below w.heap.size w w7 := (h.bel.trans (b6.mono z5)).trans (b7.mono (Nat.le_trans z5 z6))
  obtain ⟨b8, l8⟩ := s8.below bel7.size h.lF
  have bel8 := bel7.trans b8
  have s9 : Step F2 F2 w8 w9 := ⟨c9, fun x hx => .inl hx⟩
  obtain ⟨b9, _⟩ := s9.below bel8.size l8
  exact ⟨((hd.below b7).ch s8.1 d1).ch c9 d2, (((h.r.below b6).below b7).ch s8.1 dG).ch c9 dG2, fun x hx => Nat.le_trans z5 (l6 x hx), h.lG, fun x hf hg => by have := l6 x hf; have := fG x hg; omega, bel8.trans b9, Nat.le_succ_of_le h.ops, Nat.le_succ_of_le h.si, by have := h.ou; omega⟩
set_option maxHeartbeats 16000000 in
set_option maxRecDepth 20000 in
theorem walk (a0 : Int) (a1 : Option Addr) (cap1 : Nat) (l1 : List Dd) (w : World) (w0 : -9223372036854775808 ≤ a0 ∧ a0 ≤ 9223372036854775807) (w1 : IsDeeds w a1 cap1 l1) :
    Calls Try.prog 4 #[.int .i64 a0, .slice a1 l1.length cap1] w fun e w' => e = .returned (.bool true) ∧ Below w.heap.size w w' := by
  obtain ⟨p1, p2⟩ := w0
  obtain ⟨hl1, hl2, hl3⟩ := id w1
  unfold maxLen at hl2
  have hroom := room_any a1 cap1 l1 150
  have HW0 : Hid (IsDeeds w a1 cap1 l1) := w1
  have HL3 : Hid (l1 = [] ∨ ∃ b off, a1 = some ⟨b, off, none⟩ ∧ ∀ i, i < l1.length → DeedAt w b (off + i * 5) (l1.getD i noDeed)) := hl3
  clear w1 hl3
  go_enter Try.func4, Try.ntmps4
  go_wp2_with fail
  refine (awake_any w).mono ?_
  rintro e w1 ⟨rfl, hb1⟩
  have HB1 : Hid (Below w.heap.size w w1) := hb1
  have hi1 : IsDeeds w1 a1 cap1 l1 := by
    obtain ⟨x, y, z⟩ := HW0.out
    refine ⟨x, y, ?_⟩
    rcases z with z | ⟨b, off, e, z⟩
    · exact .inl z
    · exact .inr ⟨b, off, e, fun i hi => (z i hi).below hb1⟩
  have hrm := hroom w1 hi1
  clear hb1 hi1 hroom HW0
  cases hrb : roomB l1 150 with
  | false =>
    rw [hrb] at hrm
    go_wp2_with fail
    refine hrm.mono ?_
    rintro e w2 ⟨rfl, rfl⟩
    go_wp2
    go_ret
    exact ⟨rfl, HB1.out⟩
  | true =>
    have hlen : (l1.length : Int) ≤ 150 := room_len hrb
    have HRB : Hid (∀ k, k < l1.length → (l1.getD k noDeed).b.length ≤ 200) := fun k hk => by
      unfold roomB at hrb
      rw [Bool.and_eq_true, List.all_eq_true] at hrb
      have := hrb.2 (l1.getD k noDeed) (by rw [List.getD_eq_getElem?_getD, List.getElem?_eq_getElem hk]; exact List.getElem_mem hk)
      exact of_decide_eq_true this
    rw [hrb] at hrm
    clear hrb
    by_cases h40 : 40 < a0
    · go_wp2_with fail
      refine hrm.mono ?_
      rintro e w2 ⟨rfl, rfl⟩
      go_wp2
      go_ret
      exact ⟨rfl, HB1.out⟩
    cases haB : aB a0 with
    | false =>
      have hn := new_no a0 w1 haB
      have hrn := rnew_no a0 w1 haB
      clear haB
      go_wp2_with fail
      refine hrm.mono ?_
      clear hrm
      rintro e w2 ⟨rfl, rfl⟩
      go_wp2_with fail
      refine hn.mono ?_
      clear hn
      rintro e w2 ⟨rfl, rfl⟩
      go_wp2_with fail
      refine hrn.mono ?_
      clear hrn
      rintro e w3 ⟨rfl, rfl⟩
      go_wp2
      go_ret
      exact ⟨rfl, HB1.out⟩
    | true =>
      have hab : 8 ≤ a0 ∧ a0 ≤ 4096 := of_decide_eq_true haB
      obtain ⟨n, rfl⟩ := Int.eq_ofNat_of_zero_le (show 0 ≤ a0 by omega)
      have h8 : 8 ≤ n := by omega
      have h4 : n ≤ 4096 := by omega
      have hn := new_yes n w1 h8 h4
      clear haB hab
      go_wp2_with fail
      refine hrm.mono ?_
      clear hrm
      rintro e w2 ⟨rfl, rfl⟩
      go_wp2_with fail
      refine hn.mono ?_
      clear hn
      rintro e w2 ⟨p, F, rfl, hd2, hb2, hF⟩
      have hrn := rnew_yes n w2 h8 h4
      have HB2 : Hid (Below w.heap.size w w2) := HB1.out.trans (hb2.mono HB1.out.size)
      have HD2 : Hid (Dev w2 p F (newD (List.replicate (n * 256) 0))) := hd2
      have HF : Hid (∀ k, F k → w.heap.size ≤ k) := fun k hk => Nat.le_trans HB1.out.size (hF k hk)
      clear hd2 hb2 hF HB1
      go_wp2_with fail
      refine hrn.mono ?_
      clear hrn
      rintro e w3 ⟨q, v1, v2, s1, s2, rfl, hR⟩
      have hR2 : Rf w2 w3 q n n v1 v2 s1 s2 (pageOf (List.replicate (n * 256) 0)) (pageOf (List.replicate (n * 256) 0)) := by
        have ep : ∀ i, i < n → pageOf (List.replicate (n * 256) 0) i = List.replicate 256 (0 : Int) := fun i hi => by
          unfold pageOf
          rw [List.drop_replicate, List.take_replicate]
          congr 1
          omega
        exact { hR with p1 := fun i hi => by rw [ep i hi]; exact hR.p1 i hi, p2 := fun i hi => by rw [ep i hi]; exact hR.p2 i hi }
      obtain ⟨G, hG, lG⟩ := RD.ofRf hR2 (by simp) h8 h4 (bys_rep _)
      have HP0 : Hid (∃ F G D, Pr w w3 p q F G D 0) := ⟨F, G, _, HD2.out.below hR.bel, hG, HF.out, fun k hk => Nat.le_trans HB2.out.size (lG k hk), fun k hf hg => by have := HD2.out.2.1 k hf; have := lG k hg; omega, HB2.out.trans (hR.bel.mono HB2.out.size), Nat.le_refl _, Nat.le_refl _, Nat.le_refl _⟩
      clear hR hR2 hG lG HD2 HF HB2 v1 v2 s1 s2 G F
      go_wp2
      go_loopw [5, 7, 9] (fun dv mv i wr => ∃ k : Nat, k ≤ l1.length ∧ i = .int .i64 k ∧ ∃ p q F G D, dv = .pointer (some ⟨p, 0, none⟩) ∧ mv = .pointer (some ⟨q, 0, none⟩) ∧ Pr w wr p q F G D k) (fun _ _ i _ => l1.length - (intOf i).toNat)
      case atStart =>
        obtain ⟨F, G, D, h⟩ := HP0.out
        exact ⟨0, Nat.zero_le _, rfl, _, _, _, _, _, rfl, rfl, h⟩
      case round =>
        clear HP0
        obtain ⟨k, hk, rfl, p, q, F, G, D, rfl, rfl, hP⟩ := hrel
        by_cases hlt : k < l1.length
        · obtain ⟨bb, off, rfl, hdeeds⟩ := HL3.out.resolve_left (by intro e; rw [e] at hlt; exact absurd hlt (by simp))
          obtain ⟨dd, hdd⟩ : ∃ dd, l1.getD k noDeed = dd := ⟨_, rfl⟩
          have hde := hdeeds k hlt
          have hdb := HRB.out k hlt
          rw [hdd] at hde hdb
          have hdw := hde.below hP.bel
          obtain ⟨x0, x1, x2, x3, x4, hrw, hrn, ⟨u1, u2⟩, ⟨v1, v2⟩, ⟨y1, y2⟩, ⟨f1, f2⟩⟩ := hdw
          obtain ⟨o, ho⟩ : ∃ o, dd.do' = o := ⟨_, rfl⟩
          rw [ho] at x0 u1 u2
          clear ho
          have hlB : ∀ x, dd.ba = some x → 0 < dd.b.length → x.block < w.heap.size := fun x hx hl => by
            obtain ⟨_, _, _, hr4⟩ := hde.row
            rcases hr4 with e | ⟨b0, o0, e, hcell⟩
            · rw [e] at hl; simp at hl
            · rw [hx] at e
              simp only [Option.some.injEq] at e
              rw [e]
              exact block_lt_of_cell (hcell 0 hl)
          have HLB : Hid _ := hlB
          have hb5 : Below wr.heap.size wr (wr.alloc (.cells #[.int .i64 o, .int .i64 dd.n, .int .i64 dd.page, .int .u8 dd.fill, .slice dd.ba dd.b.length dd.bc] 43)) := (Below.refl _ wr).alloc (Nat.le_refl _) _
          have HP5 : Hid (Pr w (wr.alloc (.cells #[.int .i64 o, .int .i64 dd.n, .int .i64 dd.page, .int .u8 dd.fill, .slice dd.ba dd.b.length dd.bc] 43)) p q F G D k) := hP.below hb5
          have HRW : Hid (Row (wr.alloc (.cells #[.int .i64 o, .int .i64 dd.n, .int .i64 dd.page, .int .u8 dd.fill, .slice dd.ba dd.b.length dd.bc] 43)) dd.ba dd.bc dd.b) := hrw.below hb5
          obtain ⟨ab, hab⟩ : ∃ ab, wr.heap.size = ab := ⟨_, rfl⟩
          have hn5 := heap_alloc_new wr (.cells #[.int .i64 o, .int .i64 dd.n, .int .i64 dd.page, .int .u8 dd.fill, .slice dd.ba dd.b.length dd.bc] 43)
          rw [hab] at hn5
          have HNF : Hid (¬ F ab) := fun e => by have := hP.d.2.1 ab e; omega
          have HNG : Hid (¬ G ab) := fun e => by have := hP.r.2.1 ab e; omega
          obtain ⟨w5, hw5⟩ : ∃ w5, wr.alloc (.cells #[.int .i64 o, .int .i64 dd.n, .int .i64 dd.page, .int .u8 dd.fill, .slice dd.ba dd.b.length dd.bc] 43) = w5 := ⟨_, rfl⟩
          rw [hw5] at HP5 HRW hn5
          have HN5 : Hid (w5.heap[ab]? = some (.cells #[.int .i64 o, .int .i64 dd.n, .int .i64 dd.page, .int .u8 dd.fill, .slice dd.ba dd.b.length dd.bc] 43 (0, 0))) := hn5
          have m0 : w5.cell? ⟨ab, 0, none⟩ = some (.int .i64 o) := by rw [cell_of_row w5 ab 0 _ _ (0, 0) hn5]; rfl
          have m1 : w5.cell? ⟨ab, 1, none⟩ = some (.int .i64 dd.n) := by rw [cell_of_row w5 ab 1 _ _ (0, 0) hn5]; rfl
          have m2 : w5.cell? ⟨ab, 2, none⟩ = some (.int .i64 dd.page) := by rw [cell_of_row w5 ab 2 _ _ (0, 0) hn5]; rfl
          have m3 : w5.cell? ⟨ab, 3, none⟩ = some (.int .u8 dd.fill) := by rw [cell_of_row w5 ab 3 _ _ (0, 0) hn5]; rfl
          have m4 : w5.cell? ⟨ab, 4, none⟩ = some (.slice dd.ba dd.b.length dd.bc) := by rw [cell_of_row w5 ab 4 _ _ (0, 0) hn5]; rfl
          have lab : ab < w5.heap.size := heap_lt hn5
          clear hdeeds hdd hde hb5 hP hrw hlB hn5
          go_upto_block 2 with fail
          go_cut [5, 7, 11] (fun s5 s7 s11 wx => ∃ p q F G D, s5 = .pointer (some ⟨p, 0, none⟩) ∧ s7 = .pointer (some ⟨q, 0, none⟩) ∧ s11 = .bool true ∧ Pr w wx p q F G D (k + 1))
          case first =>
            by_cases h4d : o ≤ 4
            · as_aux_lemma =>
                have hpa := page_any dd.fill dd.n w5
                go_wp2_with fail
                refine hpa.mono ?_
                clear hpa
                rintro e w6 ⟨rfl, ho6, hb6⟩
                obtain ⟨pb, hpb⟩ : ∃ pb, w5.heap.size = pb := ⟨_, rfl⟩
                have HP6 : Hid (Pr w w6 p q F G D k) := HP5.out.below hb6
                have m0' := (hb6.cell (p := ⟨ab, 0, none⟩) lab).trans m0
                have m1' := (hb6.cell (p := ⟨ab, 1, none⟩) lab).trans m1
                have m2' := (hb6.cell (p := ⟨ab, 2, none⟩) lab).trans m2
                have lab' : ab < w6.heap.size := Nat.lt_of_lt_of_le lab hb6.size
                have HNFb : Hid (¬ F pb) := fun e => by have := HP5.out.d.2.1 pb e; omega
                have HNGb : Hid (¬ G pb) := fun e => by have := HP5.out.r.2.1 pb e; omega
                rw [hpb] at ho6 ⊢
                obtain ⟨L, hL⟩ : ∃ L, pgL (pgB dd.fill dd.n) = L := ⟨_, rfl⟩
                have HLL : Hid (L.length = 256) := show _ = _ by rw [← hL]; exact pgL_len _
                have HLBy : Hid (Bys L) := show Bys L by rw [← hL]; exact fl_bys (pgB_by _ _) 256
                rw [hL] at ho6
                have HRO : Hid (Row w6 (some ⟨pb, 0, none⟩) 256 L) := (ho6.row' HLBy.out).2
                have HLPB : Hid (pb < w6.heap.size) := ho6.lt2.2
                clear ho6 hb6 hpb hL m0 m1 m2 m3 m4 lab
                by_cases hsh : o = 4 ∧ dd.n < 0
                · obtain ⟨rfl, hn0⟩ := hsh
                  have hw := write_bad HP6.out.d dd.page (some ⟨pb, 1, none⟩) 255 255 (by simp)
                  have hr := rwrite_bad HP6.out.r dd.page (some ⟨pb, 1, none⟩) 255 255 (by simp)
                  go_wp2_with fail
                  refine hw.mono ?_
                  clear hw
                  rintro e w7 ⟨rfl, rfl⟩
                  go_wp2_with fail
                  refine hr.mono ?_
                  clear hr
                  rintro e w7 ⟨rfl, rfl⟩
                  have HPz : Hid (Pr w w6 p q F G D (k + 1)) := HP6.out.next
                  go_wp2
                  go_meet
                  exact ⟨_, _, _, _, _, rfl, rfl, by first | rfl | simp, HPz.out⟩
                · have hns : (decide (o = 4) && decide (dd.n < 0)) = false := by
                    simp only [Bool.and_eq_false_iff, decide_eq_false_iff_not]
                    by_cases e4 : o = 4
                    · exact .inr (fun h => hsh ⟨e4, h⟩)
                    · exact .inl e4
                  by_cases hpg : 0 ≤ dd.page ∧ dd.page < (D.n : Int)
                  · obtain ⟨pg, hpge⟩ := Int.eq_ofNat_of_zero_le hpg.1
                    have hpl : pg < D.n := by omega
                    obtain ⟨PG, hPG⟩ : ∃ PG, dd.page = PG := ⟨_, rfl⟩
                    rw [hPG] at m2' hpge
                    subst hpge
                    have hw := write_any HP6.out.d (by have := HP6.out.ops; omega) (by have := HP6.out.si; omega) pg hpl (some ⟨pb, 0, none⟩) 256 L HRO.out HLL.out
                    obtain ⟨sy, hsy⟩ : ∃ sy, saysD D = sy := ⟨_, rfl⟩
                    rw [hsy] at hw
                    clear hPG
                    by_cases e4 : o = 4
                    · have hn0 : ¬ dd.n < 0 := fun h => hsh ⟨e4, h⟩
                      clear hsh hns
                      subst e4
                      go_wp2_with fail
                      refine hw.mono ?_
                      clear hw
                      rintro e w7 ⟨rfl, F', hd7, hs7⟩
                      have hr := rwrite_any (HP6.out.mid hs7) (by have := HP6.out.ops; omega) (by have := HP6.out.si; omega) pg hpl (some ⟨pb, 0, none⟩) 256 L (HRO.out.ch hs7.1 (fun x hx => by simp only [Option.some.injEq] at hx; rw [← hx]; exact HNFb.out)) HLL.out (fun x hx => by simp only [Option.some.injEq] at hx; rw [← hx]; exact HNGb.out)
                      rw [hsy] at hr
                      have m2z := (hs7.1.cell (p := ⟨ab, 2, none⟩) lab' HNF.out).trans m2'
                      have HD7 : Hid _ := hd7
                      have HS7 : Hid _ := hs7
                      clear hd7 hs7 hsy
                      go_wp2_with fail
                      refine hr.mono ?_
                      clear hr
                      rintro e wz ⟨rfl, G', hr8, hs8⟩
                      obtain ⟨D', hD'⟩ : ∃ D', writeD D pg L = D' := ⟨_, rfl⟩
                      have HPz : Hid (Pr w wz p q F' G' D' (k + 1)) := by rw [← hD']; exact HP6.out.both HD7.out HS7.out hr8 hs8 (bd_write D pg L)
                      clear hr8 hs8 HD7 HS7 hD'
                      go_wp2
                      go_meet
                      exact ⟨_, _, _, _, _, rfl, rfl, by first | rfl | simp, HPz.out⟩
                    · have e4b : (o == 4) = false := by simpa using e4
                      clear hsh hns
                      go_wp2_with fail
                      refine hw.mono ?_
                      clear hw
                      rintro e w7 ⟨rfl, F', hd7, hs7⟩
                      have hr := rwrite_any (HP6.out.mid hs7) (by have := HP6.out.ops; omega) (by have := HP6.out.si; omega) pg hpl (some ⟨pb, 0, none⟩) 256 L (HRO.out.ch hs7.1 (fun x hx => by simp only [Option.some.injEq] at hx; rw [← hx]; exact HNFb.out)) HLL.out (fun x hx => by simp only [Option.some.injEq] at hx; rw [← hx]; exact HNGb.out)
                      rw [hsy] at hr
                      have m2z := (hs7.1.cell (p := ⟨ab, 2, none⟩) lab' HNF.out).trans m2'
                      have HD7 : Hid _ := hd7
                      have HS7 : Hid _ := hs7
                      clear hd7 hs7 hsy
                      go_wp2_with fail
                      refine hr.mono ?_
                      clear hr
                      rintro e wz ⟨rfl, G', hr8, hs8⟩
                      obtain ⟨D', hD'⟩ : ∃ D', writeD D pg L = D' := ⟨_, rfl⟩
                      have HPz : Hid (Pr w wz p q F' G' D' (k + 1)) := by rw [← hD']; exact HP6.out.both HD7.out HS7.out hr8 hs8 (bd_write D pg L)
                      clear hr8 hs8 HD7 HS7 hD'
                      go_wp2
                      go_meet
                      exact ⟨_, _, _, _, _, rfl, rfl, by first | rfl | simp, HPz.out⟩
                  · have hb1 : (hasB D dd.page && decide (256 = 256)) = false := by unfold hasB; simp; omega
                    have hb2 : (decide (0 ≤ dd.page ∧ dd.page < (D.n : Int)) && decide (256 = 256)) = false := by simp; omega
                    have hw := write_bad HP6.out.d dd.page (some ⟨pb, 0, none⟩) 256 256 hb1
                    have hr := rwrite_bad HP6.out.r dd.page (some ⟨pb, 0, none⟩) 256 256 hb2
                    clear hb1 hb2 hpg
                    by_cases e4 : o = 4
                    · have hn0 : ¬ dd.n < 0 := fun h => hsh ⟨e4, h⟩
                      clear hsh hns
                      subst e4
                      go_wp2_with fail
                      refine hw.mono ?_
                      clear hw
                      rintro e w7 ⟨rfl, rfl⟩
                      go_wp2_with fail
                      refine hr.mono ?_
                      clear hr
                      rintro e w7 ⟨rfl, rfl⟩
                      have HPz : Hid (Pr w w6 p q F G D (k + 1)) := HP6.out.next
                      go_wp2
                      go_meet
                      exact ⟨_, _, _, _, _, rfl, rfl, by first | rfl | simp, HPz.out⟩
                    · have e4b : (o == 4) = false := by simpa using e4
                      clear hsh hns
                      go_wp2_with fail
                      refine hw.mono ?_
                      clear hw
                      rintro e w7 ⟨rfl, rfl⟩
                      go_wp2_with fail
                      refine hr.mono ?_
                      clear hr
                      rintro e w7 ⟨rfl, rfl⟩
                      have HPz : Hid (Pr w w6 p q F G D (k + 1)) := HP6.out.next
                      go_wp2
                      go_meet
                      exact ⟨_, _, _, _, _, rfl, rfl, by first | rfl | simp, HPz.out⟩
            by_cases h6d : o ≤ 6
            · as_aux_lemma =>
                by_cases hpg : 0 ≤ dd.page ∧ dd.page < (D.n : Int)
                · obtain ⟨pg, hpge⟩ := Int.eq_ofNat_of_zero_le hpg.1
                  have hpl : pg < D.n := by omega
                  obtain ⟨PG, hPG⟩ : ∃ PG, dd.page = PG := ⟨_, rfl⟩
                  rw [hPG] at m2 hpge
                  subst hpge
                  have hrd := read_any HP5.out.d (by have := HP5.out.ops; omega) pg hpl
                  clear hPG
                  go_wp2_with fail
                  refine hrd.mono ?_
                  clear hrd
                  rintro e w6 ⟨hre, hd6, hc6⟩
                  have hrr := rread_any (HP5.out.mid ⟨hc6, fun x hx => .inl hx⟩) (by have := HP5.out.ops; omega) pg hpl
                  have m2' := (hc6.cell (p := ⟨ab, 2, none⟩) lab HNF.out).trans m2
                  have HD6 : Hid _ := hd6
                  have HC6 : Hid _ := hc6
                  have HPB : Hid (Bys (pageOf D.now pg)) := fun x hx => HP5.out.d.1.bnow x (List.mem_of_mem_drop (List.mem_of_mem_take hx))
                  have HPL : Hid ((pageOf D.now pg).length = 256) := pageOf_len (by rw [HP5.out.d.1.now]; omega)
                  clear hd6 hc6
                  cases htl : tellsD D with
                  | true =>
                    unfold ReadEnd at hre
                    rw [if_pos htl] at hre
                    obtain ⟨g6, c6, rfl, ho6⟩ := hre
                    have HO6 : Hid (Own w5.heap.size w6 (.slice (some ⟨g6, 0, none⟩) 256 c6) (pageOf D.now pg)) := ho6
                    clear ho6
                    go_wp2_with fail
                    refine hrr.mono ?_
                    clear hrr
                    rintro e w7 ⟨hre, hr7, hc7⟩
                    unfold ReadEnd at hre
                    rw [if_pos htl] at hre
                    obtain ⟨g7, c7, rfl, ho7⟩ := hre
                    have hg6 : ¬ G g6 := fun e => by have := HP5.out.r.2.1 g6 e; have := HO6.out.lt2.1; omega
                    have hsm := same_o (N := 256) (HO6.out.zero.kept (hc7.block g6 HO6.out.lt2.2 hg6)) ho7.zero HPB.out HPL.out
                    obtain ⟨D', hD'⟩ : ∃ D', readD D = D' := ⟨_, rfl⟩
                    have HP7 : Hid (Pr w w7 p q F G D' (k + 1)) := by rw [← hD']; exact HP5.out.both HD6.out ⟨HC6.out, fun x hx => .inl hx⟩ hr7 ⟨hc7, fun x hx => .inl hx⟩ (bd_read D)
                    clear hr7 hc7 HD6 HC6 HP5 hD' ho7 HO6 hg6 htl
                    go_wp2_with fail
                    refine hsm.mono ?_
                    clear hsm
                    rintro e wz ⟨rfl, hbz⟩
                    have HPz : Hid (Pr w wz p q F G D' (k + 1)) := HP7.out.below hbz
                    clear hbz HP7
                    go_wp2
                    go_meet
                    exact ⟨_, _, _, _, _, rfl, rfl, by first | rfl | simp, HPz.out⟩
                  | false =>
                    have hne : ¬ tellsD D = true := by rw [htl]; simp
                    unfold ReadEnd at hre
                    rw [if_neg hne] at hre
                    subst hre
                    go_wp2_with fail
                    refine hrr.mono ?_
                    clear hrr
                    rintro e w7 ⟨hre, hr7, hc7⟩
                    unfold ReadEnd at hre
                    rw [if_neg hne] at hre
                    subst hre
                    have hsm := same_any none none 0 0 [] [] w7 (row_nil _) (row_nil _)
                    rw [show sameB ([] : List Int) [] = true from rfl, show ([] : List Int).length = 0 from rfl] at hsm
                    obtain ⟨D', hD'⟩ : ∃ D', readD D = D' := ⟨_, rfl⟩
                    have HP7 : Hid (Pr w w7 p q F G D' (k + 1)) := by rw [← hD']; exact HP5.out.both HD6.out ⟨HC6.out, fun x hx => .inl hx⟩ hr7 ⟨hc7, fun x hx => .inl hx⟩ (bd_read D)
                    clear hr7 hc7 HD6 HC6 HP5 hD' htl hne
                    go_wp2_with fail
                    refine hsm.mono ?_
                    clear hsm
                    rintro e wz ⟨rfl, hbz⟩
                    have HPz : Hid (Pr w wz p q F G D' (k + 1)) := HP7.out.below hbz
                    clear hbz HP7
                    go_wp2
                    go_meet
                    exact ⟨_, _, _, _, _, rfl, rfl, by first | rfl | simp, HPz.out⟩
                · have hbad : hasB D dd.page = false := by unfold hasB; simp; omega
                  have hrd := read_bad HP5.out.d dd.page hbad
                  have hrr := rread_bad HP5.out.r dd.page hbad
                  have hsm := same_any none none 0 0 [] [] w5 (row_nil _) (row_nil _)
                  rw [show sameB ([] : List Int) [] = true from rfl, show ([] : List Int).length = 0 from rfl] at hsm
                  clear hbad
                  go_wp2_with fail
                  refine hrd.mono ?_
                  clear hrd
                  rintro e w6 ⟨rfl, rfl⟩
                  go_wp2_with fail
                  refine hrr.mono ?_
                  clear hrr
                  rintro e w6 ⟨rfl, rfl⟩
                  go_wp2_with fail
                  refine hsm.mono ?_
                  clear hsm
                  rintro e wz ⟨rfl, hbz⟩
                  obtain ⟨D', hD'⟩ : ∃ D', D = D' := ⟨_, rfl⟩
                  have HPz : Hid (Pr w wz p q F G D' (k + 1)) := by rw [← hD']; exact (HP5.out.below hbz).next
                  clear hbz HP5 hD'
                  go_wp2
                  go_meet
                  exact ⟨_, _, _, _, _, rfl, rfl, by first | rfl | simp, HPz.out⟩
            by_cases h8d : o ≤ 8
            · as_aux_lemma =>
                have hsy := sync_any HP5.out.d (by have := HP5.out.ops; omega)
                go_wp2_with fail
                refine hsy.mono ?_
                clear hsy
                rintro e w6 ⟨rfl, hd6, hc6⟩
                have hrs := rsync_any (HP5.out.mid ⟨hc6, fun x hx => .inl hx⟩) (by have := HP5.out.ops; omega)
                obtain ⟨sy, hsy⟩ : ∃ sy, saysD D = sy := ⟨_, rfl⟩
                rw [hsy] at hrs ⊢
                have HD6 : Hid _ := hd6
                have HC6 : Hid _ := hc6
                clear hd6 hc6 hsy
                go_wp2_with fail
                refine hrs.mono ?_
                clear hrs
                rintro e wz ⟨rfl, G', hr7, hs7⟩
                obtain ⟨D', hD'⟩ : ∃ D', syncD D = D' := ⟨_, rfl⟩
                have HPz : Hid (Pr w wz p q F G' D' (k + 1)) := by rw [← hD']; exact HP5.out.both HD6.out ⟨HC6.out, fun x hx => .inl hx⟩ hr7 hs7 (bd_sync D)
                clear hr7 hs7 HD6 HC6 HP5 hD'
                go_wp2
                go_meet
                exact ⟨_, _, _, _, _, rfl, rfl, by first | rfl | simp, HPz.out⟩
            by_cases h9d : o = 9
            · as_aux_lemma =>
                subst h9d
                have hou := outcomes_any HP5.out.d dd.ba dd.bc dd.b HRW.out hrn (by have := HP5.out.ou; omega)
                go_wp2_with fail
                refine hou.mono ?_
                clear hou
                rintro e w6 ⟨rfl, F', hd6, hs6⟩
                obtain ⟨b0, n0, k0, c3, z3, hO, hqO, hq, hOF, hend⟩ := (HP5.out.mid hs6).outed dd.b (outD_ok HP5.out.r.1 HRW.out.1)
                have m4' := (hs6.1.cell (p := ⟨ab, 4, none⟩) lab HNF.out).trans m4
                have HR6 : Hid (Row w6 dd.ba dd.bc dd.b) := row_ch0 HRW.out hs6.1 (fun x hx hl hf => by have := HLB.out x hx hl; have := HP5.out.lF x.block hf; omega)
                have HD6 : Hid (Dev w6 p F' (outD D dd.b)) := hd6
                have HS6 : Hid (Step F F' w5 w6) := hs6
                have HE : Hid _ := hend
                have HO : Hid (OutAt w6 (.slice b0 n0 k0) D.out) := hO
                have HSZ : Hid (D.out.length + dd.b.length ≤ 1000000) := by show _ ≤ _; have := HP5.out.ou; omega
                have HOd : Hid (OutAt w6.drew (.slice b0 n0 k0) D.out) := HO.out
                have HRd : Hid (Row w6.drew dd.ba dd.bc dd.b) := HR6.out.below (Below.refl _ _).drew
                clear hd6 hs6 hend hO m0 m1 m2 m3 m4
                go_wp2_with fail
                go_region_law ((refine step_append_out (by rfl) (.tmp 143) (.tmp 145) (by rfl) (.slice b0 n0 k0) D.out dd.b (by rfl) HOd.out dd.ba dd.bc (by rfl) HRd.out hrn HSZ.out ?_; intro b7 n7 k7 w7 ho7 hgr7 hat7; have d3 : w7.cell? ⟨q, 3, none⟩ = some (.slice b0 n0 k0) := (World.cell?_of_block (w := w6) (a := ⟨q, 3, none⟩) (hgr7.block q hq (fun e => hqO e.symm))).trans c3; have y3 : w7.frozen? ⟨q, 3, none⟩ = false := (World.frozen?_of_block (w := w6) (a := ⟨q, 3, none⟩) (hgr7.block q hq (fun e => hqO e.symm))).trans z3; have HX : Hid (∃ F', RD (w7.setCell ⟨q, 3, none⟩ (.slice b7 n7 k7)) q F' (outD D dd.b) ∧ Step G F' w6 (w7.setCell ⟨q, 3, none⟩ (.slice b7 n7 k7))) := HE.out w7 (.slice b7 n7 k7) ho7 ⟨hgr7.os, hgr7.tape, hgr7.output, hgr7.size, hgr7.block⟩ hat7; clear ho7 hgr7 hat7))
                all_goals
                  obtain ⟨G', hr7, hs7⟩ := HX.out
                  obtain ⟨D', hD'⟩ : ∃ D', outD D dd.b = D' := ⟨_, rfl⟩
                  have HPz : Hid (Pr w (w7.setCell ⟨q, 3, none⟩ (.slice b7 n7 k7)) p q F' G' D' (k + 1)) := by rw [← hD']; exact HP5.out.both HD6.out HS6.out hr7 hs7 (bd_out D dd.b hdb)
                  clear hr7 hs7 hD'
                  go_wp2
                  go_meet
                  exact ⟨_, _, _, _, _, rfl, rfl, by first | rfl | simp, HPz.out⟩
            by_cases h10 : o = 10
            · as_aux_lemma =>
                subst h10
                have hfu := fuse_any HP5.out.d dd.n v1 v2
                go_wp2_with fail
                refine hfu.mono ?_
                clear hfu
                rintro e w6 ⟨rfl, hd6, hc6⟩
                have hra := rarm_any (HP5.out.mid ⟨hc6, fun x hx => .inl hx⟩) dd.n v1 v2
                have m1' := (hc6.cell (p := ⟨ab, 1, none⟩) lab HNF.out).trans m1
                have HD6 : Hid _ := hd6
                have HC6 : Hid _ := hc6
                clear hd6 hc6
                go_wp2_with fail
                refine hra.mono ?_
                clear hra
                rintro e wz ⟨rfl, hr7, hc7⟩
                obtain ⟨D', hD'⟩ : ∃ D', fuseD D dd.n = D' := ⟨_, rfl⟩
                have HPz : Hid (Pr w wz p q F G D' (k + 1)) := by rw [← hD']; exact HP5.out.both HD6.out ⟨HC6.out, fun x hx => .inl hx⟩ hr7 ⟨hc7, fun x hx => .inl hx⟩ (bd_fuse D dd.n)
                clear hr7 hc7 HD6 HC6 HP5 hD'
                go_wp2
                go_meet
                exact ⟨_, _, _, _, _, rfl, rfl, by first | rfl | simp, HPz.out⟩
            by_cases h11 : o = 11
            · as_aux_lemma =>
                subst h11
                have hcr := crash_any HP5.out.d (by have := HP5.out.si; omega) dd.ba dd.bc dd.b HRW.out
                go_wp2_with fail
                refine hcr.mono ?_
                clear hcr
                rintro e w6 ⟨p', F', rfl, hd6, hb6, lF6⟩
                have hrc := rcrash_any (HP5.out.r.below hb6) (by have := HP5.out.si; omega) dd.ba dd.bc dd.b (HRW.out.below hb6)
                have m4' := (hb6.cell (p := ⟨ab, 4, none⟩) lab).trans m4
                have HD6 : Hid _ := hd6
                have HB6 : Hid _ := hb6
                have HL6 : Hid _ := lF6
                clear hd6 hb6 lF6
                go_wp2_with fail
                refine hrc.mono ?_
                clear hrc
                rintro e wz ⟨q', G', rfl, hr7, hb7, lG7⟩
                obtain ⟨D', hD'⟩ : ∃ D', crashD D dd.b = D' := ⟨_, rfl⟩
                have HPz : Hid (Pr w wz p' q' F' G' D' (k + 1)) := by rw [← hD']; exact HP5.out.anew HD6.out HB6.out HL6.out hr7 hb7 lG7 (bd_new D _)
                clear hr7 hb7 lG7 HD6 HB6 HL6 HP5 hD'
                go_wp2
                go_meet
                exact ⟨_, _, _, _, _, rfl, rfl, by first | rfl | simp, HPz.out⟩
            as_aux_lemma =>
              have hge : 12 ≤ o := by omega
              have hq9 : (o == 9) = false := by simp; omega
              have hq10 : (o == 10) = false := by simp; omega
              have hq11 : (o == 11) = false := by simp; omega
              clear h4d h6d h8d h9d h10 h11
              have hcl := clone_any HP5.out.d (by have := HP5.out.si; omega) (by have := HP5.out.ou; omega)
              go_wp2_with fail
              refine hcl.mono ?_
              clear hcl
              rintro e w6 ⟨r, F6, rfl, hd6, hb6, l6⟩
              have HD6 : Hid _ := hd6
              have HB6 : Hid _ := hb6
              have HL6 : Hid _ := l6
              clear hd6 hb6 l6 m0 m1 m2 m3 m4
              go_wp2_with fail
              refine (page_any 9 1 w6).mono ?_
              rintro e w7 ⟨rfl, ho7, hb7⟩
              have hrow7 := (ho7.row' (show Bys (pgL (pgB 9 1)) from fl_bys (pgB_by _ _) 256)).2
              have hd7 : Dev w7 p F D := (HP5.out.d.below HB6.out).below hb7
              have hw := write_any hd7 (by have := HP5.out.ops; omega) (by have := HP5.out.si; omega) 2 (by have := HP5.out.d.1.n8; omega) (some ⟨w6.heap.size, 0, none⟩) 256 _ hrow7 (pgL_len _)
              have HB7 : Hid (Below w6.heap.size w6 w7) := hb7
              clear ho7 hb7 hrow7 hd7
              go_wp2_with fail
              refine hw.mono ?_
              clear hw
              rintro e w8 ⟨rfl, F8, hd8, hs8⟩
              have hf := fuse_any hd8 0 (by decide) (by decide)
              have HS8 : Hid (Step F F8 w7 w8) := hs8
              clear hd8 hs8
              go_wp2_with fail
              refine hf.mono ?_
              clear hf
              rintro e wz ⟨rfl, _, hc9⟩
              have HPz : Hid (Pr w wz r q F6 G D (k + 1)) := HP5.out.cloned HD6.out HB6.out HL6.out HB7.out HS8.out hc9
              clear hc9
              go_wp2
              go_meet
              exact ⟨_, _, _, _, _, rfl, rfl, by first | rfl | simp, HPz.out⟩
          case rest =>
            as_aux_lemma =>
              obtain ⟨p, q, F', G', D', rfl, rfl, rfl, hPz⟩ := hcut
              have HPz : Hid (Pr w wc p q F' G' D' (k + 1)) := hPz
              clear hPz
              obtain ⟨gq, cq, n1z⟩ := HPz.out.r.now
              have n6z := HPz.out.r.dead
              have n5z := HPz.out.r.ops
              obtain ⟨NN, hNN⟩ : ∃ NN, D'.now.length = NN := ⟨_, rfl⟩
              have HN : Hid (D'.now.length = NN) := hNN
              have HPzd : Hid (Pr w wc.drew p q F' G' D' (k + 1)) := HPz.out.below ⟨rfl, rfl, rfl, Nat.le_refl _, fun _ _ => rfl⟩
              clear hNN
              go_wp2_with fail
              go_region_held3 (fun w' => w'.cell? ⟨q, 6, none⟩ = some (.bool D'.dead) ∧ w'.cell? ⟨q, 5, none⟩ = some (.int .i64 D'.ops) ∧ w'.cell? ⟨q, 1, none⟩ = some (.slice (some ⟨gq, 0, none⟩) D'.n cq)) (first | go_keep | exact ⟨by assumption, by assumption, by assumption⟩) (first | (go_at_call 18; refine (dead_drew HPz.out.d).mono ?_; rintro e wx ⟨rfl, rfl⟩) | (go_at_call 29; refine (ops_any HPzd.out.d).mono ?_; rintro e wx ⟨rfl, rfl⟩) | (go_at_call 30; refine (pages_any HPzd.out.d).mono ?_; rintro e wx ⟨rfl, rfl⟩) | (go_at_call 31; refine (HPzd.out.im HN.out).mono ?_; rintro e wi ⟨gi, ci, rfl, hoi, hbi⟩; have HOI : Hid (Own 0 wi (.slice (some ⟨gi, 0, none⟩) NN ci) D'.now) := hoi; have HPwi : Hid (Pr w wi p q F' G' D' (k + 1)) := HPzd.out.below hbi; have n6wi := HPwi.out.r.dead; have n5wi := HPwi.out.r.ops; have n1wi := (hbi.cell (p := ⟨q, 1, none⟩) HPzd.out.r.q.2).trans n1z; clear hoi hbi) | (go_at_call 32; refine (HPwi.out.rim HN.out).mono ?_; rintro e wj ⟨gj, cj, rfl, hoj, hbj⟩; have HOJ : Hid (Own 0 wj (.slice (some ⟨gj, 0, none⟩) NN cj) D'.now) := hoj; have HOI2 : Hid (Own 0 wj (.slice (some ⟨gi, 0, none⟩) NN ci) D'.now) := own_kp HOI.out hbj; have HPwj : Hid (Pr w wj p q F' G' D' (k + 1)) := HPwi.out.below hbj; have n6wj := HPwj.out.r.dead; have n5wj := HPwj.out.r.ops; have n1wj := (hbj.cell (p := ⟨q, 1, none⟩) HPwi.out.r.q.2).trans n1wi; clear hoj hbj) | (go_at_call 19; refine (same_o HOI2.out HOJ.out HPwj.out.d.1.bnow HN.out).mono ?_; rintro e wk ⟨rfl, hbk⟩; have HPwk : Hid (Pr w wk p q F' G' D' (k + 1)) := HPwj.out.below hbk; have n6wk := HPwk.out.r.dead; have n5wk := HPwk.out.r.ops; have n1wk := (hbk.cell (p := ⟨q, 1, none⟩) HPwj.out.r.q.2).trans n1wj; clear hbk))
              go_wp2
              go_roundw
              case rel => exact ⟨k + 1, by omega, by go_num, _, _, _, _, _, rfl, rfl, HPwk.out⟩
              case measure => simp [intOf]; omega
        · have e : k = l1.length := by omega
          subst e
          have HB : Hid (Below w.heap.size w wr) := hP.bel
          clear hP
          go_wp2
          go_ret
          exact ⟨rfl, HB.out⟩

end Go.Proofs.Ytfbjjdjgijdlaaa.devicePlays
