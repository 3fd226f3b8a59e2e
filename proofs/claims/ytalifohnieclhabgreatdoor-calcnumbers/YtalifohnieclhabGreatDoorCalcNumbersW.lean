/- The walk: Of any text: a number that is read, without a sign, has that value as an expression; with a sign ahead the other one. -/
import Derived.Test.YtalifohnieclhabGreatDoorAk4
import Derived.Test.YtalifohnieclhabGreatDoorPc
import Derived.WalkKit
import Derived.ProofKit
import Derived.OpenShut
import Derived.ShutString
import Derived.ChangeOld
import Derived.Below
import Derived.LaidMore
import Derived.Lay
import Derived.SevenTiedAt
import Derived.Stop.Joined
namespace Go.Proofs.YtalifohnieclhabGreatDoor.calcNumbers
open Go.ChangeShapes Go.WideShapes Go.ChangeAt Go.RowKit
open Go.Proofs.YtalifohnieclhabGreatDoor.Oct Go.Proofs.YtalifohnieclhabGreatDoor.Fl
open Go.ChangeMaps (open_string shut_string)
set_option linter.unusedVariables false

theorem neg_at (x : Nat) (w : World) : (Op.unary .neg (.float .f64 x)).run Tryz.prog w = .ok (.float .f64 (Op.negFloat .f64 x)) w := rfl

theorem index1_mk (c b : UInt8) (m : List UInt8) (W : World) : (Instr.index 9 (.string ⟨(c :: b :: m).toArray⟩) (.int .i64 1)).run Tryz.prog W = .ok (.int .u8 (b.toNat : Int)) W := by
  rw [run_index_string _ 9 _ .i64 1 Tryz.underlying9]
  rw [dif_pos ⟨by omega, by rw [sz_mk]; simp; omega⟩]
  rfl

/-- What Read answers, and what Eval answers of that text, with a sign and without. -/
def Num (l : List UInt8) (ok : Bool) (u : Nat) : Prop :=
  (∀ w, Calls Tryz.prog 11 #[.string ⟨l.toArray⟩] w fun e w' => ∃ x, e = .returned (.tuple #[.float .f64 x, .bool ok]) ∧ x < 2 ^ 64 ∧ nb x = u ∧ Below w.heap.size w w') ∧
  (∃ c y, (ok = true → c = 0 ∧ y = u) ∧ ∀ w, Calls Tryz.prog 8 #[.string ⟨l.toArray⟩] w fun e w' => ∃ x, e = .returned (.tuple #[.float .f64 x, .int .i64 (c : Nat)]) ∧ x < 2 ^ 64 ∧ nb x = y ∧ Below w.heap.size w w') ∧
  (∃ c y, (ok = true → c = 0 ∧ y = negN u) ∧ ∀ w, Calls Tryz.prog 8 #[.string ((⟨#[45]⟩ : ByteArray) ++ ⟨l.toArray⟩)] w fun e w' => ∃ x, e = .returned (.tuple #[.float .f64 x, .int .i64 (c : Nat)]) ∧ x < 2 ^ 64 ∧ nb x = y ∧ Below w.heap.size w w')

theorem evals (n : Nat) (l : List UInt8) (hn : l.length + 1 < n) (ok : Bool) (u : Nat) (h : ok = true → pW n l = some (u, [], 0) ∧ pW n (45 :: l) = some (negN u, [], 1) ∧ l.length ≤ 1000)
    (hR : ∀ w, Calls Tryz.prog 11 #[.string ⟨l.toArray⟩] w fun e w' => ∃ x, e = .returned (.tuple #[.float .f64 x, .bool ok]) ∧ x < 2 ^ 64 ∧ nb x = u ∧ Below w.heap.size w w') : Num l ok u := by
  refine ⟨hR, ⟨evE n l, evV n l, fun ho => ?_, fun w => eval_any n l w (by omega)⟩, ⟨evE n (45 :: l), evV n (45 :: l), fun ho => ?_, fun w => eval_ba n _ (45 :: l) w (by simp [ByteArray.data_append]) (by simpa using hn)⟩⟩
  · obtain ⟨h1, h2, h3⟩ := h ho
    unfold evE evV
    rw [if_neg (by omega), if_neg (by omega), h1]
    exact ⟨rfl, rfl⟩
  · obtain ⟨h1, h2, h3⟩ := h ho
    unfold evE evV
    rw [if_neg (by simp; omega), if_neg (by simp; omega), h2]
    exact ⟨rfl, rfl⟩

theorem dok_nc {l : List UInt8} (h : dOk l = true) : ∀ b ∈ l, nc b = true := by
  unfold dOk at h
  simp only [Bool.and_eq_true] at h
  have hA : (dA l).all dgU = true := h.1.1.2.2
  have dg : ∀ b : UInt8, dgU b = true → nc b = true := by
    intro b hb
    have : ∀ i : Fin 256, dgU (UInt8.ofNat i.val) = true → nc (UInt8.ofNat i.val) = true := by decide +kernel
    have := this ⟨b.toNat, b.toNat_lt⟩
    simpa using this (by simpa using hb)
  intro b hb
  rw [← List.takeWhile_append_dropWhile (p := (· != (46 : UInt8))) (l := l)] at hb
  rcases List.mem_append.1 hb with hb | hb
  · exact dg b (List.all_eq_true.1 hA b hb)
  · by_cases hp : l.contains 46 = true
    · have hB : (dB l).all dgU = true := by
        have := h.1.2
        rw [hp] at this
        simp at this
        simpa using this.2
      cases hd : l.dropWhile (· != (46 : UInt8)) with
      | nil => rw [hd] at hb; cases hb
      | cons c m =>
        rw [hd] at hb
        rcases List.mem_cons.1 hb with rfl | hb
        · have hc := List.head?_dropWhile_not (fun x => x != (46 : UInt8)) l
          rw [hd] at hc
          simp at hc
          subst hc; decide
        · refine dg b (List.all_eq_true.1 hB b ?_)
          unfold dB; rw [hd]; exact hb
    · have h0 := (ix_both 46 l).2
      rw [Bool.not_eq_true] at hp
      have hi : ¬ 0 ≤ Lib.indexByte l 46 := fun h => by rw [((ix_both 46 l).1 h).1] at hp; cases hp
      rw [(h0 hi).2.2] at hb; cases hb

theorem num_word (l : List UInt8) (r u : Nat) (hr : r < 2 ^ 64 ∧ nb r = u) (h1 : pW 10 l = some (u, [], 0)) (h2 : pW 10 (45 :: l) = some (negN u, [], 1)) (hl : l.length + 1 < 10)
    (hR : ∀ w, Calls Tryz.prog 11 #[.string ⟨l.toArray⟩] w fun e w' => e = .returned (.tuple #[.float .f64 r, .bool true]) ∧ w = w') : ∃ ok u, Num l ok u :=
  ⟨true, u, evals 10 l hl true u (fun _ => ⟨h1, h2, by omega⟩) (fun w => (hR w).mono (by rintro e w' ⟨rfl, rfl⟩; exact ⟨r, rfl, hr.1, hr.2, Below.refl _ _⟩))⟩

theorem num_any (l : List UInt8) (hl : l.length ≤ 1000) (hm : tk [45] l = false) (hx : tk [48, 120] l = false) : ∃ ok u, Num l ok u := by
  by_cases h1 : l = [110, 97, 110]
  · subst h1
    exact num_word _ _ 0x7ff8000000000001 ⟨by decide, nb_a⟩ (by decide +kernel) (by decide +kernel) (by decide) read_nan_word
  by_cases h2 : l = [105, 110, 102]
  · subst h2
    exact num_word _ _ 0x7ff0000000000000 ⟨by decide, nb_b⟩ (by decide +kernel) (by decide +kernel) (by decide) read_inf_word
  refine ⟨dOk l, if dOk l then dV l else 0, evals 2000 l (by omega) _ _ (fun ho => ?_) (fun w => (read_pos l w h1 h2 hm hx (by omega)).mono ?_)⟩
  · have hn := dok_nc ho
    have hd : dcm l = some (dV l) := if_pos ho
    have hf := fun n => pF_nc n hn hd
    rw [ho]
    refine ⟨pW_one 1999 (tb_nc hn) (hf 1999), ?_, hl⟩
    refine pW_one 1999 ?_ (pF_neg 1999 (tb_nc hn) (hf 1998))
    rw [tb_cons, if_neg (by decide)]
  · rintro e w' ⟨⟨r, rfl, hr, h3, h4⟩, hb⟩
    refine ⟨r, rfl, hr, ?_, hb⟩
    cases ho : dOk l with
    | true => exact h3 ho
    | false => rw [h4 ho]; show nb 0 = 0; decide +kernel
set_option maxHeartbeats 4000000 in
set_option maxRecDepth 100000 in
theorem walk (a0 : ByteArray) (w : World) (w0 : a0.size ≤ maxLen) :
    Calls Tryz.prog 6 #[.string a0] w fun e w' => e = .returned (.bool true) ∧ Below w.heap.size w w' := by
  obtain ⟨l, hl⟩ : ∃ l, a0.data.toList = l := ⟨_, rfl⟩
  obtain rfl : a0 = ⟨l.toArray⟩ := ba_eq hl
  clear hl
  have hs := sz_mk l
  by_cases h1000 : 1000 < l.length
  · have h1 : (1000 : Int) < (l.length : Int) := by omega
    go_enter Tryz.func6, Tryz.ntmps6
    go_wp2_with fail
    refine (awake4 _).mono ?_
    rintro e w1 ⟨rfl, hb⟩
    have HB1 : Hid (Below w.heap.size w w1) := hb
    clear hb
    go_wp2
    go_ret
    exact ⟨rfl, HB1.out⟩
  have h1 : ¬ (1000 : Int) < (l.length : Int) := by omega
  cases l with
  | nil =>
    obtain ⟨ok, u, hnum⟩ := num_any [] (by simp) rfl rfl
    obtain ⟨hR, ⟨c1, y1, hc1, hE1⟩, ⟨c2, y2, hc2, hE2⟩⟩ := hnum
    have HC : Hid ((ok = true → c1 = 0 ∧ y1 = u) ∧ (ok = true → c2 = 0 ∧ y2 = negN u)) := ⟨hc1, hc2⟩
    clear hc1 hc2
    go_enter Tryz.func6, Tryz.ntmps6
    go_wp2_with fail
    refine (awake4 _).mono ?_
    rintro e w1 ⟨rfl, hb⟩
    have HB1 : Hid (Below w.heap.size w w1) := hb
    clear hb
    go_wp2_with fail
    refine (hR _).mono ?_
    rintro e w2 ⟨x, rfl, hx, hn, hb⟩
    have HB2 : Hid (Below w.heap.size w w2) := HB1.out.trans (hb.mono HB1.out.size)
    have HX : Hid (x < 2 ^ 64 ∧ nb x = u) := ⟨hx, hn⟩
    clear hx hn hb
    go_wp2_with fail
    refine (hE1 _).mono ?_
    rintro e w3 ⟨y, rfl, hx, hn, hb⟩
    have HB3 : Hid (Below w.heap.size w w3) := HB2.out.trans (hb.mono HB2.out.size)
    have HY : Hid (y < 2 ^ 64 ∧ nb y = y1) := ⟨hx, hn⟩
    clear hx hn hb
    go_wp2_with fail
    refine (hE2 _).mono ?_
    rintro e w4 ⟨z, rfl, hx, hn, hb⟩
    have HB4 : Hid (Below w.heap.size w w4) := HB3.out.trans (hb.mono HB3.out.size)
    have HZ : Hid (z < 2 ^ 64 ∧ nb z = y2) := ⟨hx, hn⟩
    clear hx hn hb hR hE1 hE2
    cases ok with
    | false =>
      go_wp2
      go_ret
      exact ⟨rfl, HB4.out⟩
    | true =>
      have e1 := HC.out.1 rfl
      have e2 := HC.out.2 rfl
      obtain ⟨rfl, hy1⟩ := e1
      obtain ⟨rfl, hy2⟩ := e2
      have hnx := neg_val HX.out.1
      have hbx : nb y = nb x := by rw [HX.out.2, HY.out.2, hy1]
      have hbz : nb (Op.negFloat .f64 x) = nb z := by rw [HZ.out.2, hy2, hnx.2, HX.out.2]
      have hng := neg_at x w4
      have b1 := fun w => bits_any x w
      have b2 := fun w => bits_any y w
      have b3 := fun w => bits_any z w
      have b4 := fun w => bits_any (Op.negFloat .f64 x) w
      rw [hbx] at b2
      rw [hbz] at b4
      generalize Op.negFloat .f64 x = v at *
      generalize nb x = N at *
      generalize nb z = M at *
      clear hnx hy1 hy2 hbx hbz HC HX HY HZ
      go_wp2_with fail
      refine (b1 _).mono ?_
      rintro e w' ⟨rfl, rfl⟩
      go_wp2_with fail
      refine (b2 _).mono ?_
      rintro e w' ⟨rfl, rfl⟩
      go_wp2_with fail
      refine (b3 _).mono ?_
      rintro e w' ⟨rfl, rfl⟩
      go_wp2_with fail
      refine (b4 _).mono ?_
      rintro e w' ⟨rfl, rfl⟩
      go_wp2
      go_ret
      exact ⟨rfl, HB4.out⟩
  | cons c m =>
    have ix0 := fun W => index_mk c m W
    by_cases h45 : c = 45
    · subst h45
      have hp : (0 : Int) < ((45 :: m : List UInt8).length : Int) := by simp
      go_enter Tryz.func6, Tryz.ntmps6
      go_wp2_with fail
      refine (awake4 _).mono ?_
      rintro e w1 ⟨rfl, hb⟩
      have HB1 : Hid (Below w.heap.size w w1) := hb
      clear hb
      go_wp2
      go_ret
      exact ⟨rfl, HB1.out⟩
    have h45' : ¬ (c.toNat : Int) = 45 := fun h => h45 (UInt8.toNat_inj.1 (by simpa using (by omega : c.toNat = 45)))
    have hm : tk [45] (c :: m) = false := by
      refine Bool.eq_false_iff.2 fun h => ?_
      simp [tk] at h
      exact h45 h.symm
    cases m with
    | nil =>
      obtain ⟨ok, u, hnum⟩ := num_any [c] (by simp) hm (by simp [tk, List.isPrefixOf])
      clear hm h45
      obtain ⟨hR, ⟨c1, y1, hc1, hE1⟩, ⟨c2, y2, hc2, hE2⟩⟩ := hnum
      have HC : Hid ((ok = true → c1 = 0 ∧ y1 = u) ∧ (ok = true → c2 = 0 ∧ y2 = negN u)) := ⟨hc1, hc2⟩
      clear hc1 hc2
      go_enter Tryz.func6, Tryz.ntmps6
      go_wp2_with fail
      refine (awake4 _).mono ?_
      rintro e w1 ⟨rfl, hb⟩
      have HB1 : Hid (Below w.heap.size w w1) := hb
      clear hb
      go_wp2_with fail
      refine (hR _).mono ?_
      rintro e w2 ⟨x, rfl, hx, hn, hb⟩
      have HB2 : Hid (Below w.heap.size w w2) := HB1.out.trans (hb.mono HB1.out.size)
      have HX : Hid (x < 2 ^ 64 ∧ nb x = u) := ⟨hx, hn⟩
      clear hx hn hb
      go_wp2_with fail
      refine (hE1 _).mono ?_
      rintro e w3 ⟨y, rfl, hx, hn, hb⟩
      have HB3 : Hid (Below w.heap.size w w3) := HB2.out.trans (hb.mono HB2.out.size)
      have HY : Hid (y < 2 ^ 64 ∧ nb y = y1) := ⟨hx, hn⟩
      clear hx hn hb
      go_wp2_with fail
      refine (hE2 _).mono ?_
      rintro e w4 ⟨z, rfl, hx, hn, hb⟩
      have HB4 : Hid (Below w.heap.size w w4) := HB3.out.trans (hb.mono HB3.out.size)
      have HZ : Hid (z < 2 ^ 64 ∧ nb z = y2) := ⟨hx, hn⟩
      clear hx hn hb hR hE1 hE2
      cases ok with
      | false =>
        go_wp2
        go_ret
        exact ⟨rfl, HB4.out⟩
      | true =>
        have e1 := HC.out.1 rfl
        have e2 := HC.out.2 rfl
        obtain ⟨rfl, hy1⟩ := e1
        obtain ⟨rfl, hy2⟩ := e2
        have hnx := neg_val HX.out.1
        have hbx : nb y = nb x := by rw [HX.out.2, HY.out.2, hy1]
        have hbz : nb (Op.negFloat .f64 x) = nb z := by rw [HZ.out.2, hy2, hnx.2, HX.out.2]
        have hng := neg_at x w4
        have b1 := fun w => bits_any x w
        have b2 := fun w => bits_any y w
        have b3 := fun w => bits_any z w
        have b4 := fun w => bits_any (Op.negFloat .f64 x) w
        rw [hbx] at b2
        rw [hbz] at b4
        generalize Op.negFloat .f64 x = v at *
        generalize nb x = N at *
        generalize nb z = M at *
        clear hnx hy1 hy2 hbx hbz HC HX HY HZ
        go_wp2_with fail
        refine (b1 _).mono ?_
        rintro e w' ⟨rfl, rfl⟩
        go_wp2_with fail
        refine (b2 _).mono ?_
        rintro e w' ⟨rfl, rfl⟩
        go_wp2_with fail
        refine (b3 _).mono ?_
        rintro e w' ⟨rfl, rfl⟩
        go_wp2_with fail
        refine (b4 _).mono ?_
        rintro e w' ⟨rfl, rfl⟩
        go_wp2
        go_ret
        exact ⟨rfl, HB4.out⟩
    | cons b m =>
      have ix1 := fun W => index1_mk c b m W
      have hp1 : (1 : Int) < ((c :: b :: m : List UInt8).length : Int) := by simp; omega
      have hp0 : (0 : Int) < ((c :: b :: m : List UInt8).length : Int) := by simp; omega
      by_cases h120 : b = 120
      · subst h120
        clear hm h45
        go_enter Tryz.func6, Tryz.ntmps6
        go_wp2_with fail
        refine (awake4 _).mono ?_
        rintro e w1 ⟨rfl, hb⟩
        have HB1 : Hid (Below w.heap.size w w1) := hb
        clear hb
        go_wp2
        go_ret
        exact ⟨rfl, HB1.out⟩
      · have h120' : ¬ (b.toNat : Int) = 120 := fun h => h120 (UInt8.toNat_inj.1 (by simpa using (by omega : b.toNat = 120)))
        obtain ⟨ok, u, hnum⟩ := num_any (c :: b :: m) (by omega) hm (by
          refine Bool.eq_false_iff.2 fun h => ?_
          simp [tk] at h
          exact h120 h.2.symm)
        have hg0 : ((c.toNat : Int) == 45) = false := by simpa using h45'
        have hg1 : ((b.toNat : Int) == 120) = false := by simpa using h120'
        have hml : m.length ≤ 1000 := by simp at h1; omega
        have hgl : decide ((1000 : Int) < (m.length : Int) + 1 + 1) = false := decide_eq_false (by simp at h1; omega)
        clear hm h45 h120
        obtain ⟨hR, ⟨c1, y1, hc1, hE1⟩, ⟨c2, y2, hc2, hE2⟩⟩ := hnum
        have HC : Hid ((ok = true → c1 = 0 ∧ y1 = u) ∧ (ok = true → c2 = 0 ∧ y2 = negN u)) := ⟨hc1, hc2⟩
        clear hc1 hc2
        go_enter Tryz.func6, Tryz.ntmps6
        go_wp2_with fail
        refine (awake4 _).mono ?_
        rintro e w1 ⟨rfl, hb⟩
        have HB1 : Hid (Below w.heap.size w w1) := hb
        clear hb
        go_wp2_with fail
        refine (hR _).mono ?_
        rintro e w2 ⟨x, rfl, hx, hn, hb⟩
        have HB2 : Hid (Below w.heap.size w w2) := HB1.out.trans (hb.mono HB1.out.size)
        have HX : Hid (x < 2 ^ 64 ∧ nb x = u) := ⟨hx, hn⟩
        clear hx hn hb
        go_wp2_with fail
        refine (hE1 _).mono ?_
        rintro e w3 ⟨y, rfl, hx, hn, hb⟩
        have HB3 : Hid (Below w.heap.size w w3) := HB2.out.trans (hb.mono HB2.out.size)
        have HY : Hid (y < 2 ^ 64 ∧ nb y = y1) := ⟨hx, hn⟩
        clear hx hn hb
        go_wp2_with fail
        refine (hE2 _).mono ?_
        rintro e w4 ⟨z, rfl, hx, hn, hb⟩
        have HB4 : Hid (Below w.heap.size w w4) := HB3.out.trans (hb.mono HB3.out.size)
        have HZ : Hid (z < 2 ^ 64 ∧ nb z = y2) := ⟨hx, hn⟩
        clear hx hn hb hR hE1 hE2
        cases ok with
        | false =>
          go_wp2
          go_ret
          exact ⟨rfl, HB4.out⟩
        | true =>
          have e1 := HC.out.1 rfl
          have e2 := HC.out.2 rfl
          obtain ⟨rfl, hy1⟩ := e1
          obtain ⟨rfl, hy2⟩ := e2
          have hnx := neg_val HX.out.1
          have hbx : nb y = nb x := by rw [HX.out.2, HY.out.2, hy1]
          have hbz : nb (Op.negFloat .f64 x) = nb z := by rw [HZ.out.2, hy2, hnx.2, HX.out.2]
          have hng := neg_at x w4
          have b1 := fun w => bits_any x w
          have b2 := fun w => bits_any y w
          have b3 := fun w => bits_any z w
          have b4 := fun w => bits_any (Op.negFloat .f64 x) w
          rw [hbx] at b2
          rw [hbz] at b4
          generalize Op.negFloat .f64 x = v at *
          generalize nb x = N at *
          generalize nb z = M at *
          clear hnx hy1 hy2 hbx hbz HC HX HY HZ
          go_wp2_with fail
          refine (b1 _).mono ?_
          rintro e w' ⟨rfl, rfl⟩
          go_wp2_with fail
          refine (b2 _).mono ?_
          rintro e w' ⟨rfl, rfl⟩
          go_wp2_with fail
          refine (b3 _).mono ?_
          rintro e w' ⟨rfl, rfl⟩
          go_wp2_with fail
          refine (b4 _).mono ?_
          rintro e w' ⟨rfl, rfl⟩
          go_wp2
          go_ret
          exact ⟨rfl, HB4.out⟩

end Go.Proofs.YtalifohnieclhabGreatDoor.calcNumbers
