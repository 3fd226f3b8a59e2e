/-
  What else the listed variables hold; the program's Read at texts that begin with 0x or -0x.
-/
import Derived.Test.YtieldmakbokekaaGreatDoorXc
import Derived.Test.YtieldmakbokekaaGreatDoorXh
import Derived.Test.YtieldmakbokekaaGreatDoorRl2
namespace Go.Proofs.YtieldmakbokekaaGreatDoor.Oct
open Go.RowKit Go.ChangeShapes Go.WideShapes Go.Joins
open Go.Proofs.YtieldmakbokekaaGreatDoor.Fl

theorem err_at {l : List (String × DataW Unit)} {W : World} {name nm : String} {g : Nat} {ti : TypeId} {ms : Array (String × TypeId)} {d : DataW Unit} (h : laidMet Tryz.prog l W) (hg : Tryz.prog.globalNamed name = some g) (hty : (Tryz.prog.globals[g]?).map (·.type) = some ti)
    (hi : Tryz.prog.underlying ti = some (.interface ms)) (hm : (name, .iface nm d) ∈ l) :
    ∃ e, W.cell? ⟨g, 0, none⟩ = some e ∧ (e = .nilIface ∨ ∃ te pe, e = .iface te pe) := by
  obtain ⟨ps, hl, _, hrows⟩ := h
  obtain ⟨g', t', cs, fuel, p, hg', ht', hvar, hd, hps⟩ := laid_mark hl hm
  obtain rfl := Option.some.inj (hg.symm.trans hg')
  obtain rfl := Option.some.inj (hty.symm.trans ht')
  obtain ⟨cl⟩ := cs
  obtain ⟨f1, u, v, hcs, hn, h1⟩ := iface_of_trod hi hd
  have k0 := World.var?_cell hg hvar 0
  simp only at hcs
  subst hcs
  simp at k0
  exact ⟨_, k0, .inr ⟨_, _, rfl⟩⟩

theorem bool_at {l : List (String × DataW Unit)} {W : World} {name : String} {g : Nat} {ti : TypeId} {b : Bool} (h : laidMet Tryz.prog l W) (hg : Tryz.prog.globalNamed name = some g) (hty : (Tryz.prog.globals[g]?).map (·.type) = some ti)
    (hi : Tryz.prog.underlying ti = some .bool) (hm : (name, .lit (.bool b)) ∈ l) : W.cell? ⟨g, 0, none⟩ = some (.bool b) := by
  obtain ⟨ps, hl, _, hrows⟩ := h
  obtain ⟨g', t', cs, fuel, p, hg', ht', hvar, hd, hps⟩ := laid_mark hl hm
  obtain rfl := Option.some.inj (hg.symm.trans hg')
  obtain rfl := Option.some.inj (hty.symm.trans ht')
  obtain ⟨cl⟩ := cs
  obtain ⟨b', hcs, h1⟩ := DataW.trod_bool hi hd
  have k0 := World.var?_cell hg hvar 0
  simp only at hcs
  subst hcs
  simp at k0 h1
  obtain ⟨rfl, _⟩ := h1
  exact k0

theorem reads_laid2 {w : World} (hL : laidMetH Tryz.prog Rows.realReadsRow.laid w) : Er w ∧ Opt w := by
  rw [MakeChecks.laidMetH_plain _ _ _ (by kernel_rfl)] at hL
  refine ⟨⟨err_at (g := 3) (name := "strconv.ErrSyntax") (nm := "*errors.errorString") (d := .ptr (.agg [.lit (.string [105, 110, 118, 97, 108, 105, 100, 32, 115, 121, 110, 116, 97, 120])])) (ti := 58) hL (by kernel_rfl) (by kernel_rfl) Tryz.underlying58 (List.mem_of_getElem? (i := 11) (by kernel_rfl)), err_at (g := 4) (name := "strconv.ErrRange") (nm := "*errors.errorString") (d := .ptr (.agg [.lit (.string [118, 97, 108, 117, 101, 32, 111, 117, 116, 32, 111, 102, 32, 114, 97, 110, 103, 101])])) (ti := 58) hL (by kernel_rfl) (by kernel_rfl) Tryz.underlying58 (List.mem_of_getElem? (i := 10) (by kernel_rfl))⟩, ?_⟩
  exact bool_at (g := 8) (name := "internal/strconv.optimize") (ti := 4) hL (by kernel_rfl) (by kernel_rfl) Tryz.underlying4 (List.mem_of_getElem? (i := 4) (by kernel_rfl))

/-- What is kept. -/
def Al (v w : World) : Prop := Tab w ∧ Tz w ∧ Fi w ∧ Er w ∧ Opt w ∧ Below v.heap.size v w

theorem Al.below {v w w' : World} (h : Al v w) (hb : Below w.heap.size w w') : Al v w' := ⟨h.1.below hb, h.2.1.below hb, h.2.2.1.below hb, h.2.2.2.1.below hb, h.2.2.2.2.1.below hb, h.2.2.2.2.2.trans (hb.mono h.2.2.2.2.2.size)⟩

theorem drew_below (w : World) : Below w.heap.size w w.drew := ⟨rfl, rfl, rfl, Nat.le_refl _, fun _ _ => rfl⟩

/-- What Show says of any number. -/
def tx (x : Nat) : ByteArray := if Nan x then ⟨#[110, 97, 110]⟩ else shw x

theorem tx_nan {x : Nat} (h : Nan x) : tx x = ⟨#[110, 97, 110]⟩ := by unfold tx; rw [if_pos h]
theorem tx_num {x : Nat} (h : ¬ Nan x) : tx x = shw x := by unfold tx; rw [if_neg h]

theorem show_t (x : Nat) (w : World) (hl : x < 2 ^ 64) (ht : Tab w) (hz : Tz w) : Calls Tryz.prog 6 #[.float .f64 x] w fun e w' => e = .returned (.string (tx x)) ∧ Below w.heap.size w w' := by
  by_cases h : Nan x
  · rw [tx_nan h]
    refine (show_nan x w h).mono ?_
    rintro e w' ⟨rfl, rfl⟩
    exact ⟨rfl, Below.refl _ _⟩
  · rw [tx_num h]; exact show_any x w hl h ht hz

theorem rshow_t (x : Nat) (w : World) (hl : x < 2 ^ 64) : Calls Tryz.prog 8 #[.float .f64 x] w fun e w' => e = .returned (.string (tx x)) ∧ Below w.heap.size w w' := by
  by_cases h : Nan x
  · rw [tx_nan h]
    refine (rshow_nan x w h).mono ?_
    rintro e w' ⟨rfl, rfl⟩
    exact ⟨rfl, Below.refl _ _⟩
  · rw [tx_num h]; exact rshow_any x w hl h

theorem read_t (x : Nat) (w : World) (hl : x < 2 ^ 64) (ht : Tab w) (hz : Tz w) (hF : Fi w) : Calls Tryz.prog 7 #[.string (tx x)] w fun e w' => e = .returned (.tuple #[.float .f64 (nb x), .bool true]) ∧ Below w.heap.size w w' := by
  by_cases h : Nan x
  · rw [tx_nan h, nb_nan h]
    refine (read_nan_word w).mono ?_
    rintro e w' ⟨rfl, rfl⟩
    exact ⟨rfl, Below.refl _ _⟩
  · rw [tx_num h, nb_num h]; exact read_shw x w hl h ht hz hF

theorem tl_ne {s t : ByteArray} (h : s ≠ t) : (s.toList == t.toList) = false := by
  refine Bool.eq_false_iff.2 fun e => h ?_
  have e2 : s.toList = t.toList := by simpa using e
  rw [ByteArray.toList_eq, ByteArray.toList_eq] at e2
  exact ba_eq e2

/-- A text that begins with 0x. -/
theorem atof_x (s : ByteArray) (m : List UInt8) (hs : s.data.toList = 48 :: 120 :: m) (hm : (s.size : Int) ≤ 140737488355328) (w : World) (hF : Fi w) (hO : Opt w) :
    Calls Tryz.prog 95 #[.string s] w fun e w' => RetA s e ∧ Below w.heap.size w w' := by
  have hsz : s.size = m.length + 2 := by
    have : s.data.toList.length = s.size := Array.length_toList
    rw [← this, hs]; rfl
  have b0 : byt s 0 = 48 := by unfold byt; rw [hs]; rfl
  have b1 : byt s 1 = 120 := by unfold byt; rw [hs]; rfl
  rcases Nat.eq_zero_or_pos m.length with h0 | h0
  · have e : s = t0x := ba_eq (by rw [hs, List.eq_nil_of_length_eq_zero h0]; rfl)
    rw [e]
    exact at_0x w hO
  · have hse : ¬ s = ByteArray.empty := fun e => by
      have : s.size = 0 := by rw [e]; rfl
      omega
    have i0 : ∀ W, (Instr.index 9 (.string s) (.int .i64 0)).run Tryz.prog W = .ok (.int .u8 48) W := fun W => by have := idx_byt s 0 (by omega) W; rw [b0] at this; exact this
    have i1 : ∀ W, (Instr.index 9 (.string s) (.int .i64 1)).run Tryz.prog W = .ok (.int .u8 120) W := fun W => by have := idx_byt s 1 (by omega) W; rw [b1] at this; exact this
    refine atof_of s w false hF hm (special_0 s w (by omega) hse i0) (rfp_tot s w (by omega) (by omega) hse i0 i1 ?_)
    intro k hk1 hk2 v
    have hz := ext_size s k hk2
    refine us_pos (s.extract 0 k) v (by omega) (by omega) (fun e => ?_) (fun W => ?_) (fun W => ?_)
    · rw [e] at hz
      have : ByteArray.empty.size = 0 := rfl
      omega
    · have := idx_byt (s.extract 0 k) 0 (by omega) W
      rw [ext_byt s k 0 (by omega), b0] at this
      exact this
    · have := idx_byt (s.extract 0 k) 1 (by omega) W
      rw [ext_byt s k 1 (by omega), b1] at this
      exact this

/-- A text that begins with -0x. -/
theorem atof_mx (s : ByteArray) (m : List UInt8) (hs : s.data.toList = 45 :: 48 :: 120 :: m) (hm : (s.size : Int) ≤ 140737488355328) (w : World) (hF : Fi w) (hO : Opt w) :
    Calls Tryz.prog 95 #[.string s] w fun e w' => RetA s e ∧ Below w.heap.size w w' := by
  have hsz : s.size = m.length + 3 := by
    have : s.data.toList.length = s.size := Array.length_toList
    rw [← this, hs]; rfl
  have bz : byt s 0 = 45 := by unfold byt; rw [hs]; rfl
  have b0 : byt s 1 = 48 := by unfold byt; rw [hs]; rfl
  have b1 : byt s 2 = 120 := by unfold byt; rw [hs]; rfl
  rcases Nat.eq_zero_or_pos m.length with h0 | h0
  · have e : s = tm0x := ba_eq (by rw [hs, List.eq_nil_of_length_eq_zero h0]; rfl)
    rw [e]
    exact at_m0x w hO
  · have hse : ¬ s = ByteArray.empty := fun e => by
      have : s.size = 0 := by rw [e]; rfl
      omega
    have iz : ∀ W, (Instr.index 9 (.string s) (.int .i64 0)).run Tryz.prog W = .ok (.int .u8 45) W := fun W => by have := idx_byt s 0 (by omega) W; rw [bz] at this; exact this
    have i0 : ∀ W, (Instr.index 9 (.string s) (.int .i64 1)).run Tryz.prog W = .ok (.int .u8 48) W := fun W => by have := idx_byt s 1 (by omega) W; rw [b0] at this; exact this
    have i1 : ∀ W, (Instr.index 9 (.string s) (.int .i64 2)).run Tryz.prog W = .ok (.int .u8 120) W := fun W => by have := idx_byt s 2 (by omega) W; rw [b1] at this; exact this
    have tail : ∀ z : ByteArray, ∀ (x : List UInt8), z.data.toList = 45 :: 48 :: 120 :: x → ∃ t : ByteArray, z.data.toList = 45 :: t.data.toList ∧ t.size = x.length + 2 ∧ byt t 0 = 48 ∧ byt t 1 = 120 := fun z x hz => ⟨⟨(48 :: 120 :: x).toArray⟩, hz, rfl, rfl, rfl⟩
    obtain ⟨t, ht, htz, t0, t1⟩ := tail s m hs
    refine atof_of s w true hF hm (special_m s t w (by omega) hm hse iz (sl_one s t ht hm) (by omega) (by omega) ?_) (rfn_tot s w (by omega) (by omega) hse iz i0 i1 ?_)
    · intro W
      have := idx_byt t 0 (by omega) W
      rw [t0] at this
      exact this
    intro k hk1 hk2 v
    have hz := ext_size s k hk2
    have hzl : (s.extract 0 k).data.toList = 45 :: 48 :: 120 :: m.take (k - 3) := by
      rw [ByteArray.data_extract]
      have hd : s.data = (45 :: 48 :: 120 :: m).toArray := by rw [← hs]
      obtain ⟨j, rfl⟩ : ∃ j, k = j + 3 := ⟨k - 3, by omega⟩
      rw [hd]
      simp
    obtain ⟨q, hq, hqz, q0, q1⟩ := tail _ _ hzl
    have hqs : q.size + 1 = k := by
      have h1 : (s.extract 0 k).data.toList.length = (s.extract 0 k).size := Array.length_toList
      have h2 : q.data.toList.length = q.size := Array.length_toList
      rw [hq] at h1
      simp only [List.length_cons] at h1
      omega
    refine us_neg (s.extract 0 k) q v (by omega) (by omega) (by omega) (fun e => ?_) (fun e => ?_) (fun W => ?_) (sl_one _ q hq (by omega)) (fun W => ?_) (fun W => ?_)
    · rw [e] at hqs
      have : ByteArray.empty.size = 0 := rfl
      omega
    · rw [e] at hz
      have : ByteArray.empty.size = 0 := rfl
      omega
    · have := idx_byt (s.extract 0 k) 0 (by omega) W
      rw [ext_byt s k 0 (by omega), bz] at this
      exact this
    · have := idx_byt q 0 (by omega) W
      rw [q0] at this
      exact this
    · have := idx_byt q 1 (by omega) W
      rw [q1] at this
      exact this

/-- Read of a text that begins with 0x and that Show never says. -/
theorem read_x (s : ByteArray) (m : List UInt8) (hs : s.data.toList = 48 :: 120 :: m) (hm : (s.size : Int) ≤ 140737488355328) (v w : World) (hA : Al v w) (hno : ∀ r, r < 2 ^ 64 → tx r ≠ s) :
    Calls Tryz.prog 7 #[.string s] w fun e w' => e = .returned (.tuple #[.float .f64 0, .bool false]) ∧ Below w.heap.size w w' := by
  obtain ⟨hT, hZ, hF, hE, hO, _⟩ := hA
  have c := shown_tot s w hE hm (atof_x s m hs hm w hF hO) (fun r w1 hr hb => (show_t r w1 hr (hT.below hb) (hZ.below hb)).mono fun e w' ⟨h1, h2⟩ => ⟨_, h1, tl_ne (hno r hr), h2⟩)
  refine read_hex s w 0 false ?_ ?_ ?_ ?_ ?_ c
  · rw [hs]; rfl
  · rw [hs]; rfl
  · rw [ByteArray.toList_eq, hs]; rfl
  · rw [ByteArray.toList_eq, hs]; rfl
  · rw [ByteArray.toList_eq, hs]; rfl

/-- Read of a text that begins with -0x and that Show never says. -/
theorem read_mx (s : ByteArray) (m : List UInt8) (hs : s.data.toList = 45 :: 48 :: 120 :: m) (hm : (s.size : Int) ≤ 140737488355328) (v w : World) (hA : Al v w) (hno : ∀ r, r < 2 ^ 64 → tx r ≠ s) :
    Calls Tryz.prog 7 #[.string s] w fun e w' => e = .returned (.tuple #[.float .f64 0, .bool false]) ∧ Below w.heap.size w w' := by
  obtain ⟨hT, hZ, hF, hE, hO, _⟩ := hA
  have c := shown_tot s w hE hm (atof_mx s m hs hm w hF hO) (fun r w1 hr hb => (show_t r w1 hr (hT.below hb) (hZ.below hb)).mono fun e w' ⟨h1, h2⟩ => ⟨_, h1, tl_ne (hno r hr), h2⟩)
  refine read_hexm s ⟨(48 :: 120 :: m).toArray⟩ w 0 false hs ?_ ?_ ?_ ?_ c
  · rfl
  · rw [ByteArray.toList_eq, hs]; rfl
  · rw [ByteArray.toList_eq, hs]; rfl
  · rw [ByteArray.toList_eq, hs]; rfl
end Go.Proofs.YtieldmakbokekaaGreatDoor.Oct
