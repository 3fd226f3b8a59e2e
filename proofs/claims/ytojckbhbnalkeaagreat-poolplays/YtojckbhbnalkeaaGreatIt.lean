/-
  Rows of deeds that came in.
-/
import Derived.Test.YtojckbhbnalkeaaGreatR
import Derived.Test.YtojckbhbnalkeaaGreatRi
import Derived.Deep.Slices
import Derived.ChangeSame
import Derived.ProofKit
import Derived.Test.YtojckbhbnalkeaaGreatIu
namespace Go.Proofs.YtojckbhbnalkeaaGreat.Oct
open Go.RowKit Go.ChangeShapes Go.WideShapes

/-- A deed, plainly. -/
structure Dd where
  do' : Int
  n : Int
  page : Int
  fill : Int
  b : List Int
  ba : Option Addr
  bc : Nat

def noDeed : Dd := ⟨0, 0, 0, 0, [], none, 0⟩

/-- A deed in memory. -/
structure DeedAt (w : World) (b o : Nat) (d : Dd) : Prop where
  c0 : w.cell? ⟨b, o, none⟩ = some (.int .i64 d.do')
  c1 : w.cell? ⟨b, o + 1, none⟩ = some (.int .i64 d.n)
  c2 : w.cell? ⟨b, o + 2, none⟩ = some (.int .i64 d.page)
  c3 : w.cell? ⟨b, o + 3, none⟩ = some (.int .u8 d.fill)
  c4 : w.cell? ⟨b, o + 4, none⟩ = some (.slice d.ba d.b.length d.bc)
  row : Row w d.ba d.bc d.b
  nil : d.ba = none → d.bc = 0
  wd : -9223372036854775808 ≤ d.do' ∧ d.do' ≤ 9223372036854775807
  wn : -9223372036854775808 ≤ d.n ∧ d.n ≤ 9223372036854775807
  wp : -9223372036854775808 ≤ d.page ∧ d.page ≤ 9223372036854775807
  wf : 0 ≤ d.fill ∧ d.fill ≤ 255

theorem DeedAt.below {w w' : World} {b o : Nat} {d : Dd} (h : DeedAt w b o d) (k : Below w.heap.size w w') : DeedAt w' b o d :=
  { h with
    c0 := (k.cell (p := ⟨b, o, none⟩) (block_lt_of_cell h.c0)).trans h.c0
    c1 := (k.cell (p := ⟨b, o + 1, none⟩) (block_lt_of_cell h.c1)).trans h.c1
    c2 := (k.cell (p := ⟨b, o + 2, none⟩) (block_lt_of_cell h.c2)).trans h.c2
    c3 := (k.cell (p := ⟨b, o + 3, none⟩) (block_lt_of_cell h.c3)).trans h.c3
    c4 := (k.cell (p := ⟨b, o + 4, none⟩) (block_lt_of_cell h.c4)).trans h.c4
    row := h.row.below k }

/-- A row of deeds. -/
def IsDeeds (w : World) (a : Option Addr) (cap : Nat) (l : List Dd) : Prop :=
  l.length ≤ cap ∧ cap ≤ maxLen ∧ (l = [] ∨ ∃ b off, a = some ⟨b, off, none⟩ ∧ ∀ i, i < l.length → DeedAt w b (off + i * 5) (l.getD i noDeed))

theorem wf64 {z : Int} (h : (Lit.int .i64 z).wf = true) : -9223372036854775808 ≤ z ∧ z ≤ 9223372036854775807 := by
  simp [Lit.wf, IntKind.min, IntKind.max, IntKind.signed, IntKind.bits] at h
  omega

set_option maxRecDepth 20000 in
theorem open_bytes {H : Type} {enc : TypeId × Value → H} {w : World} {base fuel : Nat} {held : Bool} {v : Value} {x : DataW H × List MemPlace} (h : DataW.trod enc Tryz.prog w base (fun _ => true) held fuel 38 [v] = some x) :
    ∃ a ys cap, v = .slice a ys.length cap ∧ Row w a cap ys ∧ (a = none → cap = 0) := by
  rcases open_ints Tryz.underlying38 Tryz.underlying5 (by kernel_rfl) h with ⟨hcs, _⟩ | ⟨x, l, c, zs, hcs, _, hl, hm, hz, _, hcell, hwz⟩
  · simp at hcs
    exact ⟨none, [], 0, hcs, ⟨fun z hz => by simp at hz, Nat.le_refl _, by simp [maxLen], .inl rfl⟩, fun _ => rfl⟩
  · simp at hcs
    have hr : IsRow .u8 w (some x) l c zs := .inr ⟨_, rfl, hl, hm, by simpa using hz, hcell, hwz⟩
    obtain ⟨ys, h1, h2⟩ := hr.row
    exact ⟨some x, ys, c, by rw [hcs, h1], h2, fun e => by cases e⟩

theorem cells43 : Tryz.prog.cellsOf 40 = 5 := by kernel_rfl
theorem cells3 : Tryz.prog.cellsOf 3 = 1 := by kernel_rfl
theorem cells5 : Tryz.prog.cellsOf 5 = 1 := by kernel_rfl
theorem cells28 : Tryz.prog.cellsOf 38 = 1 := by kernel_rfl

set_option maxRecDepth 20000 in
theorem open_deed {H : Type} {enc : TypeId × Value → H} {w : World} {base fuel : Nat} {held : Bool} {cs : List Value} {x : DataW H × List MemPlace} (h : DataW.trod enc Tryz.prog w base (fun _ => true) held fuel 40 cs = some x) :
    ∃ d : Dd, cs = [.int .i64 d.do', .int .i64 d.n, .int .i64 d.page, .int .u8 d.fill, .slice d.ba d.b.length d.bc] ∧ Row w d.ba d.bc d.b ∧ (d.ba = none → d.bc = 0) ∧
      (-9223372036854775808 ≤ d.do' ∧ d.do' ≤ 9223372036854775807) ∧ (-9223372036854775808 ≤ d.n ∧ d.n ≤ 9223372036854775807) ∧ (-9223372036854775808 ≤ d.page ∧ d.page ≤ 9223372036854775807) ∧ (0 ≤ d.fill ∧ d.fill ≤ 255) := by
  obtain ⟨xs, n, _, _, hl, hlen, hf⟩ := DataW.trod_struct Tryz.underlying40 h
  rw [cells43] at hl
  match cs, hl with
  | [v0, v1, v2, v3, v4], _ =>
    match xs, hlen with
    | [y0, y1, y2, y3, y4], _ =>
      have g0 := hf 0 _ rfl
      have g1 := hf 1 _ rfl
      have g2 := hf 2 _ rfl
      have g3 := hf 3 _ rfl
      have g4 := hf 4 _ rfl
      simp [cells3, cells5, cells28] at g0 g1 g2 g3 g4
      obtain ⟨n0, e0, _, w0⟩ := DataW.trod_int Tryz.underlying3 g0
      obtain ⟨n1, e1, _, w1⟩ := DataW.trod_int Tryz.underlying3 g1
      obtain ⟨n2, e2, _, w2⟩ := DataW.trod_int Tryz.underlying3 g2
      obtain ⟨n3, e3, _, w3⟩ := DataW.trod_int Tryz.underlying5 g3
      obtain ⟨a, ys, cap, e4, hr, hn⟩ := open_bytes g4
      simp at e0 e1 e2 e3
      subst e0 e1 e2 e3 e4
      exact ⟨⟨n0, n1, n2, n3, ys, a, cap⟩, rfl, hr, hn, wf64 w0, wf64 w1, wf64 w2, u8_wf w3⟩

set_option maxRecDepth 20000 in
theorem open_deeds {H : Type} {enc : TypeId × Value → H} {w : World} {base fuel : Nat} {held : Bool} {a : Option Addr} {len cap : Nat} {x : DataW H × List MemPlace} (h : DataW.trod enc Tryz.prog w base (fun _ => true) held fuel 22 [.slice a len cap] = some x) :
    ∃ l : List Dd, len = l.length ∧ IsDeeds w a cap l := by
  rcases Deep.open_slice Tryz.underlying22 h with ⟨hcs, _⟩ | ⟨x, l, c, m, n, D, Pl, hcs, _, hl, hm, hmm, _, hx⟩
  · simp at hcs
    obtain ⟨rfl, rfl, rfl⟩ := hcs
    exact ⟨[], rfl, Nat.le_refl _, by simp [maxLen], .inl rfl⟩
  · simp at hcs
    obtain ⟨rfl, rfl, rfl⟩ := hcs
    have hlm : len ≤ m := by rw [hmm]; split <;> omega
    have each : ∀ i, i < len → ∃ d : Dd, ∀ (b off : Nat), x = ⟨b, off, none⟩ → DeedAt w b (off + i * 5) d := by
      intro i hi
      obtain ⟨cs', h1, h2⟩ := hx i (by omega)
      rw [cells43] at h1
      obtain ⟨_, hlen, hcell⟩ := World.cells?_some h1
      obtain ⟨d, rfl, hr, hn, wd, wn, wp, wf⟩ := open_deed h2
      refine ⟨d, fun b off e => ?_⟩
      subst e
      have q : ∀ j, ((⟨b, off, none⟩ : Addr).add (i * 5)).add j = ⟨b, off + i * 5 + j, none⟩ := fun j => by rw [Addr.add_lit, Addr.add_lit]
      have e0 := hcell 0 (by omega)
      have e1 := hcell 1 (by omega)
      have e2 := hcell 2 (by omega)
      have e3 := hcell 3 (by omega)
      have e4 := hcell 4 (by omega)
      rw [q] at e0 e1 e2 e3 e4
      exact ⟨by simpa using e0, by simpa using e1, by simpa using e2, by simpa using e3, by simpa using e4, hr, hn, wd, wn, wp, wf⟩
    have : Inhabited Dd := ⟨noDeed⟩
    obtain ⟨f, hf⟩ := Deep.choose_lt each
    refine ⟨(List.range len).map f, by simp, by simpa using hl, hm, ?_⟩
    by_cases h0 : len = 0
    · exact .inl (by simp [h0])
    · refine .inr ?_
      obtain ⟨b, off, spot⟩ := x
      have hspot : spot = none := by
        obtain ⟨cs', h1, h2⟩ := hx 0 (by omega)
        rw [cells43] at h1
        obtain ⟨_, hlen, hcell⟩ := World.cells?_some h1
        have e0 := hcell 0 (by omega)
        obtain ⟨v, hv⟩ : ∃ v, w.cell? (((⟨b, off, spot⟩ : Addr).add (0 * 5)).add 0) = some v := ⟨_, e0.trans (List.getElem?_eq_getElem (by omega))⟩
        simpa [Addr.add] using World.cell?_spot hv
      subst hspot
      refine ⟨b, off, rfl, fun i hi => ?_⟩
      simp at hi
      have := hf i hi b off rfl
      rw [show ((List.range len).map f).getD i noDeed = f i by simp [List.getD_eq_getElem?_getD, hi]]
      exact this

set_option maxRecDepth 20000 in
theorem open_intsI {H : Type} {enc : TypeId × Value → H} {w : World} {base fuel : Nat} {held : Bool} {v : Value} {x : DataW H × List MemPlace} (h : DataW.trod enc Tryz.prog w base (fun _ => true) held fuel 61 [v] = some x) :
    ∃ a ys cap, v = .slice a ys.length cap ∧ RowI w a cap ys ∧ ∀ z ∈ ys, -9223372036854775808 ≤ z ∧ z ≤ 9223372036854775807 := by
  rcases open_ints Tryz.underlying61 Tryz.underlying3 (by kernel_rfl) h with ⟨hcs, _⟩ | ⟨x, l, c, zs, hcs, _, hl, hm, hz, _, hcell, hwz⟩
  · simp at hcs
    exact ⟨none, [], 0, hcs, ⟨Nat.le_refl _, by simp [maxLen], .inl rfl⟩, fun z hz => by simp at hz⟩
  · simp at hcs
    have hr : IsRow .i64 w (some x) l c zs := .inr ⟨_, rfl, hl, hm, by simpa using hz, hcell, hwz⟩
    obtain ⟨ys, e, r, b⟩ := hr.rowI
    exact ⟨some x, ys, c, by rw [hcs, e], r, b⟩
end Go.Proofs.YtojckbhbnalkeaaGreat.Oct

/-
  The statements' room; what a pool tells, plainly.
-/
namespace Go.Proofs.YtojckbhbnalkeaaGreat.Oct
open Go.RowKit

def smallD (d : Dd) : Bool := decide (d.b.length ≤ 100) && decide (d.n ≤ 1048576)
def roomB (l : List Dd) : Bool := decide (l.length ≤ 200) && l.all smallD

theorem room_take {l : List Dd} {k : Nat} (hk : k < l.length) (h : (l.take k).all smallD = true) (hd : smallD (l.getD k noDeed) = true) : (l.take (k + 1)).all smallD = true := by
  rw [List.take_add_one, List.all_append, h]
  rw [List.getD_eq_getElem?_getD, List.getElem?_eq_getElem hk] at hd
  simp [List.getElem?_eq_getElem hk]
  exact hd

theorem room_not {l : List Dd} {k : Nat} (hk : k < l.length) (hd : smallD (l.getD k noDeed) = false) : roomB l = false := by
  unfold roomB
  have : l.all smallD = false := by
    rw [List.all_eq_false]
    refine ⟨l[k], List.getElem_mem _, ?_⟩
    rw [List.getD_eq_getElem?_getD, List.getElem?_eq_getElem hk, Option.getD_some] at hd
    rw [hd]
    simp
  rw [this, Bool.and_false]

set_option maxHeartbeats 1000000 in
theorem room_any (a : Option Addr) (cap : Nat) (l : List Dd) (w : World) (h : IsDeeds w a cap l) :
    Calls Tryz.prog 5 #[.slice a l.length cap] w fun e w' => e = .returned (.bool (roomB l)) ∧ w = w' := by
  obtain ⟨h1, h2, h3⟩ := h
  unfold maxLen at h2
  have ht : ∀ (b : Bool), b = roomB l → Ending.returned (.bool b) = .returned (.bool (roomB l)) := fun b h => by rw [h]
  by_cases hn : (200 : Int) < l.length
  · go_enter Tryz.func5, Tryz.ntmps5
    go_wp2
    go_ret
    exact ⟨ht _ (by simp [roomB]; omega), rfl⟩
  · have HA : Hid (l = [] ∨ ∃ b off, a = some ⟨b, off, none⟩ ∧ ∀ i, i < l.length → DeedAt w b (off + i * 5) (l.getD i noDeed)) := h3
    clear h3
    go_enter Tryz.func5, Tryz.ntmps5
    go_wp2
    go_loop [3] (fun i => ∃ k : Nat, k ≤ l.length ∧ i = .int .i64 k ∧ Hid ((l.take k).all smallD = true)) (fun i => l.length - (intOf i).toNat)
    case atStart => exact ⟨0, Nat.zero_le _, rfl, rfl⟩
    case round =>
      obtain ⟨k, hk, rfl, hall⟩ := hrel
      by_cases hlt : k < l.length
      · obtain ⟨b, off, rfl, hd⟩ := HA.out.resolve_left (by intro e; rw [e] at hlt; exact absurd hlt (by simp))
        have hdk := hd k hlt
        have c4 := hdk.c4
        have c1 := hdk.c1
        have hbm : (l.getD k noDeed).b.length ≤ maxLen := Nat.le_trans hdk.row.2.1 hdk.row.2.2.1
        unfold maxLen at hbm
        clear hdk hd
        have HR : Hid (smallD (l.getD k noDeed) = true → (l.take (k + 1)).all smallD = true) := fun hs => room_take hlt hall.out hs
        have HN : Hid (smallD (l.getD k noDeed) = false → roomB l = false) := fun hs => room_not hlt hs
        have HS : Hid (smallD (l.getD k noDeed) = (decide ((l.getD k noDeed).b.length ≤ 100) && decide ((l.getD k noDeed).n ≤ 1048576))) := rfl
        obtain ⟨bl, hbl⟩ : ∃ bl, (l.getD k noDeed).b.length = bl := ⟨_, rfl⟩
        obtain ⟨nn, hnn⟩ : ∃ nn, (l.getD k noDeed).n = nn := ⟨_, rfl⟩
        rw [hbl] at c4 hbm HS
        rw [hnn] at c1 HS
        clear hbl hnn hall
        by_cases h100 : bl ≤ 100
        · by_cases hn20 : nn ≤ 1048576
          · have R := HR.out (by rw [HS.out]; simp; omega)
            have R' : Hid ((l.take (k + 1)).all smallD = true) := R
            clear R HR HN HS
            go_wp2
            go_round
            case rel => exact ⟨k + 1, by omega, by go_num, R'⟩
            case measure => simp [intOf]; omega
          · have hf := HN.out (by rw [HS.out]; simp; omega)
            have Hf : Hid (roomB l = false) := hf
            have hn21 : 1048576 < nn := by omega
            clear hf HR HN HS hn20
            go_wp2
            go_ret
            exact ⟨ht _ Hf.out.symm, rfl⟩
        · have hf := HN.out (by rw [HS.out]; simp; omega)
          have Hf : Hid (roomB l = false) := hf
          have h101 : 100 < bl := by omega
          clear hf HR HN HS h100
          go_wp2
          go_ret
          exact ⟨ht _ Hf.out.symm, rfl⟩
      · have hf : roomB l = true := by
          unfold roomB
          rw [Bool.and_eq_true]
          refine ⟨by simp; omega, ?_⟩
          have := hall.out
          rwa [List.take_of_length_le (by omega)] at this
        go_wp2
        go_ret
        exact ⟨ht _ hf.symm, rfl⟩

theorem room_in {l : List Dd} (h : roomB l = true) : l.length ≤ 200 ∧ ∀ k, k < l.length → (l.getD k noDeed).n ≤ 1048576 ∧ (l.getD k noDeed).b.length ≤ 100 := by
  unfold roomB at h
  rw [Bool.and_eq_true] at h
  refine ⟨of_decide_eq_true h.1, fun k hk => ?_⟩
  have := List.all_eq_true.1 h.2 l[k] (List.getElem_mem hk)
  rw [List.getD_eq_getElem?_getD, List.getElem?_eq_getElem hk, Option.getD_some]
  simp [smallD] at this
  omega

/-- What is wanted of each page is what is there: in its frame, or on the device. -/
structure TellI (D : Dv) (L : List Fr) (ws : List (List Int)) (c : Nat) : Prop where
  well : Well D
  ok : D.ok
  n : D.n = 20
  ops : D.ops ≤ c
  since : D.since.length ≤ c
  len : L.length ≤ 8
  pins : ∀ f ∈ L, f.pins = 0
  pg : ∀ f ∈ L, f.page < 20 ∧ f.ok
  nd : (L.map (·.page)).Nodup
  here : ∀ f ∈ L, f.b = ws.getD f.page []
  there : ∀ x : Nat, x < 20 → (∀ f ∈ L, f.page = x → f.dirty = false) → pageOf D.now x = ws.getD x []

theorem writeD_ok' {D : Dv} (h : D.ok) {f : Fr} (hp : f.page < D.n) (hf : f.ok) : (writeD D f.page f.b).ok := writeD_ok h hp hf.1 hf.2

theorem TellI.mono {D : Dv} {L : List Fr} {ws : List (List Int)} {c c' : Nat} (h : TellI D L ws c) (hc : c ≤ c') : TellI D L ws c' := { h with ops := by have := h.ops; omega, since := by have := h.since; omega }

/-- Frames in another order, all the same. -/
theorem TellI.perm {D : Dv} {L L' : List Fr} {ws : List (List Int)} {c : Nat} (h : TellI D L ws c) (hp : L'.Perm L) : TellI D L' ws c :=
  { h with
    len := by rw [hp.length_eq]; exact h.len
    pins := fun f hf => h.pins f (hp.mem_iff.1 hf)
    pg := fun f hf => h.pg f (hp.mem_iff.1 hf)
    nd := (hp.map _).nodup_iff.2 h.nd
    here := fun f hf => h.here f (hp.mem_iff.1 hf)
    there := fun x hx hf => h.there x hx (fun f hm => hf f (hp.mem_iff.2 hm)) }

/-- Two frames of one page are one. -/
theorem one_page {L : List Fr} (hn : (L.map (·.page)).Nodup) {f g : Fr} (hf : f ∈ L) (hg : g ∈ L) (e : f.page = g.page) : f = g := by
  induction L with
  | nil => simp at hf
  | cons b r ih =>
    simp only [List.map_cons, List.nodup_cons] at hn
    rcases List.mem_cons.1 hf with hf1 | hf1
    · rcases List.mem_cons.1 hg with hg1 | hg1
      · rw [hf1, hg1]
      · exact absurd (List.mem_map.2 ⟨g, hg1, by rw [← e, hf1]⟩) hn.1
    · rcases List.mem_cons.1 hg with hg1 | hg1
      · exact absurd (List.mem_map.2 ⟨f, hf1, by rw [e, hg1]⟩) hn.1
      · exact ih hn.2 hf1 hg1

/-- A frame leaves. -/
theorem TellI.leave {D : Dv} {L : List Fr} {ws : List (List Int)} {c : Nat} (h : TellI D L ws c) {i : Nat} (hi : i < L.length) : evE D (L.getD i fr0) = 0 ∧ TellI (evD D (L.getD i fr0)) (L.eraseIdx i) ws (c + 1) ∧ ∀ f ∈ L.eraseIdx i, f.page ≠ (L.getD i fr0).page := by
  have hfm := getD_memF hi
  have hne : ∀ f ∈ L.eraseIdx i, f.page ≠ (L.getD i fr0).page := fun f hf => by
    rw [← filter_erase h.nd hi, List.mem_filter] at hf
    simpa using hf.2
  have hsub : ∀ f ∈ L.eraseIdx i, f ∈ L := fun f hf => List.mem_of_mem_eraseIdx hf
  obtain ⟨f, hf⟩ : ∃ f, L.getD i fr0 = f := ⟨_, rfl⟩
  rw [hf] at hfm hne ⊢
  obtain ⟨p1, p2⟩ := h.pg f hfm
  have hback : ∀ g ∈ L, g ∈ L.eraseIdx i ∨ g = f := fun g hg => by
    rcases List.mem_append.1 ((erase_perm L fr0 i hi).mem_iff.2 hg) with h1 | h1
    · exact .inl h1
    · exact .inr (by rw [hf] at h1; simpa using h1)
  refine ⟨by unfold evE; split; exact h.well.says; rfl, ?_, hne⟩
  have hbase : (L.eraseIdx i).length ≤ 8 ∧ (∀ g ∈ L.eraseIdx i, g.pins = 0) ∧ (∀ g ∈ L.eraseIdx i, g.page < 20 ∧ g.ok) ∧ ((L.eraseIdx i).map (·.page)).Nodup ∧ (∀ g ∈ L.eraseIdx i, g.b = ws.getD g.page []) :=
    ⟨by have := List.length_eraseIdx_le L i; have := h.len; omega, fun g hg => h.pins g (hsub g hg), fun g hg => h.pg g (hsub g hg), by rw [map_erase]; exact h.nd.sublist (List.eraseIdx_sublist _ _), fun g hg => h.here g (hsub g hg)⟩
  obtain ⟨b1, b2, b3, b4, b5⟩ := hbase
  by_cases hd : f.dirty = true
  · have eD : evD D f = writeD D f.page f.b := by unfold evD; rw [if_pos hd]
    have hwo := writeD_ops D f.page f.b
    have := h.ops
    have := h.since
    rw [eD]
    refine ⟨h.well.write _ _, writeD_ok' h.ok (by rw [h.n]; exact p1) p2, by rw [writeD_n]; exact h.n, by omega, by omega, b1, b2, b3, b4, b5, fun x hx hc => ?_⟩
    have hnow := h.ok.now
    rw [h.n] at hnow
    rw [h.well.writeNow, pageOf_onto (by omega) (by omega) p2.1]
    by_cases hxf : x = f.page
    · rw [if_pos hxf, hxf]; exact h.here f hfm
    · rw [if_neg hxf]
      refine h.there x hx (fun g hg e => ?_)
      rcases hback g hg with h1 | h1
      · exact hc g h1 e
      · exact absurd (by rw [← e, h1]) hxf
  · have eD : evD D f = D := by unfold evD; rw [if_neg hd]
    rw [eD]
    refine ⟨h.well, h.ok, h.n, by have := h.ops; omega, by have := h.since; omega, b1, b2, b3, b4, b5, fun x hx hc => h.there x hx (fun g hg e => ?_)⟩
    rcases hback g hg with h1 | h1
    · exact hc g h1 e
    · rw [h1]; simpa using hd

theorem TellI.nu {D : Dv} {L : List Fr} {ws : List (List Int)} {c : Nat} (h : TellI D L ws c) (hl : 0 < L.length) : nuP L 0 = 0 := nuP_hit hl (h.pins _ (getD_memF hl))

theorem TellI.evict {ws : List (List Int)} : ∀ (n : Nat) {D : Dv} {L : List Fr} {c : Nat}, TellI D L ws c → (evS n D L).1 = 0 ∧ TellI (evS n D L).2.1 (evS n D L).2.2 ws (c + L.length)
  | 0, D, L, c, h => ⟨rfl, h.mono (by omega)⟩
  | n + 1, D, L, c, h => by
    show (if nuP L 0 < L.length then _ else _ : Int × Dv × List Fr).1 = 0 ∧ TellI (if nuP L 0 < L.length then _ else _ : Int × Dv × List Fr).2.1 (if nuP L 0 < L.length then _ else _ : Int × Dv × List Fr).2.2 ws (c + L.length)
    by_cases hl : 0 < L.length
    · rw [h.nu hl, if_pos hl]
      obtain ⟨e1, h2, _⟩ := h.leave hl
      rw [if_pos e1]
      obtain ⟨e3, h3⟩ := TellI.evict n h2
      refine ⟨e3, h3.mono ?_⟩
      rw [List.length_eraseIdx_of_lt hl]
      omega
    · have : L.length = 0 := by omega
      rw [if_neg (by have := nuP_le (L := L) (j := 0) (by omega); omega)]
      exact ⟨rfl, h.mono (by omega)⟩

/-- A page is used: the frames that are there and stay, its frame ahead of what is done to it. -/
theorem TellI.use {D : Dv} {L : List Fr} {ws : List (List Int)} {c : Nat} (h : TellI D L ws c) (x : Nat) (hx : x < 20) (rd : Bool) :
    usE D 8 L x rd = 0 ∧ ∃ X f c2, usL D 8 L x rd = X ++ [f] ∧ f.page = x ∧ f.pins = 0 ∧ f.ok ∧ (∀ g ∈ X, g.page ≠ x) ∧ X.length ≤ 7 ∧ c2 ≤ c + 2 ∧ (rd = true → TellI (usD D 8 L x rd) (X ++ [f]) ws c2) ∧
      ∀ b : List Int, b.length = 256 → Bys b → ws.length = 20 → TellI (usD D 8 L x rd) (X ++ [{ f with b := b, dirty := true }]) (ws.set x b) c2 := by
  -- what is put stands in its frame
  have key : ∀ (D' : Dv) (X : List Fr) (f : Fr) (c2 : Nat), TellI D' X ws c2 → f.page = x → f.pins = 0 → (∀ g ∈ X, g.page ≠ x) → X.length ≤ 7 → ∀ b : List Int, b.length = 256 → Bys b → ws.length = 20 → TellI D' (X ++ [{ f with b := b, dirty := true }]) (ws.set x b) c2 := by
    intro D' X f c2 hX hfp hf0 hne hl b hb hy hw
    have hget : ∀ y : Nat, (ws.set x b).getD y [] = if y = x then b else ws.getD y [] := fun y => by
      simp only [List.getD_eq_getElem?_getD, List.getElem?_set]
      by_cases hyx : y = x
      · rw [if_pos hyx.symm, if_pos (by omega), if_pos hyx]; rfl
      · rw [if_neg (fun e => hyx e.symm), if_neg hyx]
    refine ⟨hX.well, hX.ok, hX.n, hX.ops, hX.since, by simp; omega, fun g hg => ?_, fun g hg => ?_, ?_, fun g hg => ?_, fun y hy' hc => ?_⟩
    · rcases List.mem_append.1 hg with hg | hg
      · exact hX.pins g hg
      · simp at hg; rw [hg]; exact hf0
    · rcases List.mem_append.1 hg with hg | hg
      · exact hX.pg g hg
      · simp at hg; rw [hg]; exact ⟨by show f.page < 20; omega, hb, hy⟩
    · rw [List.map_append]
      refine List.nodup_append.2 ⟨hX.nd, by simp, fun a ha b' hb' => ?_⟩
      simp at hb'
      subst hb'
      obtain ⟨g, hg, rfl⟩ := List.mem_map.1 ha
      rw [hfp]; exact hne g hg
    · rcases List.mem_append.1 hg with hg | hg
      · rw [hget, if_neg (hne g hg)]; exact hX.here g hg
      · simp at hg; rw [hg, hget, if_pos hfp]
    · rw [hget]
      by_cases hyx : y = x
      · have := hc { f with b := b, dirty := true } (by simp) (by show f.page = y; omega)
        simp at this
      · rw [if_neg hyx]
        exact hX.there y hy' (fun g hg e => hc g (List.mem_append_left _ hg) e)
  have key2 : ∀ (D' : Dv) (X : List Fr) (c2 : Nat), TellI D' X ws c2 → (∀ g ∈ X, g.page ≠ x) → X.length ≤ 7 → TellI (readD D') (X ++ [⟨x, pageOf D'.now x, false, 0⟩]) ws (c2 + 1) := by
    intro D' X c2 hX hne hl
    have hro := readD_ops D'
    have hnow := hX.ok.now
    rw [hX.n] at hnow
    have htx := hX.there x hx (fun g hg e => absurd e (hne g hg))
    refine ⟨hX.well.read, readD_ok hX.ok, by rw [readD_n]; exact hX.n, by have := hX.ops; omega, by rw [hro.2]; have := hX.since; omega, by simp; omega, fun g hg => ?_, fun g hg => ?_, ?_, fun g hg => ?_, fun y hy' hc => ?_⟩
    · rcases List.mem_append.1 hg with hg | hg
      · exact hX.pins g hg
      · simp at hg; rw [hg]
    · rcases List.mem_append.1 hg with hg | hg
      · exact hX.pg g hg
      · simp at hg; rw [hg]; exact ⟨hx, pgLen hX.ok (by rw [hX.n]; exact hx), pgBys hX.ok x⟩
    · rw [List.map_append]
      refine List.nodup_append.2 ⟨hX.nd, by simp, fun a ha b' hb' => ?_⟩
      simp at hb'
      subst hb'
      obtain ⟨g, hg, rfl⟩ := List.mem_map.1 ha
      exact hne g hg
    · rcases List.mem_append.1 hg with hg | hg
      · exact hX.here g hg
      · simp at hg; rw [hg]; exact htx
    · rw [hX.well.readNow]
      exact hX.there y hy' (fun g hg e => hc g (List.mem_append_left _ hg) e)
  by_cases hf : fiP L x < L.length
  · obtain ⟨e1, e2, e3⟩ := use_yes (D := D) (N := 8) (rd := rd) hf
    have hx' : ∃ f ∈ L, (f.page : Int) = x := by
      have := List.findIdx_getElem (w := hf)
      simp only [decide_eq_true_eq] at this
      exact ⟨_, List.getElem_mem hf, this⟩
    have hpage : (L.getD (fiP L x) fr0).page = x := by have := (fiP_some hx').2; omega
    have hne : ∀ g ∈ L.eraseIdx (fiP L x), g.page ≠ x := fun g hg => by
      rw [← filter_erase h.nd hf, List.mem_filter, hpage] at hg
      simpa using hg.2
    have hlen : (L.eraseIdx (fiP L x)).length ≤ 7 := by rw [List.length_eraseIdx_of_lt hf]; have := h.len; omega
    have hfm := getD_memF hf
    have hall : TellI D (L.eraseIdx (fiP L x) ++ [L.getD (fiP L x) fr0]) ws c := h.perm (erase_perm L fr0 _ hf)
    refine ⟨e1, L.eraseIdx (fiP L x), L.getD (fiP L x) fr0, c, e3, hpage, h.pins _ hfm, (h.pg _ hfm).2, hne, hlen, by omega, fun _ => by rw [e2]; exact hall, fun b hb hy hw => ?_⟩
    -- the frame of the page itself has turned: the device's page does not count
    rw [e2]
    have hget : ∀ y : Nat, (ws.set x b).getD y [] = if y = x then b else ws.getD y [] := fun y => by
      simp only [List.getD_eq_getElem?_getD, List.getElem?_set]
      by_cases hyx : y = x
      · rw [if_pos hyx.symm, if_pos (by omega), if_pos hyx]; rfl
      · rw [if_neg (fun e => hyx e.symm), if_neg hyx]
    obtain ⟨f, hff⟩ : ∃ f, L.getD (fiP L x) fr0 = f := ⟨_, rfl⟩
    rw [hff] at hall hpage hfm ⊢
    refine ⟨hall.well, hall.ok, hall.n, hall.ops, hall.since, by simp; omega, fun g hg => ?_, fun g hg => ?_, ?_, fun g hg => ?_, fun y hy' hc => ?_⟩
    · rcases List.mem_append.1 hg with hg | hg
      · exact hall.pins g (List.mem_append_left _ hg)
      · simp at hg; rw [hg]; exact h.pins f hfm
    · rcases List.mem_append.1 hg with hg | hg
      · exact hall.pg g (List.mem_append_left _ hg)
      · simp at hg; rw [hg]; exact ⟨by show f.page < 20; omega, hb, hy⟩
    · have := hall.nd
      simpa using this
    · rcases List.mem_append.1 hg with hg | hg
      · rw [hget, if_neg (hne g hg)]; exact hall.here g (List.mem_append_left _ hg)
      · simp at hg; rw [hg, hget, if_pos hpage]
    · rw [hget]
      by_cases hyx : y = x
      · have := hc { f with b := b, dirty := true } (by simp) (by show f.page = y; omega)
        simp at this
      · rw [if_neg hyx]
        refine hall.there y hy' (fun g hg e => ?_)
        rcases List.mem_append.1 hg with hg | hg
        · exact hc g (List.mem_append_left _ hg) e
        · simp at hg; rw [hg] at e; omega
  · have hnn : ∀ g ∈ L, g.page ≠ x := fun g hg e => hf (fiP_some ⟨g, hg, by rw [e]⟩).1
    by_cases hl : L.length < 8
    · obtain ⟨e1, e2, e3⟩ := use_room (D := D) (N := 8) (rd := rd) hf hl h.well.tells
      cases rd with
      | true =>
        rw [if_pos rfl] at e2
        have h2 := key2 D L c h hnn (by omega)
        refine ⟨e1, L, ⟨x, fst0 D x true, false, 0⟩, c + 1, e3, rfl, rfl, ?_, hnn, by omega, by omega, fun _ => by rw [e2]; exact h2, fun b hb hy hw => ?_⟩
        · exact ⟨pgLen h.ok (by rw [h.n]; exact hx), pgBys h.ok x⟩
        · rw [e2]
          have hro := readD_ops D
          exact key (readD D) L _ (c + 1) ⟨h.well.read, readD_ok h.ok, by rw [readD_n]; exact h.n, by have := h.ops; omega, by rw [hro.2]; have := h.since; omega, h.len, h.pins, h.pg, h.nd, h.here, fun y hy' hc => by rw [h.well.readNow]; exact h.there y hy' hc⟩ rfl rfl hnn (by omega) b hb hy hw
      | false =>
        rw [if_neg (by simp)] at e2
        refine ⟨e1, L, ⟨x, fst0 D x false, false, 0⟩, c, e3, rfl, rfl, ?_, hnn, by omega, by omega, fun e => (by cases e), fun b hb hy hw => by rw [e2]; exact key D L _ c h rfl rfl hnn (by omega) b hb hy hw⟩
        exact ⟨List.length_replicate, bys_rep 256⟩
    · have h8 : L.length = 8 := by have := h.len; omega
      have h0 : nuP L 0 = 0 := h.nu (by omega)
      obtain ⟨e1, e2, e3⟩ := use_leave (D := D) (N := 8) (rd := rd) hf hl (by omega) h.well
      rw [h0] at e2 e3
      obtain ⟨_, hL, _⟩ := h.leave (i := 0) (by omega)
      have hne : ∀ g ∈ L.eraseIdx 0, g.page ≠ x := fun g hg => hnn g (List.mem_of_mem_eraseIdx hg)
      have hlen : (L.eraseIdx 0).length ≤ 7 := by rw [List.length_eraseIdx_of_lt (by omega)]; omega
      obtain ⟨D1, hD1⟩ : ∃ D1, evD D (L.getD 0 fr0) = D1 := ⟨_, rfl⟩
      rw [hD1] at e2 e3 hL
      cases rd with
      | true =>
        rw [if_pos rfl] at e2
        have h2 := key2 D1 _ (c + 1) hL hne hlen
        refine ⟨e1, L.eraseIdx 0, ⟨x, fst0 D1 x true, false, 0⟩, c + 2, e3, rfl, rfl, ?_, hne, hlen, by omega, fun _ => by rw [e2]; exact h2, fun b hb hy hw => ?_⟩
        · exact ⟨pgLen hL.ok (by rw [hL.n]; exact hx), pgBys hL.ok x⟩
        · rw [e2]
          have hro := readD_ops D1
          exact key (readD D1) _ _ (c + 2) ⟨hL.well.read, readD_ok hL.ok, by rw [readD_n]; exact hL.n, by have := hL.ops; omega, by rw [hro.2]; have := hL.since; omega, hL.len, hL.pins, hL.pg, hL.nd, hL.here, fun y hy' hc => by rw [hL.well.readNow]; exact hL.there y hy' hc⟩ rfl rfl hne hlen b hb hy hw
      | false =>
        rw [if_neg (by simp)] at e2
        refine ⟨e1, L.eraseIdx 0, ⟨x, fst0 D1 x false, false, 0⟩, c + 1, e3, rfl, rfl, ?_, hne, hlen, by omega, fun e => (by cases e), fun b hb hy hw => by rw [e2]; exact key D1 _ _ (c + 1) hL rfl rfl hne hlen b hb hy hw⟩
        exact ⟨List.length_replicate, bys_rep 256⟩

/-- One frame is written. -/
theorem TellI.clean {D : Dv} {L : List Fr} {ws : List (List Int)} {c : Nat} (h : TellI D L ws c) {i : Nat} (hi : i < L.length) : TellI (writeD D (L.getD i fr0).page (L.getD i fr0).b) (L.set i { L.getD i fr0 with dirty := false }) ws (c + 1) := by
  have hfm := getD_memF hi
  obtain ⟨f, hf⟩ : ∃ f, L.getD i fr0 = f := ⟨_, rfl⟩
  rw [hf] at hfm ⊢
  obtain ⟨p1, p2⟩ := h.pg f hfm
  have hwo := writeD_ops D f.page f.b
  have hnow := h.ok.now
  rw [h.n] at hnow
  have hmem : ∀ g ∈ L.set i { f with dirty := false }, g ∈ L ∨ g = { f with dirty := false } := fun g hg => List.mem_or_eq_of_mem_set hg
  have hmap : (L.set i { f with dirty := false }).map (·.page) = L.map (·.page) := by
    rw [List.getD_eq_getElem?_getD, List.getElem?_eq_getElem hi, Option.getD_some] at hf
    apply List.ext_getElem?
    intro j
    rw [List.getElem?_map, List.getElem?_map, List.getElem?_set]
    by_cases hj : i = j
    · subst hj
      rw [if_pos rfl, if_pos hi, List.getElem?_eq_getElem hi, hf]
      rfl
    · rw [if_neg hj]
  refine ⟨h.well.write _ _, writeD_ok' h.ok (by rw [h.n]; exact p1) p2, by rw [writeD_n]; exact h.n, by have := h.ops; omega, by have := h.since; omega, by simpa using h.len, fun g hg => ?_, fun g hg => ?_, by rw [hmap]; exact h.nd, fun g hg => ?_, fun x hx hc => ?_⟩
  · rcases hmem g hg with h1 | h1
    · exact h.pins g h1
    · rw [h1]; exact h.pins f hfm
  · rcases hmem g hg with h1 | h1
    · exact h.pg g h1
    · rw [h1]; exact ⟨p1, p2⟩
  · rcases hmem g hg with h1 | h1
    · exact h.here g h1
    · rw [h1]; exact h.here f hfm
  · rw [h.well.writeNow, pageOf_onto (by omega) (by omega) p2.1]
    by_cases hxf : x = f.page
    · rw [if_pos hxf, hxf]; exact h.here f hfm
    · rw [if_neg hxf]
      refine h.there x hx (fun g hg e => ?_)
      refine hc g ?_ e
      obtain ⟨j, hj, e1⟩ := List.getElem_of_mem hg
      have hji : i ≠ j := fun e2 => by
        subst e2
        rw [List.getD_eq_getElem?_getD, List.getElem?_eq_getElem hi, Option.getD_some] at hf
        exact hxf (by rw [← e, ← e1, hf])
      have : (L.set i { f with dirty := false })[j]'(by simpa using hj) = g := by rw [List.getElem_set_ne hji]; exact e1
      rw [← this]
      exact List.getElem_mem _

theorem TellI.flush {ws : List (List Int)} : ∀ (zs : List Int) {D : Dv} {L : List Fr} {c : Nat}, TellI D L ws c → (∀ z ∈ zs, fiP L z < L.length) → (flS zs D L).1 = 0 ∧ TellI (flS zs D L).2.1 (flS zs D L).2.2 ws (c + zs.length) ∧ ∀ f ∈ (flS zs D L).2.2, f.dirty = true → f ∈ L ∧ (f.page : Int) ∉ zs
  | [], D, L, c, h, _ => ⟨rfl, h, fun f hf _ => ⟨hf, by simp⟩⟩
  | z :: r, D, L, c, h, hz => by
    have hi := hz z (by simp)
    have h2 := h.clean hi
    have hset : ∀ y : Int, fiP (L.set (fiP L z) { L.getD (fiP L z) fr0 with dirty := false }) y = fiP L y := fun y => fiP_set (f := { L.getD (fiP L z) fr0 with dirty := false }) hi rfl y
    obtain ⟨e1, h3, h4⟩ := TellI.flush r h2 (fun y hy => by rw [hset, List.length_set]; exact hz y (List.mem_cons_of_mem _ hy))
    have hstep : flS (z :: r) D L = flS r (writeD D (L.getD (fiP L z) fr0).page (L.getD (fiP L z) fr0).b) (L.set (fiP L z) { L.getD (fiP L z) fr0 with dirty := false }) := by
      show (if saysD D = 0 then _ else _) = _
      rw [if_pos h.well.says]
    rw [hstep]
    refine ⟨e1, h3.mono (by simp; omega), fun f hf hd => ?_⟩
    obtain ⟨m1, m2⟩ := h4 f hf hd
    have hpz : ((L.getD (fiP L z) fr0).page : Int) = z := by
      have := List.findIdx_getElem (w := hi)
      simp only [decide_eq_true_eq] at this
      rw [List.getD_eq_getElem?_getD, List.getElem?_eq_getElem hi, Option.getD_some]
      exact this
    rcases List.mem_or_eq_of_mem_set m1 with h5 | h5
    · refine ⟨h5, fun h6 => ?_⟩
      rcases List.mem_cons.1 h6 with h6 | h6
      · -- the frame of page z is clean now
        have e5 : f = L.getD (fiP L z) fr0 := one_page h.nd h5 (getD_memF hi) (by omega)
        obtain ⟨j, hj, e6⟩ := List.getElem_of_mem m1
        rw [List.getElem_set] at e6
        split at e6
        · rw [← e6] at hd; simp at hd
        · rename_i hne
          have hp := List.pairwise_iff_getElem.1 h.nd
          have hj' : j < L.length := by simpa using hj
          have e7 : L[j].page = (L[fiP L z]'hi).page := by
            rw [e6, e5, List.getD_eq_getElem?_getD, List.getElem?_eq_getElem hi, Option.getD_some]
          rcases Nat.lt_trichotomy j (fiP L z) with h8 | h8 | h8
          · have := hp j (fiP L z) (by simpa using hj') (by simpa using hi) h8
            simp at this
            exact this e7
          · exact hne h8.symm
          · have := hp (fiP L z) j (by simpa using hi) (by simpa using hj') h8
            simp at this
            exact this e7.symm
      · exact m2 h6
    · rw [h5] at hd; simp at hd

/-- Behind Flush nothing is dirty. -/
theorem TellI.flushed {D : Dv} {L : List Fr} {ws : List (List Int)} {c : Nat} (h : TellI D L ws c) : (flS (pgsP L fitD) D L).1 = 0 ∧ TellI (flS (pgsP L fitD) D L).2.1 (flS (pgsP L fitD) D L).2.2 ws (c + 8) ∧ ∀ f ∈ (flS (pgsP L fitD) D L).2.2, f.dirty = false := by
  have hz : ∀ z ∈ pgsP L fitD, fiP L z < L.length := fun z hz => by
    unfold pgsP at hz
    rw [(srt_perm _).mem_iff] at hz
    obtain ⟨f, hf, e⟩ := List.mem_map.1 hz
    exact (fiP_some ⟨f, (List.mem_filter.1 hf).1, e⟩).1
  obtain ⟨e1, h2, h3⟩ := TellI.flush _ h hz
  have hlen : (pgsP L fitD).length ≤ 8 := by rw [pgsP_len]; have := List.length_filter_le fitD L; have := h.len; omega
  refine ⟨e1, h2.mono (by omega), fun f hf => ?_⟩
  cases hd : f.dirty with
  | false => rfl
  | true =>
    obtain ⟨m1, m2⟩ := h3 f hf hd
    exfalso
    apply m2
    unfold pgsP
    rw [(srt_perm _).mem_iff]
    exact List.mem_map.2 ⟨f, List.mem_filter.2 ⟨m1, hd⟩, rfl⟩
end Go.Proofs.YtojckbhbnalkeaaGreat.Oct
