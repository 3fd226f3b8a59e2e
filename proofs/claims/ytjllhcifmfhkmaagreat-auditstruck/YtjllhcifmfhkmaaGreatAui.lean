/-
  The program's audit: a page's text, read once.
-/
import Derived.Test.YtjllhcifmfhkmaaGreatAuf
import Derived.Test.YtjllhcifmfhkmaaGreatYd
import Derived.Shelf.Bytes.SlCountOne
namespace Go.Proofs.YtjllhcifmfhkmaaGreat.Oct
open Go.RowKit

set_option maxHeartbeats 2000000 in
theorem text_gotn (a : Option Addr) (cap n : Nat) (w : World) (P : Pg) (k : Nat) (hk : P.count = k) (hk1 : 1 ≤ k) (hk2 : k ≤ 248) (hlen : P.body.length = 248) (hbys : Bys P.body)
    (C : ∀ w1, Below w.heap.size w w1 → Calls Tryz.prog 128 #[.agg #[.int .i64 4, .int .i64 0, .int .i64 0, .int .i64 248], .slice a n cap] w1 fun e w' => ∃ g c, e = .returned (.tuple #[pgV P g c, .int .i64 0]) ∧ Own w1.heap.size w' (.slice g P.body.length c) P.body ∧ Below w1.heap.size w1 w') (V : Bool) (hV : nouB (P.body.drop k) = V) :
    Calls Tryz.prog 110 #[.slice a n cap] w fun e w' => ∃ g c, e = .returned (.tuple #[.slice g (if V then k else 0) c, .int .i64 (if V then 0 else 4)]) ∧ (g = none → c = 0) ∧ Row w' g c (if V then P.body.take k else []) ∧ (∀ k, obl g k → w.heap.size ≤ k) ∧ Below w.heap.size w w' := by
  dsimp only [pgV] at C
  rw [hlen, hk] at C
  have HC : Hid _ := C
  clear C hk
  go_enter Tryz.func110, Tryz.ntmps110
  go_wp2_with fail
  refine (text_v _).mono ?_
  rintro e w1 ⟨rfl, hb⟩
  have HB : Hid (Below w.heap.size w w1) := hb
  clear hb
  go_wp2_with fail
  refine (HC.out _ HB.out).mono ?_
  rintro e w2 ⟨g, c, rfl, ho, hb2⟩
  have HB2 : Hid (Below w.heap.size w w2) := HB.out.trans (hb2.mono HB.out.size)
  have HR : Hid (Row (w2.alloc (.cells #[.int .i64 P.kind, .int .i64 P.level, .int .i64 k, .slice g 248 c] 127)) g c P.body) := (ho.row' hbys).2.below ((Below.refl _ _).alloc (Nat.le_refl _) _)
  have HO : Hid (∀ k, obl g k → w.heap.size ≤ k) := fun k hk => by have := (World.ownsRow.lt ho k (own_obl hk)).1; have := HB.out.size; omega
  clear hb2 ho HC
  obtain ⟨b, off, hg⟩ := HR.out.some' (by omega)
  subst hg
  have hcap := HR.out.2.1
  have hmx := HR.out.2.2.1
  unfold maxLen at hmx
  rw [hlen] at hcap
  by_cases hck : c = k
  · have hk8 : k = 248 := by omega
    subst hk8
    subst hck
    have hv : V = true := by rw [← hV, List.drop_of_length_le (by omega)]; rfl
    subst hv
    have CN := noughts_e (some ⟨b, off, none⟩) 0 (w2.alloc (.cells #[.int .i64 P.kind, .int .i64 P.level, .int .i64 248, .slice (some ⟨b, off, none⟩) 248 248] 127))
    go_wp2_with fail
    refine CN.mono ?_
    clear CN
    rintro e w3 ⟨rfl, rfl⟩
    go_wp2
    go_ret2
    exact ⟨some ⟨b, off, none⟩, 248, rfl, (fun h => by cases h), HR.out.take' 248 248 (by omega) (Nat.le_refl _) (by omega), HO.out, HB2.out.alloc HB2.out.size _⟩
  · have hrd := HR.out.drop' k (by omega)
    have CN := noughts_w _ _ (248 - k) _ _ hrd (by rw [List.length_drop, hlen]) V hV
    clear hrd
    cases V
    · go_wp2_with fail
      refine CN.mono ?_
      clear CN
      rintro e w3 ⟨rfl, rfl⟩
      go_wp2
      go_ret2
      exact ⟨none, 0, rfl, fun _ => rfl, row0 _, (fun k ⟨x, e, _⟩ => by cases e), HB2.out.alloc HB2.out.size _⟩
    · go_wp2_with fail
      refine CN.mono ?_
      clear CN
      rintro e w3 ⟨rfl, rfl⟩
      go_wp2
      go_ret2
      exact ⟨some ⟨b, off, none⟩, k, rfl, (fun h => by cases h), HR.out.take' k k (by omega) (Nat.le_refl _) (by omega), HO.out, HB2.out.alloc HB2.out.size _⟩

theorem text_n (a : Option Addr) (cap n : Nat) (zs : List Int) (w : World) (h : Row w a cap zs) (hn : zs.length = n) (E : Int) (hE : teE zs = E) (L : List Int) (hL : teL zs = L) (m : Nat) (hm : L.length = m) :
    Calls Tryz.prog 110 #[.slice a n cap] w fun e w' => ∃ g c, e = .returned (.tuple #[.slice g m c, .int .i64 E]) ∧ (g = none → c = 0) ∧ Row w' g c L ∧ (∀ k, obl g k → w.heap.size ≤ k) ∧ Below w.heap.size w w' := by
  subst hE hL hm
  have C : ∀ w1, Below w.heap.size w w1 → Calls Tryz.prog 128 #[.agg #[.int .i64 4, .int .i64 0, .int .i64 0, .int .i64 248], .slice a n cap] w1 fun e w' => ∃ g c, e = .returned (.tuple #[pgV (soP textS zs) g c, .int .i64 (soE textS zs)]) ∧ Own w1.heap.size w' (.slice g (soP textS zs).body.length c) (soP textS zs).body ∧ Below w1.heap.size w1 w' := fun w1 hb => sheetOpen_v textS a cap n zs w1 (h.below hb) hn _ rfl _ rfl
  by_cases hs : soE textS zs = 0
  · obtain ⟨ho, hp, hB, hbys, hlen⟩ := so_good_out h.1 hs
    rw [hs, hp] at C
    obtain ⟨k1, k2, k3⟩ := opB_out hB
    obtain ⟨k, hk⟩ := Int.eq_ofNat_of_zero_le (show 0 ≤ (opP zs).count by omega)
    have hk3 : (opP zs).count ≤ 248 := k3.2
    have := text_gotn a cap n w (opP zs) k hk (by omega) (by omega) hlen hbys C _ rfl
    cases hv : nouB ((opP zs).body.drop k)
    · have e1 : teE zs = 4 := by unfold teE teB; rw [if_pos ho, hB, hk, Int.toNat_natCast, hv]; rfl
      have e2 : teL zs = [] := by unfold teL; rw [e1]; rfl
      rw [hv] at this
      rw [e1, e2]
      refine this.mono ?_
      rintro e w' ⟨g, c, rfl, h1, h2, h9, hb⟩
      exact ⟨g, c, rfl, h1, h2, h9, hb⟩
    · have e1 : teE zs = 0 := by unfold teE teB; rw [if_pos ho, hB, hk, Int.toNat_natCast, hv]; rfl
      have e2 : teL zs = (opP zs).body.take k := by unfold teL; rw [if_pos e1, hk]; rfl
      rw [hv] at this
      rw [e1, e2]
      refine this.mono ?_
      rintro e w' ⟨g, c, rfl, h1, h2, h9, hb⟩
      refine ⟨g, c, ?_, h1, h2, h9, hb⟩
      rw [List.length_take, hlen, Nat.min_eq_left (by omega)]
      rfl
  · have := text_err a cap n w _ _ C (by simpa using hs)
    have e1 : teE zs = soE textS zs := by
      unfold teE teB soE
      unfold soE at hs
      by_cases ho : opE zs = 0
      · rw [if_pos ho] at hs
        rw [if_pos ho, if_pos ho]
        cases hB : opB textS (opP zs)
        · rfl
        · rw [hB] at hs; exact absurd rfl hs
      · rw [if_neg ho, if_neg ho]
    have e2 : teL zs = [] := by unfold teL; rw [e1, if_neg hs]
    rw [e1, e2]
    refine this.mono ?_
    rintro e w' ⟨rfl, hb⟩
    exact ⟨none, 0, rfl, fun _ => rfl, row0 _, (fun k ⟨x, e, _⟩ => by cases e), hb⟩

section
variable {w w' : World} {p d gr cr m cP : Nat} {F FD : Nat → Prop} {D0 : Dv} {L : List Int} {aP : Option Addr} {R : List Bool} {pcs : List C4} {ts : List (Nat × Value)}

/-- A text more. -/
theorem PW.addTx (h : PW w p d F FD D0 L gr cr m aP cP R pcs ts) {w2 : World} {n : Nat} {a : Option Addr} {c : Nat} (hg : w.grownBy w2 (some m)) (ht : HeldV w2 m (ts ++ [(n, .slice a (teL (pageOf L n)).length c)])) (hr : Row w a c (teL (pageOf L n))) (ho : ∀ k, obl a k → ¬ F k ∧ k < w.heap.size) : PW w2 p d F FD D0 L gr cr m aP cP R pcs (ts ++ [(n, .slice a (teL (pageOf L n)).length c)]) := by
  have k : ∀ g, g < w.heap.size → ¬ g = m → w2.heap[g]? = w.heap[g]? := fun g h1 h2 => hg.block g h1 (fun e => h2 (by simpa using e))
  have kF : ∀ g, F g → ¬ g = m → w2.heap[g]? = w.heap[g]? := fun g h1 h2 => k g (h.lt g h1) h2
  have hs := hg.size
  refine { h with lt := fun g hg => Nat.lt_of_lt_of_le (h.lt g hg) hs, dev := h.dev.keep hs (fun g hg => kF g (h.fD g hg) (fun e => h.mD (e ▸ hg))), cells := (kF p h.fp h.pm).trans h.cells, rch := h.rch.kept (kF gr h.fg h.gm), pc := h.pc.keepO (fun g hg => kF g (h.fP g hg) (fun e => h.mP (e ▸ hg))), tx := ht, row := fun x hx => ?_ }
  rcases List.mem_append.1 hx with hx | hx
  · exact (h.row x hx).keep hs (fun g h1 h2 => ⟨k g h2 (fun e => h1 (e ▸ h.fm)), h1⟩)
  · simp only [List.mem_singleton] at hx
    subst hx
    exact ⟨a, c, rfl, hr.keepO (fun g hg => k g (ho g hg).2 (fun e => (ho g hg).1 (e ▸ h.fm))), fun g hg => ⟨(ho g hg).1, Nat.lt_of_lt_of_le (ho g hg).2 hs⟩⟩
theorem findV_mem {ts : List (Nat × Value)} {k : Int} {v : Value} (h : findV ts k = some v) : ∃ x ∈ ts, (x.1 : Int) = k ∧ x.2 = v := by
  unfold findV at h
  cases hf : ts.find? (fun x => decide ((x.1 : Int) = k)) with
  | none => rw [hf] at h; cases h
  | some y =>
    rw [hf] at h
    simp at h
    have := List.find?_some hf
    simp at this
    exact ⟨y, List.mem_of_find?_eq_some hf, this, h⟩

/-- How textPage ends. -/
def TpE (w : World) (p d : Nat) (F : Nat → Prop) (D0 : Dv) (L : List Int) (R : List Bool) (pcs : List C4) (ts : List (Nat × Value)) (n : Nat) (e : Ending) (w' : World) : Prop :=
  (∃ a c ts', e = .returned (.slice a (teL (pageOf L n)).length c) ∧ teE (pageOf L n) = 0 ∧ ((findV ts n).isSome = true ∨ rcB R (n : Int) = true) ∧ PWA w' p d F D0 L (if (findV ts n).isSome = true then R else R.set n true) pcs ts' ∧ (∀ k, findV ts' k = none ↔ (findV ts k = none ∧ ¬ k = (n : Int))) ∧ (∀ x ∈ ts', teE (pageOf L x.1) = 0) ∧ ts'.length ≤ ts.length + 1 ∧ Row w' a c (teL (pageOf L n)) ∧ (∀ k, obl a k → ¬ F k ∧ k < w'.heap.size) ∧ (a = none → c = 0) ∧ Ch w.heap.size F w w' ∧ w'.heap[p]? = w.heap[p]? ∧ ∀ x ∈ ts', x ∈ ts ∨ ∀ k, x.2.ownBlock = some k → w.heap.size ≤ k) ∨
  AuBad w F d D0 R.length e w' (¬ (teE (pageOf L n) = 0 ∧ ((findV ts n).isSome = true ∨ rcB R (n : Int) = true)))
end
end Go.Proofs.YtjllhcifmfhkmaaGreat.Oct

/-
  The program's audit: textPage.
-/
namespace Go.Proofs.YtjllhcifmfhkmaaGreat.Oct
open Go.RowKit

theorem te_pos {z : List Int} (hz : Bys z) (h : teE z = 0) : 0 < (teL z).length := by
  have := bytB_out (byt_te hz h).1
  omega
theorem Row.nn {w : World} {a : Option Addr} {c : Nat} {zs : List Int} (h : Row w a c zs) (hl : 0 < zs.length) : a = none → c = 0 := fun e => by
  obtain ⟨b, off, e2⟩ := h.some' hl
  rw [e] at e2
  cases e2

section
variable {w w' : World} {p d : Nat} {F : Nat → Prop} {D0 : Dv} {L : List Int} {R : List Bool} {pcs : List C4} {ts : List (Nat × Value)}

set_option maxHeartbeats 2000000 in
set_option maxRecDepth 20000 in
theorem textPage_p (h : PWA w p d F D0 L R pcs ts) (n : Nat) (hn : n ≤ 4096) (hte : ∀ x ∈ ts, teE (pageOf L x.1) = 0) (htl : ts.length ≤ 999999) :
    Calls Tryz.prog 89 #[.pointer (some ⟨p, 0, none⟩), .int .i64 n] w fun e w' => TpE w p d F D0 L R pcs ts n e w' := by
  have hrn := h.rn
  have hwf : (Lit.int .i64 (n : Int)).wf = true := by
    simp [Lit.wf, IntKind.min, IntKind.max, IntKind.signed, IntKind.bits]
    omega
  have hzb : Bys (pageOf L n) := page_bys hrn.2.2.2.2 _
  cases hf : findV ts (n : Int) with
  | some v =>
    obtain ⟨FD, gr, cr, m, aP, cP, hPW⟩ := id h
    obtain ⟨-, -, -, c3, -⟩ := hPW.at
    have hlk := hPW.tx.look (n : Int) hwf
    rw [hf] at hlk
    obtain ⟨x, hx, e1, e2⟩ := findV_mem hf
    obtain ⟨a, c, e3, hr, hob⟩ := hPW.row x hx
    have hxn : x.1 = n := by omega
    rw [hxn] at e3 hr
    have hv : v = .slice a (teL (pageOf L n)).length c := e2.symm.trans e3
    have hE := hte x hx
    rw [hxn] at hE
    have HE : Hid (TpE w p d F D0 L R pcs ts n (.returned (.slice a (teL (pageOf L n)).length c)) w) := by
      refine .inl ⟨a, c, ts, rfl, hE, .inl (by rw [hf]; rfl), ?_, fun k => ⟨fun hk => ⟨hk, fun e => ?_⟩, fun hk => hk.1⟩, hte, by omega, hr, hob, hr.nn (te_pos hzb hE), Ch.refl _ _ _, rfl, fun x hx => .inl hx⟩
      · rw [if_pos (by rw [hf]; rfl)]
        exact h
      · rw [e, hf] at hk
        cases hk
    subst hv
    obtain ⟨tl, htl2⟩ : ∃ tl, (teL (pageOf L n)).length = tl := ⟨_, rfl⟩
    rw [htl2] at HE hlk
    simp only [Option.getD_some, Option.isSome_some] at hlk
    clear h hPW hrn hwf hzb hf hx e1 e2 e3 hr hob hxn hE hte htl hn htl2
    go_enter Tryz.func89, Tryz.ntmps89
    go_wp2
    go_ret
    exact HE.out
  | none =>
    have hrc := reach_any h (n : Int) (by omega)
    have hlk : ∃ m, w.cell? ⟨p, 3, none⟩ = some (.map (some m)) ∧ (Instr.lookup 119 (.map (some m)) (.int .i64 n) true).run Tryz.prog w = .ok (.tuple #[.slice none 0 0, .bool false]) w := by
      obtain ⟨FD, gr, cr, m, aP, cP, hPW⟩ := h
      have := hPW.tx.look (n : Int) hwf
      rw [hf] at this
      exact ⟨m, hPW.at.2.2.2.1, this⟩
    obtain ⟨m, c3, hlk⟩ := hlk
    have HH : Hid (findV ts (n : Int) = none ∧ (∀ x ∈ ts, teE (pageOf L x.1) = 0) ∧ ts.length ≤ 999999 ∧ Bys (pageOf L n) ∧ (Lit.int .i64 (n : Int)).wf = true ∧ ∀ k, F k → k < w.heap.size) := ⟨hf, hte, htl, hzb, hwf, h.lt⟩
    clear h hrn hwf hzb hf hte htl
    go_enter Tryz.func89, Tryz.ntmps89
    go_wp2_with fail
    refine hrc.mono ?_
    clear hrc
    rintro e w1 (⟨g, c, rfl, hy, ho, hw1, hc1, hp1⟩ | hbad)
    rotate_left
    · have HE : Hid (TpE w p d F D0 L R pcs ts n e w1) := .inr (hbad.mono (Step.refl F w) (fun hno h2 => by
        rcases h2.2 with h3 | h3
        · rw [HH.out.1] at h3; cases h3
        · rw [hno] at h3; cases h3))
      rcases hbad.is with rfl | rfl
      · unfold thrA at HE ⊢
        clear hbad
        go_wp2
        exact ⟨rfl, HE.out⟩
      · unfold thrA at HE ⊢
        clear hbad
        go_wp2
        exact ⟨rfl, HE.out⟩
    · rw [Int.toNat_natCast] at ho hw1
      have hpl : (pageOf L n).length = 256 := ((ho.row' HH.out.2.2.2.1).1).symm
      obtain ⟨E, hE⟩ : ∃ E, teE (pageOf L n) = E := ⟨_, rfl⟩
      obtain ⟨tl, htl⟩ : ∃ tl, (teL (pageOf L n)).length = tl := ⟨_, rfl⟩
      have htx := text_n (some ⟨g, 0, none⟩) c 256 (pageOf L n) w1 (ho.row' HH.out.2.2.2.1).2 hpl E hE _ rfl tl htl
      have HTE : Hid (teE (pageOf L n) = E ∧ (teL (pageOf L n)).length = tl ∧ rcB R (n : Int) = true) := ⟨hE, htl, hy⟩
      have H1 : Hid (PWA w1 p d F D0 L (R.set n true) pcs ts ∧ Ch w.heap.size F w w1 ∧ w1.heap[p]? = w.heap[p]?) := ⟨hw1, hc1, hp1⟩
      clear ho hw1 hc1 hp1 hpl hE htl hy
      go_wp2_with fail
      refine htx.mono ?_
      clear htx
      rintro e w2 ⟨a, ca, rfl, hna, hra, hoa, hb2⟩
      have H2 : Hid (PWA w2 p d F D0 L (R.set n true) pcs ts ∧ Ch w.heap.size F w w2 ∧ Row w2 a ca (teL (pageOf L n)) ∧ (a = none → ca = 0) ∧ (∀ k, obl a k → ¬ F k) ∧ w2.heap[p]? = w.heap[p]? ∧ ∀ k, obl a k → w.heap.size ≤ k) := ⟨H1.out.1.below hb2, H1.out.2.1.trans (Ch.of F (hb2.mono H1.out.2.1.size)), hra, hna, fun k hk e => by have := hoa k hk; have := H1.out.1.lt k e; omega, (hb2.block p (H1.out.1.lt p H1.out.1.fp)).trans H1.out.2.2, fun k hk => Nat.le_trans H1.out.2.1.size (hoa k hk)⟩
      clear hna hra hoa hb2 H1
      by_cases hE0 : E = 0
      · subst hE0
        have hlt : ∀ k, obl a k → k < w2.heap.size := by
          rintro k ⟨x, rfl, rfl⟩
          obtain ⟨b, off, e⟩ := H2.out.2.2.1.some' (te_pos HH.out.2.2.2.1 HTE.out.1)
          cases e
          exact block_lt_of_cell (H2.out.2.2.1.cells 0 (te_pos HH.out.2.2.2.1 HTE.out.1))
        obtain ⟨FD, gr, cr, m2, aP, cP, hPW⟩ := H2.out.1
        obtain ⟨-, -, -, d3, -⟩ := hPW.at
        obtain ⟨w3, hmu, ht3, hg3⟩ := hPW.tx.put n HH.out.2.2.2.2.1 (.slice a tl ca) (by have := HH.out.2.2.1; omega) HH.out.1
        have HE : Hid (TpE w p d F D0 L R pcs ts n (.returned (.slice a tl ca)) w3) := by
          rw [← HTE.out.2.1] at ht3
          have hpw3 := hPW.addTx hg3 ht3 H2.out.2.2.1 (fun k hk => ⟨H2.out.2.2.2.2.1 k hk, hlt k hk⟩)
          rw [← HTE.out.2.1]
          refine .inl ⟨a, ca, ts ++ [(n, .slice a (teL (pageOf L n)).length ca)], rfl, HTE.out.1, .inr HTE.out.2.2, ?_, fun k => ?_, fun x hx => ?_, by simp, ?_, fun k hk => ⟨H2.out.2.2.2.2.1 k hk, Nat.lt_of_lt_of_le (hlt k hk) hg3.size⟩, H2.out.2.2.2.1, ?_, (hg3.block p (hPW.lt p hPW.fp) (fun e => hPW.pm (by simpa using e))).trans H2.out.2.2.2.2.2.1, fun x hx => ?_⟩
          · rw [if_neg (by rw [HH.out.1]; simp)]
            exact ⟨_, _, _, _, _, _, hpw3⟩
          · rw [findV_app _ (n, _) HH.out.1]
            by_cases hk : k = (n : Int)
            · simp [hk]
            · simp [hk]
          · rcases List.mem_append.1 hx with hx | hx
            · exact HH.out.2.1 x hx
            · simp only [List.mem_singleton] at hx
              subst hx
              exact HTE.out.1
          · exact H2.out.2.2.1.keepO (fun g hg => hg3.block g (hlt g hg) (fun e => H2.out.2.2.2.2.1 g hg (by have e' : g = m2 := (by simpa using e); rw [e']; exact hPW.fm)))
          · exact H2.out.2.1.trans ⟨hg3.os, hg3.tape, hg3.output, hg3.size, fun k hk hf => hg3.block k (by have := H2.out.2.1.size; omega) (fun e => hf (by have e' : k = m2 := (by simpa using e); rw [e']; exact hPW.fm))⟩
          · rcases List.mem_append.1 hx with hx | hx
            · exact .inl hx
            · right
              simp only [List.mem_singleton] at hx
              subst hx
              intro k hk
              cases a with
              | none => simp [Value.ownBlock] at hk
              | some y => exact H2.out.2.2.2.2.2.2 k ⟨y, rfl, by simpa [Value.ownBlock] using hk⟩
        have hdy := demand_yes w2
        clear hlt hPW ht3 hg3 H2 HH HTE hlk c3
        go_wp2_with (go_at_call 54; refine hdy.mono ?_; rintro e w' ⟨rfl, rfl⟩)
        go_ret
        exact HE.out
      · have hE1 : (E == 0) = false := by simpa using hE0
        have HE : Hid (TpE w p d F D0 L R pcs ts n (thrA 8) w2) := by
          have := H2.out.1.bad (no := ¬ (teE (pageOf L n) = 0 ∧ ((findV ts n).isSome = true ∨ rcB R (n : Int) = true))) (fun h => hE0 (HTE.out.1.symm.trans h.1)) (Step.of H2.out.2.1)
          rw [List.length_set] at this
          exact .inr this
        have hdn := demand_no w2
        unfold thrA at HE hdn
        clear hE0 H2 HH HTE hlk c3
        go_wp2_with (go_at_call 54; refine hdn.mono ?_; rintro e w' ⟨rfl, rfl⟩)
        exact ⟨rfl, HE.out⟩
end
end Go.Proofs.YtjllhcifmfhkmaaGreat.Oct

/-
  The program's audit: how many lines: bytes.Count at one byte; bytes.Equal.
-/
namespace Go.Proofs.YtjllhcifmfhkmaaGreat.Oct
open Go.RowKit

theorem count_by {xs : List Int} (h : Bys xs) : (Lib.countByte (Lib.bytesOf xs) (10 : Int).toNat.toUInt8 : Int) = lin xs := by
  unfold Lib.countByte Lib.bytesOf lin
  congr 1
  induction xs with
  | nil => rfl
  | cons x xs ih =>
    have hx := h x (List.mem_cons_self ..)
    have hi := ih (fun z hz => h z (List.mem_cons_of_mem _ hz))
    rw [List.map_cons, List.count_cons, List.count_cons, hi]
    congr 1
    obtain ⟨n, rfl⟩ := Int.eq_ofNat_of_zero_le hx.1
    have hn : n ≤ 255 := by omega
    have e : (UInt8.ofNat ((n : Int).toNat) == (10 : Int).toNat.toUInt8) = ((n : Int) == 10) := by
      rw [Int.toNat_natCast]
      by_cases h10 : n = 10
      · subst h10; rfl
      · have h1 : ((n : Int) == 10) = false := by rw [beq_eq_false_iff_ne]; omega
        rw [h1, beq_eq_false_iff_ne]
        intro e
        have := congrArg UInt8.toNat e
        simp at this
        omega
    rw [e]

set_option maxHeartbeats 1000000 in
set_option maxRecDepth 20000 in
theorem count_v (b off n c B : Nat) (xs : List Int) (w : World) (hr : Row w (some ⟨b, off, none⟩) c xs) (hx : xs.length = n) (hc2 : w.cell? ⟨B, 0, none⟩ = some (.int .u8 10)) (V : Int) (hV : lin xs = V) :
    Calls Tryz.prog 90 #[.slice (some ⟨b, off, none⟩) n c, .slice (some ⟨B, 0, none⟩) 1 1] w fun e w' => e = .returned (.int .i64 V) ∧ w = w' := by
  have hcnt := Lib.run_countSlice (P := Tryz.prog) w b off n c xs hx (fun i hi => hr.cells i (by omega)) 10
  rw [count_by hr.1, hV] at hcnt
  clear hr hx hV
  go_enter Tryz.func90, Tryz.ntmps90
  go_wp2
  rw [run_callFunc_extern Tryz.func112 (by kernel_rfl) (by kernel_rfl) (by kernel_rfl) (e := Extern.BytealgCount.count) (by kernel_rfl), hcnt]
  simp only [Result.andThen]
  rw [Oper.upon_value]
  go_wp2
  go_ret
  exact ⟨rfl, rfl⟩
end Go.Proofs.YtjllhcifmfhkmaaGreat.Oct
