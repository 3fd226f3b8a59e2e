/-
  page.Seal.
-/
import Derived.Test.YtbamdcjhcmogbaaZf
namespace Go.Proofs.Ytbamdcjhcmogbaa.Oct
open Go.RowKit

/-- The sheet behind the first parts. -/
def st0 : List Int := List.replicate 256 0
def st1 (p : Pg) : List Int := putR st0 4 1 p.kind
def st2 (p : Pg) : List Int := putR (st1 p) 5 1 p.level
def st3 (p : Pg) : List Int := putR (st2 p) 6 2 p.count
def st4 (p : Pg) : List Int := spl (st3 p) p.body
def st5 (p : Pg) : List Int := putR (st4 p) 0 4 (crc ((st4 p).drop 4))
def st (p : Pg) (k : Nat) : List Int := match k with
  | 0 => st0
  | 1 => st1 p
  | 2 => st2 p
  | 3 => st3 p
  | 4 => st4 p
  | _ => st5 p

/-- What is said of part k. -/
def er (p : Pg) (k : Nat) : Int := match k with
  | 0 => if okK p.kind && putB st0 4 1 p.kind then 0 else 1
  | 1 => if putB (st1 p) 5 1 p.level then 0 else 1
  | 2 => if putB (st2 p) 6 2 p.count then 0 else 1
  | 3 => if p.body.length ≤ 248 then 0 else 3
  | _ => if putB (st4 p) 0 4 (crc ((st4 p).drop 4)) then 0 else 1

theorem er0 (p : Pg) : er p 0 = if okK p.kind && putB st0 4 1 p.kind then 0 else 1 := by unfold er; rfl
theorem er1 (p : Pg) : er p 1 = if putB (st1 p) 5 1 p.level then 0 else 1 := by unfold er; rfl
theorem er2 (p : Pg) : er p 2 = if putB (st2 p) 6 2 p.count then 0 else 1 := by unfold er; rfl
theorem er3 (p : Pg) : er p 3 = if p.body.length ≤ 248 then 0 else 3 := by unfold er; rfl
theorem er4 (p : Pg) : er p 4 = if putB (st4 p) 0 4 (crc ((st4 p).drop 4)) then 0 else 1 := by unfold er; rfl

theorem bys0 : Bys st0 := fun z h => by
  have := List.eq_of_mem_replicate h
  omega

theorem len_put {zs : List Int} {p n x : Int} (h : putB zs p n x = true) : (putR zs p n x).length = zs.length := by
  unfold putR
  rw [if_pos h, putL_len]

/-- A sheet that is laid so far is one of 256 bytes. -/
theorem st_ok {p : Pg} (hb : Bys p.body) {k : Nat} (hk : k ≤ 5) (h : ∀ j, j < k → er p j = 0) : Bys (st p k) ∧ (st p k).length = 256 := by
  have l0 : st0.length = 256 := List.length_replicate
  have b1 : Bys (st1 p) := putR_bys bys0 _ _ _
  have b2 : Bys (st2 p) := putR_bys b1 _ _ _
  have b3 : Bys (st3 p) := putR_bys b2 _ _ _
  have b4 : Bys (st4 p) := spl_bys b3 hb
  have b5 : Bys (st5 p) := putR_bys b4 _ _ _
  have l1 : 1 ≤ k → (st1 p).length = 256 := fun h1 => by
    have e := h 0 (by omega)
    have : (okK p.kind && putB st0 4 1 p.kind) = true := by
      by_cases hh : (okK p.kind && putB st0 4 1 p.kind) = true
      · exact hh
      · have e2 : er p 0 = 1 := by rw [er0, if_neg hh]
        omega
    rw [Bool.and_eq_true] at this
    exact (len_put this.2).trans l0
  have l2 : 2 ≤ k → (st2 p).length = 256 := fun h1 => by
    have e := h 1 (by omega)
    have : putB (st1 p) 5 1 p.level = true := by
      by_cases hh : putB (st1 p) 5 1 p.level = true
      · exact hh
      · have e2 : er p 1 = 1 := by rw [er1, if_neg hh]
        omega
    exact (len_put this).trans (l1 (by omega))
  have l3 : 3 ≤ k → (st3 p).length = 256 := fun h1 => by
    have e := h 2 (by omega)
    have : putB (st2 p) 6 2 p.count = true := by
      by_cases hh : putB (st2 p) 6 2 p.count = true
      · exact hh
      · have e2 : er p 2 = 1 := by rw [er2, if_neg hh]
        omega
    exact (len_put this).trans (l2 (by omega))
  have l4 : 4 ≤ k → (st4 p).length = 256 := fun h1 => by
    have e := h 3 (by omega)
    have : p.body.length ≤ 248 := by
      by_cases hh : p.body.length ≤ 248
      · exact hh
      · have e2 : er p 3 = 3 := by rw [er3, if_neg hh]
        omega
    exact spl_len (l3 (by omega)) this
  have l5 : 5 ≤ k → (st5 p).length = 256 := fun h1 => by
    have e := h 4 (by omega)
    have : putB (st4 p) 0 4 (crc ((st4 p).drop 4)) = true := by
      by_cases hh : putB (st4 p) 0 4 (crc ((st4 p).drop 4)) = true
      · exact hh
      · have e2 : er p 4 = 1 := by rw [er4, if_neg hh]
        omega
    exact (len_put this).trans (l4 (by omega))
  have : k = 0 ∨ k = 1 ∨ k = 2 ∨ k = 3 ∨ k = 4 ∨ k = 5 := by omega
  rcases this with rfl | rfl | rfl | rfl | rfl | rfl
  · exact ⟨bys0, l0⟩
  · exact ⟨b1, l1 (by omega)⟩
  · exact ⟨b2, l2 (by omega)⟩
  · exact ⟨b3, l3 (by omega)⟩
  · exact ⟨b4, l4 (by omega)⟩
  · exact ⟨b5, l5 (by omega)⟩

theorem parts_any (w : World) : Calls Try.prog 45 #[] w fun e w' => e = .returned (.slice (some ⟨w.heap.size, 0, none⟩) 5 5) ∧ w' = w.alloc (.cells #[.func (Fn.func 49) #[] #[], .func (Fn.func 50) #[] #[], .func (Fn.func 51) #[] #[], .func (Fn.func 52) #[] #[], .func (Fn.func 53) #[] #[]] 83) := by
  go_enter Try.func45, Try.ntmps45
  go_wp2
  go_ret
  exact ⟨rfl, rfl⟩

/-- The number of the function that lays part k. -/
def pf (k : Nat) : Nat := match k with
  | 0 => 49
  | 1 => 50
  | 2 => 51
  | 3 => 52
  | _ => 53

/-- A page on its way to be sealed: k parts are laid. -/
structure Lay (w wr : World) (p : Pg) (ba : Option Addr) (bc g k : Nat) : Prop where
  no : ∀ j, j < k → er p j = 0
  sh : ∃ base, (1 ≤ k → base = g + 2) ∧ Sh base g wr (st p k)
  slot : Slot wr w.heap.size (.int .i64 p.kind) (.int .i64 p.level) (.int .i64 p.count) (.slice ba p.body.length bc)
  parts : ∀ i, i < 5 → wr.cell? ⟨g + 1, i, none⟩ = some (.func (Fn.func (pf i)) #[] #[])
  bel : Below w.heap.size w wr
  size : g + 2 ≤ wr.heap.size
  lt : w.heap.size < g

theorem LayEnd.same {C g : Nat} {w : World} {err : Int} {zs : List Int} {e : Ending} {w' : World} (h : LayEnd C g w err zs e w') (j : Nat) (hj : j < C) (hg : j ≠ g) : w'.heap[j]? = w.heap[j]? := by
  obtain ⟨_, u, h2, h3 | ⟨v, h3⟩, _⟩ := h
  · subst h3; exact h2.block j hj
  · subst h3; rw [Below.heap_setCell _ _ _ _ (by exact hg)]; exact h2.block j hj

theorem LayEnd.below {C g B : Nat} {w w0 : World} {err : Int} {zs : List Int} {e : Ending} {w' : World} (h : LayEnd C g w err zs e w') (hC : B ≤ C) (hg : B ≤ g) (k : Below B w0 w) : Below B w0 w' := by
  obtain ⟨_, u, h2, h3 | ⟨v, h3⟩, _⟩ := h
  · subst h3; exact k.trans (h2.mono hC)
  · subst h3; exact (k.trans (h2.mono hC)).setCell (p := ⟨g, 0, none⟩) hg _

theorem Slot.same {w w1 : World} {B : Nat} {x0 x1 x2 x3 : Value} (h : Slot w B x0 x1 x2 x3) (k : w1.heap[B]? = w.heap[B]?) : Slot w1 B x0 x1 x2 x3 := by
  obtain ⟨⟨h0, h1, h2, h3⟩, f0, f1, f2, f3⟩ := h
  exact ⟨⟨(World.cell?_of_block k).trans h0, (World.cell?_of_block k).trans h1, (World.cell?_of_block k).trans h2, (World.cell?_of_block k).trans h3⟩,
    (World.frozen?_of_block k).trans f0, (World.frozen?_of_block k).trans f1, (World.frozen?_of_block k).trans f2, (World.frozen?_of_block k).trans f3⟩

theorem LayEnd.size {C g : Nat} {w : World} {err : Int} {zs : List Int} {e : Ending} {w' : World} (h : LayEnd C g w err zs e w') : w.heap.size ≤ w'.heap.size := by
  obtain ⟨_, u, h2, h3 | ⟨v, h3⟩, _⟩ := h
  · subst h3; exact h2.size
  · subst h3; simpa [World.setCell] using h2.size

theorem Lay.next {w wr w' : World} {p : Pg} {ba : Option Addr} {bc g k : Nat} {e : Ending} (h : Lay w wr p ba bc g k) (he : LayEnd (g + 2) g wr (er p k) (st p (k + 1)) e w') (h0 : er p k = 0) : Lay w w' p ba bc g (k + 1) where
  no := fun j hj => by
    by_cases hjk : j = k
    · rw [hjk]; exact h0
    · exact h.no j (by omega)
  sh := ⟨g + 2, fun _ => rfl, by obtain ⟨_, u, _, _, h4⟩ := he; exact h4 h0⟩
  slot := h.slot.same (he.same _ (by have := h.lt; omega) (by have := h.lt; omega))
  parts := fun i hi => (World.cell?_of_block (a := ⟨g + 1, i, none⟩) (he.same (g + 1) (by omega) (by omega))).trans (h.parts i hi)
  bel := he.below (by have := h.lt; omega) (by have := h.lt; omega) h.bel
  size := Nat.le_trans h.size he.size
  lt := h.lt

theorem Lay.row {w wr : World} {p : Pg} {ba : Option Addr} {bc g k : Nat} (h : Lay w wr p ba bc g k) (hr : Row w ba bc p.body) : Row wr ba bc p.body := hr.below h.bel

theorem lay_all {w wr : World} {p : Pg} {ba : Option Addr} {bc g k : Nat} (h : Lay w wr p ba bc g k) (hk : k < 5) (hr : Row w ba bc p.body) (h1 : p.kind ≤ 9223372036854775807) (h2 : p.level ≤ 9223372036854775807) (h3 : p.count ≤ 9223372036854775807) :
    Calls Try.prog (pf k) #[.pointer (some ⟨g, 0, none⟩), pgV p ba bc] wr (LayEnd (g + 2) g wr (er p k) (st p (k + 1))) := by
  obtain ⟨hb, hl⟩ := st_ok hr.1 (Nat.le_of_lt hk) h.no
  obtain ⟨base, hbase, hs⟩ := h.sh
  have : k = 0 ∨ k = 1 ∨ k = 2 ∨ k = 3 ∨ k = 4 := by omega
  rcases this with rfl | rfl | rfl | rfl | rfl
  · rw [er0]; exact layKind_any (g + 2) base g _ p ba bc wr hs hb hl h1 h.size
  · rw [er1]; exact layLevel_any (g + 2) base g _ p ba bc wr hs hb hl h2 h.size
  · rw [er2]; exact layCount_any (g + 2) base g _ p ba bc wr hs hb hl h3 h.size
  · rw [er3]
    rw [hbase (by omega)] at hs
    exact layBody_any (g + 2) g _ p ba bc wr hs hl (h.row hr) h.size
  · rw [er4]; exact laySum_any (g + 2) base g _ p ba bc wr hs hb hl h.size

set_option maxHeartbeats 1000000 in
theorem seal_walk (p : Pg) (ba : Option Addr) (bc : Nat) (w : World) (hr : Row w ba bc p.body) (E : Int) (Z : List Int) (h1 : p.kind ≤ 9223372036854775807) (h2 : p.level ≤ 9223372036854775807) (h3 : p.count ≤ 9223372036854775807)
    (HA : Hid (∀ k, k < 5 → (∀ j, j < k → er p j = 0) → er p k ≠ 0 → E = er p k ∧ Z = [])) (HZ : Hid ((∀ j, j < 5 → er p j = 0) → E = 0 ∧ Z = st p 5)) :
    Calls Try.prog 33 #[pgV p ba bc] w fun e w' => ∃ v, e = .returned (.tuple #[v, .int .i64 E]) ∧ Own w.heap.size w' v Z ∧ Below w.heap.size w w' := by
  have HL : ∀ {wr : World} {g k : Nat}, Lay w wr p ba bc g k → k < 5 → Calls Try.prog (pf k) #[.pointer (some ⟨g, 0, none⟩), pgV p ba bc] wr (LayEnd (g + 2) g wr (er p k) (st p (k + 1))) := fun h hk => lay_all h hk hr h1 h2 h3
  have HR : Hid (Row w ba bc p.body) := hr
  have HLL : Hid (∀ {wr : World} {g k : Nat}, Lay w wr p ba bc g k → k < 5 → Calls Try.prog (pf k) #[.pointer (some ⟨g, 0, none⟩), pgV p ba bc] wr (LayEnd (g + 2) g wr (er p k) (st p (k + 1)))) := @HL
  clear HL hr h1 h2 h3
  obtain ⟨i0, hi0, hz0, hz1, hz2⟩ := info_parts info5
  dsimp only [pgV] at *
  go_enter Try.func33, Try.ntmps33
  go_wp2_with (first | (go_at_call 45; refine (parts_any _).mono ?_; rintro e w' ⟨rfl, rfl⟩) | (at_make; refine wpList_make_full _ rfl _ _ 27 rfl w.heap.size 5 i0 (.int .u8 0) 1 Try.underlying27 hi0 hz0 hz1 .i64 .i64 _ _ 256 rfl rfl rfl rfl (by rw [hz2]; omega) (by simp [maxLen]) (by simp) ?_; intro w1 hown1 hgrow1))
  have HLAY : Hid (Lay w ((w1.alloc (.cells #[.slice (some ⟨w.heap.size + 1, 0, none⟩) 256 256] 80)).alloc (.cells #[.func (Fn.func 49) #[] #[], .func (Fn.func 50) #[] #[], .func (Fn.func 51) #[] #[], .func (Fn.func 52) #[] #[], .func (Fn.func 53) #[] #[]] 83)) p ba bc w1.heap.size 0) := by
    have ho1 : Own w.heap.size w1 (.slice (some ⟨w.heap.size + 1, 0, none⟩) 256 256) st0 := by
      have e : (w.alloc (.cells #[.int .i64 p.kind, .int .i64 p.level, .int .i64 p.count, .slice ba p.body.length bc] 53)).heap.size = w.heap.size + 1 := by simp
      rw [e] at hown1
      exact made_own hown1
    have hb0 : Below (w.heap.size + 1) (w.alloc (.cells #[.int .i64 p.kind, .int .i64 p.level, .int .i64 p.count, .slice ba p.body.length bc] 53)) w1 := (Below.refl _ _).grown hgrow1 (by simp) (by simp)
    have hlt := (World.ownsRow.lt ho1 (w.heap.size + 1) rfl).2
    have hb2 : Below w1.heap.size w1 ((w1.alloc (.cells #[.slice (some ⟨w.heap.size + 1, 0, none⟩) 256 256] 80)).alloc (.cells #[.func (Fn.func 49) #[] #[], .func (Fn.func 50) #[] #[], .func (Fn.func 51) #[] #[], .func (Fn.func 52) #[] #[], .func (Fn.func 53) #[] #[]] 83)) := ((Below.refl _ _).alloc (Nat.le_refl _) _).alloc (by simp) _
    refine ⟨fun j hj => by omega, ⟨w.heap.size, fun h => by omega, some ⟨w.heap.size + 1, 0, none⟩, 256, ?_, ?_, ?_, ?_⟩, ?_, ?_, ?_, ?_, ?_⟩
    · show _ = some (Value.slice _ st0.length _)
      rw [show st0.length = 256 from List.length_replicate]
      simp
    · simp
    · show Own _ _ (Value.slice _ st0.length _) st0
      rw [show st0.length = 256 from List.length_replicate]
      exact World.ownsRow.alloc (World.ownsRow.alloc ho1 _) _
    · intro e
      simp [Value.ownBlock] at e
      omega
    · exact (((slot_new w _ _ _ _ 53).below (hb0.mono (by simp))).below hb2)
    · intro i hi
      have : i = 0 ∨ i = 1 ∨ i = 2 ∨ i = 3 ∨ i = 4 := by omega
      rcases this with rfl | rfl | rfl | rfl | rfl <;> simp [pf, World.cell?_alloc_at]
    · exact (((Below.refl w.heap.size w).alloc (Nat.le_refl _) _).trans (hb0.mono (by omega))).trans (hb2.mono (by omega))
    · simp
    · omega
  clear hown1 hgrow1 hi0 hz0 hz1 hz2
  obtain ⟨g, hg⟩ : ∃ g, w1.heap.size = g := ⟨_, rfl⟩
  rw [hg] at HLAY ⊢
  go_loopw [13] (fun i wr => ∃ k : Nat, k ≤ 5 ∧ i = .int .i64 k ∧ Lay w wr p ba bc g k) (fun i _ => 5 - (intOf i).toNat)
  case atStart => exact ⟨0, Nat.zero_le _, rfl, HLAY.out⟩
  case round =>
    obtain ⟨k, hk, rfl, hlay⟩ := hrel
    by_cases hlt : k < 5
    · obtain ⟨fk, hfk⟩ : ∃ fk, pf k = fk := ⟨_, rfl⟩
      have hpc := hlay.parts k hlt
      have c := HLL.out hlay hlt
      have hfs : fk = 49 ∨ fk = 50 ∨ fk = 51 ∨ fk = 52 ∨ fk = 53 := by
        rw [← hfk]
        have : k = 0 ∨ k = 1 ∨ k = 2 ∨ k = 3 ∨ k = 4 := by omega
        rcases this with rfl | rfl | rfl | rfl | rfl <;> simp [pf]
      rw [hfk] at c hpc
      obtain ⟨er', her⟩ : ∃ x, er p k = x := ⟨_, rfl⟩
      rw [her] at c
      obtain ⟨⟨k0, k1, k2, k3⟩, _⟩ := hlay.slot
      have HLY : Hid (Lay w wr p ba bc g k) := hlay
      have HER : Hid (er p k = er') := her
      clear hlay hfk her HLAY
      by_cases hE : er' = 0
      · subst hE
        rcases hfs with rfl | rfl | rfl | rfl | rfl
        all_goals
         go_wp2_with fail
         refine c.mono ?_
         clear c
         rintro e w2 h
         obtain ⟨rfl, _⟩ := id h
         have hn := HLY.out.next (by rw [HER.out]; exact h) HER.out
         clear h k0 k1 k2 k3 hpc
         go_wp2
         go_roundw
         case rel => exact ⟨k + 1, by omega, by go_num, hn⟩
         case measure => simp [intOf]; omega
      · have hEb : (er' != 0) = true := by simpa using hE
        obtain ⟨q1, q2⟩ := HA.out k hlt HLY.out.no (by rw [HER.out]; exact hE)
        rw [HER.out] at q1
        subst q1 q2
        rcases hfs with rfl | rfl | rfl | rfl | rfl
        all_goals
         go_wp2_with fail
         refine c.mono ?_
         clear c
         rintro e w2 h
         obtain ⟨rfl, _⟩ := id h
         have hb2 := h.below (B := w.heap.size) (by have := HLY.out.lt; omega) (by have := HLY.out.lt; omega) HLY.out.bel
         clear h k0 k1 k2 k3 hpc
         go_wp2
         go_ret2
         exact ⟨_, rfl, World.ownsRow_nil _ _ _ _, hb2⟩
    · have hk5 : k = 5 := by omega
      subst hk5
      obtain ⟨q1, q2⟩ := HZ.out hlay.no
      have hsh := hlay.sh
      obtain ⟨Y, hY⟩ : ∃ Y, st p 5 = Y := ⟨_, rfl⟩
      rw [hY] at q2 hsh
      clear hY
      have Q1 : Hid (E = 0) := q1
      have Q2 : Hid (Z = Y) := q2
      clear q1 q2
      obtain ⟨base, hb, a, cap, s1, s2, s3, s4⟩ := hsh
      have HO : Hid (Own w.heap.size wr (.slice a Y.length cap) Y) := by
        rw [hb (by omega)] at s3
        exact s3.weaken (by have := hlay.lt; omega)
      have HB : Hid (Below w.heap.size w wr) := hlay.bel
      clear hlay hb s3 s4
      go_wp2
      go_ret2
      exact ⟨_, by rw [Q1.out]; rfl, by rw [Q2.out]; exact HO.out, HB.out⟩
end Go.Proofs.Ytbamdcjhcmogbaa.Oct
