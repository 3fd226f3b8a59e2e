/-
  pool: a page's first bytes: unread, read.
-/
import Derived.Test.YtojckbhbnalkeaaIi
namespace Go.Proofs.Ytojckbhbnalkeaa.Oct
open Go.RowKit
attribute [local go_sem ↓] loadA_eq allocA_eq storeA_eq buildA_eq

theorem heap_setCells (b : Nat) (t : TypeId) (fr : Nat × Nat) : ∀ (vs : List Value) (o : Nat) (w : World) (cur : Array Value), w.heap[b]? = some (.cells cur t fr) → o + vs.length ≤ cur.size →
    (w.setCells b o vs).heap[b]? = some (.cells (cur.toList.take o ++ vs ++ cur.toList.drop (o + vs.length)).toArray t fr)
  | [], o, w, cur, h, _ => by simp [World.setCells, h]
  | v :: r, o, w, cur, h, hl => by
    simp only [List.length_cons] at hl
    have h1 := setCell_heap w b o v cur t fr h
    have := heap_setCells b t fr r (o + 1) _ _ h1 (by simp; omega)
    rw [World.setCells, this]
    have hl2 : cur.toList.length = cur.size := by simp
    simp only [Array.toList_setIfInBounds, List.length_cons]
    rw [List.take_add_one, List.take_set_of_le (by omega), List.getElem?_set_self (by omega), List.drop_set_of_lt (by omega)]
    simp [Nat.add_assoc, Nat.add_comm 1]

theorem setCells_other (b : Nat) : ∀ (vs : List Value) (o : Nat) (w : World) (k : Nat), k ≠ b → (w.setCells b o vs).heap[k]? = w.heap[k]?
  | [], _, _, _, _ => rfl
  | v :: r, o, w, k, hk => by
    rw [World.setCells, setCells_other b r (o + 1) _ k hk]
    exact Below.heap_setCell w ⟨b, o, none⟩ v k hk

theorem setCells_ch {B : Nat} {G : Nat → Prop} (b : Nat) : ∀ (vs : List Value) (o : Nat) (w0 w : World), Ch B G w0 w → (B ≤ b ∨ G b) → Ch B G w0 (w.setCells b o vs)
  | [], _, _, _, h, _ => h
  | v :: r, o, w0, _, h, hb => setCells_ch b r (o + 1) w0 _ (h.setCell (p := ⟨b, o, none⟩) hb v) hb

theorem setCells_size (b : Nat) : ∀ (vs : List Value) (o : Nat) (w : World), (w.setCells b o vs).heap.size = w.heap.size
  | [], _, _ => rfl
  | v :: r, o, w => by rw [World.setCells, setCells_size b r (o + 1)]; exact size_setCell _ _ _

/-- A page's bytes are stored into the midst of a row. -/
theorem store_mid (w : World) (b o : Nat) (cur : Array Value) (t : TypeId) (cs : List Value) (h : w.heap[b]? = some (.cells cur t (0, 0))) (hl : cs.length = 256) (ho : o + 256 ≤ cur.size) (h1 : ∀ v ∈ cs, v.oneCell' = true) :
    (StoreA (.pointer (some ⟨b, o, none⟩)) (.agg cs.toArray)).run Try.prog w = .ok () (w.setCells b o cs) := by
  have := run_storeAt_mid (P := Try.prog) w b o 51 cs.toArray (fun j hj => by
    simp [hl] at hj
    refine ⟨?_, ?_⟩
    · rw [cell_of_row w b _ _ _ (0, 0) h]
      simp
      omega
    · unfold World.frozen?
      rw [h]
      simp) (by rw [size62]; simp [hl]) (all_oneCell_toArray h1)
  simpa [StoreA] using this

theorem zeA_list : zeA.toList = List.replicate 256 (Value.int .u8 0) := rfl
theorem zeA_cells : zeA = ((List.replicate 256 (0 : Int)).map (Value.int .u8)).toArray := by unfold zeA; rw [List.map_replicate]

set_option maxHeartbeats 1000000 in
theorem unread_any (w : World) (pg : Int) : Calls Try.prog 30 #[.int .i64 pg] w fun x w' => x = .returned (.agg zeA) ∧ Below w.heap.size w w' := by
  have rA := alloc_a w
  have rB := build_a (w.alloc (.cells zeA 51))
  have rS : (StoreA (.pointer (some ⟨w.heap.size, 0, none⟩)) (.agg zeA)).run Try.prog (w.alloc (.cells zeA 51)) = .ok () (w.alloc (.cells zeA 51)) :=
    store_a w zeA (List.replicate 256 (Value.int .u8 0)) zeA_size List.length_replicate (fun v hv => by rw [(List.mem_replicate.1 hv).2]; rfl)
  have hz := zeA_size
  obtain ⟨Z, hZ⟩ : ∃ Z, zeA = Z := ⟨_, rfl⟩
  rw [hZ] at rA rB rS hz ⊢
  clear hZ
  go_enter Try.func30, Try.ntmps30
  go_wp2
  refine bodyPost_ret (results_cell_row rfl _ _ w.heap.size _ Z (0, 0) _ rfl (heap_alloc_new w _) Try.underlying51 rfl (by rw [size62, hz])) rfl ?_
  exact ⟨rfl, (Below.refl _ _).alloc (Nat.le_refl _) _⟩

theorem readD_n (D : Dv) : (readD D).n = D.n := by
  unfold readD
  split
  · rfl
  · split <;> rfl

/-- What the pool's read ends in. -/
def PrEnd (D : Dv) (pg : Nat) (x : Ending) : Prop := (tellsD D = true ∧ x = .returned (.agg ((pageOf D.now pg).map (Value.int .u8)).toArray)) ∨ (tellsD D = false ∧ x = thrown 7)

theorem pgLen {D : Dv} (h : D.ok) {pg : Nat} (hp : pg < D.n) : (pageOf D.now pg).length = 256 := by
  have := h.now
  simp [pageOf]
  omega
theorem pgBys {D : Dv} (h : D.ok) (pg : Nat) : Bys (pageOf D.now pg) := fun z hz => h.bnow z (List.mem_of_mem_drop (List.mem_of_mem_take hz))

section
variable {w : World} {p d m e N : Nat} {Fd F : Nat → Prop} {D : Dv} {bs : List Nat} {fr : Nat → Fr} {ol nw : Nat → Nat}

set_option maxHeartbeats 2000000 in
theorem pread_any (h : PD w p d m e N Fd F D bs fr ol nw) (hops : D.ops ≤ 4611686018427387904) (pg : Nat) (hpg : pg < D.n) :
    Calls Try.prog 40 #[.pointer (some ⟨p, 0, none⟩), .int .i64 pg] w fun x w' => PrEnd D pg x ∧ PD w' p d m e N Fd F (readD D) bs fr ol nw ∧ Ch w.heap.size F w w' := by
  have rA := alloc_a w
  have hb0 : Below w.heap.size w (w.alloc (.cells zeA 51)) := (Below.refl _ w).alloc (Nat.le_refl _) _
  have h0 := h.below hb0
  obtain ⟨c0, c1, c2, c3⟩ := h0.pool.at
  have hrd := read_any h0.dev hops pg hpg
  have hpl := pgLen h.dev.1 hpg
  have hpb := pgBys h.dev.1 pg
  have hck := check_ok
  have hcn := check_no 7 (by decide)
  have hend : ∀ w1, Dev w1 d Fd (readD D) → Ch (w.alloc (.cells zeA 51)).heap.size Fd (w.alloc (.cells zeA 51)) w1 → PD w1 p d m e N Fd F (readD D) bs fr ol nw ∧ Ch w.heap.size F w w1 ∧ w1.heap[w.heap.size]? = some (.cells zeA 51 (0, 0)) := fun w1 h1 h2 => by
    refine ⟨⟨h1, ?_, h0.fd, h0.fp, fun k hk => Nat.lt_of_lt_of_le (h0.flt k hk) h2.size⟩, (Ch.of F hb0).trans (h2.mono (by simp) (fun k _ hk => (h0.fd k hk).1)), ?_⟩
    · rw [readD_n]
      exact h0.pool.keep (fun g hg => h2.block g (h0.flt g (h0.fp g hg)) (fun e1 => (h0.fd g e1).2 hg))
    · rw [h2.block w.heap.size (by simp) (fun e1 => by have := h.flt _ (h.fd _ e1).1; omega)]
      exact heap_alloc_new w _
  have HE : Hid (∀ w1, Dev w1 d Fd (readD D) → Ch (w.alloc (.cells zeA 51)).heap.size Fd (w.alloc (.cells zeA 51)) w1 → PD w1 p d m e N Fd F (readD D) bs fr ol nw ∧ Ch w.heap.size F w w1 ∧ w1.heap[w.heap.size]? = some (.cells zeA 51 (0, 0))) := hend
  have hz := zeA_size
  have HF : Hid (∀ k, F k → k < w.heap.size) := h.flt
  clear h h0 hend hb0 c1 c2 c3
  obtain ⟨Z, hZ⟩ : ∃ Z, zeA = Z := ⟨_, rfl⟩
  rw [hZ] at rA hz HE hrd c0
  clear hZ
  cases ht : tellsD D with
  | true =>
    go_enter Try.func40, Try.ntmps40
    go_wp2_with fail
    refine hrd.mono ?_
    clear hrd
    rintro x w1 ⟨hx, h1, h2⟩
    unfold ReadEnd at hx
    rw [if_pos ht] at hx
    obtain ⟨g, c, rfl, hown⟩ := hx
    obtain ⟨e1, e2, e3⟩ := HE.out w1 h1 h2
    have hrow := (hown.row' hpb).2
    obtain ⟨zs, hzs⟩ : ∃ zs, pageOf D.now pg = zs := ⟨_, rfl⟩
    rw [hzs] at hrow hpl
    have rL := load_a w1 g 0 (zs.map (Value.int .u8)) (by simp [hpl]) (row_range hrow)
    have rT : (Instr.arrayAt 51 (.slice (some ⟨g, 0, none⟩) 256 c)).run Try.prog w1 = .ok (.pointer (some ⟨g, 0, none⟩)) w1 := by simp [Instr.arrayAt, run_underlying Try.underlying51]
    have rS := store_mid w1 w.heap.size 0 Z 51 (zs.map (Value.int .u8)) e3 (by simp [hpl]) (by omega) (one_cells zs)
    have hres := heap_setCells w.heap.size 51 (0, 0) (zs.map (Value.int .u8)) 0 w1 Z e3 (by simp [hpl, hz])
    rw [show Z.toList.take 0 ++ zs.map (Value.int .u8) ++ Z.toList.drop (0 + (zs.map (Value.int .u8)).length) = zs.map (Value.int .u8) by
      rw [List.drop_eq_nil_of_le (by simp [hz, hpl])]; simp] at hres
    have H1 : Hid (PD (w1.setCells w.heap.size 0 (zs.map (Value.int .u8))) p d m e N Fd F (readD D) bs fr ol nw) := e1.keep (Nat.le_of_eq (setCells_size ..).symm) (fun k hk => setCells_other _ _ _ _ _ (fun e4 => by have := HF.out k hk; omega))
    have H2 : Hid (Ch w.heap.size F w (w1.setCells w.heap.size 0 (zs.map (Value.int .u8)))) := setCells_ch _ _ _ _ _ e2 (.inl (Nat.le_refl _))
    have HP : Hid (PrEnd D pg (.returned (.agg (zs.map (Value.int .u8)).toArray))) := .inl ⟨ht, by rw [hzs]⟩
    obtain ⟨w2, hw2⟩ : ∃ w2, w1.setCells w.heap.size 0 (zs.map (Value.int .u8)) = w2 := ⟨_, rfl⟩
    rw [hw2] at rS hres H1 H2
    have hcz : (zs.map (Value.int .u8)).toArray.size = 256 := by simp [hpl]
    obtain ⟨cs, hcs⟩ : ∃ cs, (zs.map (Value.int .u8)).toArray = cs := ⟨_, rfl⟩
    rw [hcs] at rL rS hres HP hcz
    clear hw2 hcs hzs hrow hown h1 h2 e1 e2 e3 HE hpl hpb
    go_wp2_with (go_at_call 58; refine (hck _).mono ?_; rintro x w3 ⟨rfl, rfl⟩)
    refine bodyPost_ret (results_cell_row rfl _ _ w.heap.size _ cs (0, 0) _ rfl hres Try.underlying51 rfl (by rw [size62, hcz])) rfl ?_
    exact ⟨HP.out, H1.out, H2.out⟩
  | false =>
    go_enter Try.func40, Try.ntmps40
    go_wp2_with fail
    refine hrd.mono ?_
    clear hrd
    rintro x w1 ⟨hx, h1, h2⟩
    unfold ReadEnd at hx
    rw [if_neg (by rw [ht]; simp)] at hx
    obtain rfl := hx
    obtain ⟨e1, e2, _⟩ := HE.out w1 h1 h2
    have H1 : Hid (PD w1 p d m e N Fd F (readD D) bs fr ol nw) := e1
    have H2 : Hid (Ch w.heap.size F w w1) := e2
    clear h1 h2 e1 e2 HE
    go_wp2_with (go_at_call 58; refine (hcn _).mono ?_; rintro x w3 ⟨rfl, rfl⟩; unfold thrown)
    exact ⟨rfl, .inr ⟨ht, rfl⟩, H1.out, H2.out⟩
end
end Go.Proofs.Ytojckbhbnalkeaa.Oct
