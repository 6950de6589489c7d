/- Package wire: what the reader's calls do. -/
import Derived.Test.YtdlkdiaobbakiaaGreatDoorWire
set_option linter.unusedVariables false
set_option linter.unusedSimpArgs false
set_option linter.unnecessarySimpa false
set_option maxRecDepth 20000
namespace Go.Proofs.YtdlkdiaobbakiaaGreatDoor
open Go.RowKit

/-- the reader at block g, over the world w0, has the bytes xs left, and s tells whether it is short -/
def RdrAt (w0 w : World) (g : Nat) (xs : List Nat) (s : Bool) : Prop :=
  w0.heap.size ≤ g ∧ Below w0.heap.size w0 w ∧ ∃ v, Row w g 137 [v, .bool s] ∧ Rd w0 v xs.length 1 (u8s xs)
theorem RdrAt.row {w0 w : World} {g : Nat} {xs : List Nat} {s : Bool} (h : RdrAt w0 w g xs s) : ∃ v, Row w g 137 [v, .bool s] ∧ Rd w0 v xs.length 1 (u8s xs) := h.2.2

theorem RdrAt.mono {w0 w w' : World} {g : Nat} {xs : List Nat} {s : Bool} (h : RdrAt w0 w g xs s) (hb : Below w.heap.size w w') : RdrAt w0 w' g xs s := by
  obtain ⟨h1, h2, v, hr, hv⟩ := h
  exact ⟨h1, bthen h2 hb, v, hr.mono hb, hv⟩
theorem RdrAt.chg {w0 w w' : World} {g a b : Nat} {xs : List Nat} {s : Bool} (h : RdrAt w0 w g xs s) (hc : Chg a b w w') (h1 : g ≠ a) (h2 : g ≠ b) (ha : w0.heap.size ≤ a) (hb : w0.heap.size ≤ b) : RdrAt w0 w' g xs s := by
  obtain ⟨h3, h4, v, hr, hv⟩ := h
  exact ⟨h3, hc.below h4 h4.size ha hb, v, hc.row hr h1 h2, hv⟩
theorem RdrAt.lt {w0 w : World} {g : Nat} {xs : List Nat} {s : Bool} (h : RdrAt w0 w g xs s) : g < w.heap.size := by
  obtain ⟨_, _, v, hr, _⟩ := h; exact hr.lt
/-- a part of a list of bytes, cut off at its front -/
theorem take_u8s (xs : List Nat) (n : Nat) : (u8s xs).take n = u8s (xs.take n) := by simp [u8s, List.map_take]
theorem drop_u8s (xs : List Nat) (n : Nat) : (u8s xs).drop n = u8s (xs.drop n) := by simp [u8s, List.map_drop]

theorem rd_nil (w : World) (A : Option Addr) : Rd w (.slice A 0 0) 0 1 [] := ⟨rfl, .inl ⟨⟨A, rfl⟩, rfl⟩⟩
theorem Rd.front {w : World} {A : Option Addr} {ca : Nat} {xs : List Nat} (h : Rd w (.slice A xs.length ca) xs.length 1 (u8s xs)) (n : Nat) (hn : n ≤ xs.length) :
    Rd w (.slice A n n) (xs.take n).length 1 (u8s (xs.take n)) := by
  have hl : (xs.take n).length = n := by rw [List.length_take]; omega
  rw [hl]
  refine ⟨by rw [u8s_length, hl]; omega, ?_⟩
  rcases h.2 with ⟨⟨A', e⟩, h0⟩ | ⟨b, o, cap, e, h1, h2, hs⟩
  · obtain rfl : n = 0 := by omega
    exact .inl ⟨⟨A, rfl⟩, rfl⟩
  · cases e
    refine .inr ⟨b, o, n, rfl, Nat.le_refl _, by omega, fun i v hv => hs i v ?_⟩
    rw [← take_u8s, List.getElem?_take] at hv
    split at hv
    · exact hv
    · cases hv
theorem Rd.rear {w : World} {A : Option Addr} {ca : Nat} {xs : List Nat} (h : Rd w (.slice A xs.length ca) xs.length 1 (u8s xs)) (n : Nat) (hn : n ≤ xs.length) (hne : ca ≠ n) :
    Rd w (.slice (A.map fun x => x.add n) (xs.length - n) (ca - n)) (xs.drop n).length 1 (u8s (xs.drop n)) := by
  have hl : (xs.drop n).length = xs.length - n := by simp
  rw [hl]
  refine ⟨by rw [u8s_length, hl]; omega, ?_⟩
  rcases h.2 with ⟨⟨A', e⟩, h0⟩ | ⟨b, o, cap, e, h1, h2, hs⟩
  · simp only [Value.slice.injEq] at e; omega
  · cases e
    refine .inr ⟨b, o + n, ca - n, by simp [addr_add], by omega, by omega, fun i v hv => ?_⟩
    rw [← drop_u8s, List.getElem?_drop] at hv
    have := hs (n + i) v hv
    rwa [← Nat.add_assoc] at this
theorem Rd.rear0 {w : World} {A : Option Addr} {ca : Nat} {xs : List Nat} (h : Rd w (.slice A xs.length ca) xs.length 1 (u8s xs)) (n : Nat) (hn : n ≤ xs.length) (hle : xs.length ≤ ca) (hne : ca = n) :
    Rd w (.slice A (xs.length - n) (ca - n)) (xs.drop n).length 1 (u8s (xs.drop n)) := by
  have hl : xs.length - n = 0 := by omega
  have hl2 : ca - n = 0 := by omega
  rw [hl, hl2, List.drop_of_length_le (by omega)]
  exact rd_nil w A

set_option maxHeartbeats 1000000 in
theorem Take_any (w0 w : World) (g : Nat) (xs : List Nat) (s : Bool) (n : Nat) (h : RdrAt w0 w g xs s) (hl : xs.length ≤ 1048576) (hn : n ≤ 1099511627776) :
    Calls Tryz.prog 91 #[.pointer (some ⟨g, 0, none⟩), .int .i64 n] w fun e w' => ∃ t, e = .returned t ∧ Rd w0 t (tk n xs).length 1 (u8s (tk n xs)) ∧
      RdrAt w0 w' g (tkL n xs) (tkS n xs s) ∧ Chg g g w w' := by
  obtain ⟨hg, hb, v, hr, hv⟩ := h
  obtain ⟨A, ca, rfl, hlc, hcm, hA⟩ := hv.form
  unfold maxLen at hcm
  have c0 : w.cell? ⟨g, 0, none⟩ = some (.slice A xs.length ca) := by rw [hr.cell]; rfl
  have c1 : w.cell? ⟨g, 0 + 1, none⟩ = some (.bool s) := by rw [hr.cell]; rfl
  have f0 := hr.frozen 0
  have f1 := hr.frozen (0 + 1)
  have HR := hid hr; have HV := hid hv; have HB := hid hb
  clear hr hv hb
  go_enter Tryz.func91, Tryz.ntmps91
  by_cases hlt : xs.length < n
  · have e1 : ¬ n ≤ xs.length := by omega
    have e2 : (n : Int) > (xs.length : Int) := by omega
    clear hA
    go_wp2
    go_ret
    refine ⟨_, rfl, by rw [tk, if_neg e1]; exact rd_nil _ _, ⟨hg, below_set (below_set HB.out _ _ _ hg) _ _ _ hg, _, by rw [tkS, if_neg e1]; exact (HR.out.set 0 _).set (0 + 1) _, by rw [tkL, if_neg e1]; exact rd_nil _ _⟩,
      ((Chg.refl g g w).setCell g 0 _ (.inl rfl)).setCell g _ _ (.inl rfl)⟩
  · have e1 : n ≤ xs.length := by omega
    have e2 : ¬ (n : Int) > (xs.length : Int) := by omega
    clear hA
    go_wp2
    · go_ret
      refine ⟨_, rfl, by rw [tk, if_pos e1]; exact HV.out.front n e1, ⟨hg, below_set HB.out _ _ _ hg, _, by rw [tkS, if_pos e1]; exact HR.out.set 0 _, by rw [tkL, if_pos e1]; have h2 := HV.out.rear0 n e1 hlc (by assumption); rw [show ca - n = 0 by omega] at h2; exact h2⟩,
        (Chg.refl g g w).setCell g 0 _ (.inl rfl)⟩
    · go_ret
      refine ⟨_, rfl, by rw [tk, if_pos e1]; exact HV.out.front n e1, ⟨hg, below_set HB.out _ _ _ hg, _, by rw [tkS, if_pos e1]; exact HR.out.set 0 _, by rw [tkL, if_pos e1]; exact HV.out.rear n e1 (by assumption)⟩,
        (Chg.refl g g w).setCell g 0 _ (.inl rfl)⟩

theorem tk_le (n : Nat) (xs : List Nat) : (tk n xs).length ≤ n := by unfold tk; split <;> simp [List.length_take, Nat.min_le_left]
theorem tk_lt {n : Nat} {xs : List Nat} {B : Nat} (h : ∀ x ∈ xs, x < B) : ∀ x ∈ tk n xs, x < B := by
  intro x hx; unfold tk at hx; split at hx
  · exact h x (List.mem_of_mem_take hx)
  · cases hx
theorem wordOf8_lt (xs : List Nat) (h : ∀ x ∈ xs, x < 256) (hl : xs.length ≤ 8) : L.wordOf 8 xs < 18446744073709551616 := by
  have h1 := L.wordOf_lt 8 xs h
  have h2 := pow_le_64 (show 8 * xs.length ≤ 64 by omega)
  omega
theorem wordOf4_lt (xs : List Nat) (h : ∀ x ∈ xs, x < 256) (hl : xs.length ≤ 4) : L.wordOf 8 xs < 4294967296 := by
  have h1 := L.wordOf_lt 8 xs h
  have h2 : 2 ^ (8 * xs.length) ≤ 2 ^ 32 := Nat.pow_le_pow_right (by omega) (by omega)
  omega

set_option maxHeartbeats 1000000 in
theorem Byte_any (w0 w : World) (g : Nat) (xs : List Nat) (s : Bool) (h : RdrAt w0 w g xs s) (hv : ∀ x ∈ xs, x < 256) (hl : xs.length ≤ 1048576) :
    Calls Tryz.prog 67 #[.pointer (some ⟨g, 0, none⟩)] w fun e w' => e = .returned (.int .i64 (L.wordOf 8 (tk 1 xs) : Nat)) ∧ RdrAt w0 w' g (tkL 1 xs) (tkS 1 xs s) ∧ Chg g g w w' := by
  have hn : L.wordOf 8 (tk 1 xs) < 4294967296 := wordOf4_lt _ (tk_lt hv) (Nat.le_trans (tk_le 1 xs) (by omega))
  obtain ⟨m, hm⟩ : ∃ m, L.wordOf 8 (tk 1 xs) = m := ⟨_, rfl⟩
  rw [hm] at hn ⊢
  have HM := hid hm
  clear hm
  go_enter Tryz.func67, Tryz.ntmps67
  go_wp2_with (first
    | (go_at_call 91; refine (Take_any w0 _ g xs s 1 h hl (by omega)).mono ?_; rintro e w1 ⟨t, rfl, hrd, hat, hch⟩; have HAT := hid hat; have HCH := hid hch; have HRD := hid (hrd.mono (hat.2.1)))
    | (go_at_call 90; refine (number_any _ (tk 1 xs) _ HRD.out (Nat.le_trans (tk_le 1 xs) (by omega)) (tk_lt hv)).mono ?_; rintro e w2 ⟨rfl, hw⟩; subst hw; rw [HM.out]))
  go_ret
  exact ⟨by go_num, HAT.out, HCH.out⟩

set_option maxHeartbeats 1000000 in
theorem U32_any (w0 w : World) (g : Nat) (xs : List Nat) (s : Bool) (h : RdrAt w0 w g xs s) (hv : ∀ x ∈ xs, x < 256) (hl : xs.length ≤ 1048576) :
    Calls Tryz.prog 131 #[.pointer (some ⟨g, 0, none⟩)] w fun e w' => e = .returned (.int .i64 (L.wordOf 8 (tk 4 xs) : Nat)) ∧ RdrAt w0 w' g (tkL 4 xs) (tkS 4 xs s) ∧ Chg g g w w' := by
  have hn : L.wordOf 8 (tk 4 xs) < 4294967296 := wordOf4_lt _ (tk_lt hv) (Nat.le_trans (tk_le 4 xs) (by omega))
  obtain ⟨m, hm⟩ : ∃ m, L.wordOf 8 (tk 4 xs) = m := ⟨_, rfl⟩
  rw [hm] at hn ⊢
  have HM := hid hm
  clear hm
  go_enter Tryz.func131, Tryz.ntmps131
  go_wp2_with (first
    | (go_at_call 91; refine (Take_any w0 _ g xs s 4 h hl (by omega)).mono ?_; rintro e w1 ⟨t, rfl, hrd, hat, hch⟩; have HAT := hid hat; have HCH := hid hch; have HRD := hid (hrd.mono (hat.2.1)))
    | (go_at_call 90; refine (number_any _ (tk 4 xs) _ HRD.out (Nat.le_trans (tk_le 4 xs) (by omega)) (tk_lt hv)).mono ?_; rintro e w2 ⟨rfl, hw⟩; subst hw; rw [HM.out]))
  go_ret
  exact ⟨by go_num, HAT.out, HCH.out⟩
set_option maxHeartbeats 1000000 in
theorem U64_any (w0 w : World) (g : Nat) (xs : List Nat) (s : Bool) (h : RdrAt w0 w g xs s) (hv : ∀ x ∈ xs, x < 256) (hl : xs.length ≤ 1048576) :
    Calls Tryz.prog 100 #[.pointer (some ⟨g, 0, none⟩)] w fun e w' => e = .returned (.int .u64 (L.wordOf 8 (tk 8 xs) : Nat)) ∧ RdrAt w0 w' g (tkL 8 xs) (tkS 8 xs s) ∧ Chg g g w w' := by
  go_enter Tryz.func100, Tryz.ntmps100
  go_wp2_with (first
    | (go_at_call 91; refine (Take_any w0 _ g xs s 8 h hl (by omega)).mono ?_; rintro e w1 ⟨t, rfl, hrd, hat, hch⟩; have HAT := hid hat; have HCH := hid hch; have HRD := hid (hrd.mono (hat.2.1)))
    | (go_at_call 90; refine (number_any _ (tk 8 xs) _ HRD.out (Nat.le_trans (tk_le 8 xs) (by omega)) (tk_lt hv)).mono ?_; rintro e w2 ⟨rfl, hw⟩; subst hw))
  go_ret
  exact ⟨rfl, HAT.out, HCH.out⟩
theorem Short_any (w0 w : World) (g : Nat) (xs : List Nat) (s : Bool) (h : RdrAt w0 w g xs s) :
    Calls Tryz.prog 72 #[.pointer (some ⟨g, 0, none⟩)] w fun e w' => e = .returned (.bool s) ∧ w' = w := by
  obtain ⟨v, hr, hv⟩ := h.row
  have c1 : w.cell? ⟨g, 0 + 1, none⟩ = some (.bool s) := by rw [hr.cell]; rfl
  clear hr hv h
  go_enter Tryz.func72, Tryz.ntmps72
  go_wp2
  go_ret
  exact ⟨rfl, rfl⟩
theorem Left_any (w0 w : World) (g : Nat) (xs : List Nat) (s : Bool) (h : RdrAt w0 w g xs s) (hl : xs.length ≤ 1048576) :
    Calls Tryz.prog 73 #[.pointer (some ⟨g, 0, none⟩)] w fun e w' => e = .returned (.int .i64 xs.length) ∧ w' = w := by
  obtain ⟨v, hr, hv⟩ := h.row
  obtain ⟨A, ca, rfl, hlc, hcm, hA⟩ := hv.form
  have c1 : w.cell? ⟨g, 0, none⟩ = some (.slice A xs.length ca) := by rw [hr.cell]; rfl
  clear hr hv h hA
  go_enter Tryz.func73, Tryz.ntmps73
  go_wp2
  go_ret
  exact ⟨rfl, rfl⟩
set_option maxHeartbeats 1000000 in
/-- a new reader -/
theorem NewReader_any (w : World) (v : Value) (xs : List Nat) (hv : Rd w v xs.length 1 (u8s xs)) :
    Calls Tryz.prog 66 #[v] w fun e w' => e = .returned (.pointer (some ⟨w.heap.size, 0, none⟩)) ∧ RdrAt w w' w.heap.size xs false ∧ Below w.heap.size w w' ∧ w'.heap.size = w.heap.size + 1 := by
  obtain ⟨A, ca, rfl, hlc, hcm, hA⟩ := hv.form
  have HV := hid hv
  clear hv hA
  go_enter Tryz.func66, Tryz.ntmps66
  go_wp2
  go_ret
  have hb : Below w.heap.size w (w.alloc (.cells #[.slice A xs.length ca, .bool false] 137 (0, 0))) := (brefl w).alloc (Nat.le_refl _) _
  exact ⟨rfl, ⟨Nat.le_refl _, hb, _, by unfold Row; rw [heap_alloc_new], HV.out⟩, hb, by simp⟩
end Go.Proofs.YtdlkdiaobbakiaaGreatDoor
