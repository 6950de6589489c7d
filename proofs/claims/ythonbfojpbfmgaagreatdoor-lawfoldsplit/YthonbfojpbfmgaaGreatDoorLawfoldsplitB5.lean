/- Package wire: what the reader's calls do. -/
import Derived.Test.YthonbfojpbfmgaaGreatDoorLawfoldsplitB4
import Derived.Laws.Cover1
import Derived.Lib.Strings
import Derived.Lib.Slices
import Derived.Lib.Small
import Derived.Lib.Walk
import Derived.Lib.BitFns
import Derived.Test.YthonbfojpbfmgaaGreatDoorLawfoldsplitB3
set_option linter.unusedVariables false
set_option linter.unusedSimpArgs false
set_option linter.unnecessarySimpa false
set_option maxRecDepth 20000
namespace Go.Proofs.YthonbfojpbfmgaaGreatDoor
open Go.RowKit

/-- the reader at block g, over the world w0, has the bytes xs left, and s tells whether it is short -/
def RdrAt (w0 w : World) (g : Nat) (xs : List Nat) (s : Bool) : Prop :=
  w0.heap.size ≤ g ∧ Below w0.heap.size w0 w ∧ ∃ v, Row w g 190 [v, .bool s] ∧ Rd w0 v xs.length 1 (u8s xs)
theorem RdrAt.row {w0 w : World} {g : Nat} {xs : List Nat} {s : Bool} (h : RdrAt w0 w g xs s) : ∃ v, Row w g 190 [v, .bool s] ∧ Rd w0 v xs.length 1 (u8s xs) := h.2.2

theorem RdrAt.mono {w0 w w' : World} {g : Nat} {xs : List Nat} {s : Bool} (h : RdrAt w0 w g xs s) (hb : Below w.heap.size w w') : RdrAt w0 w' g xs s := by
  obtain ⟨h1, h2, v, hr, hv⟩ := h
  exact ⟨h1, bthen h2 hb, v, hr.mono hb, hv⟩
theorem RdrAt.chg {w0 w w' : World} {g a b : Nat} {xs : List Nat} {s : Bool} (h : RdrAt w0 w g xs s) (hc : Chg a b w w') (h1 : g ≠ a) (h2 : g ≠ b) (ha : w0.heap.size ≤ a) (hb : w0.heap.size ≤ b) : RdrAt w0 w' g xs s := by
  obtain ⟨h3, h4, v, hr, hv⟩ := h
  exact ⟨h3, hc.below h4 h4.size ha hb, v, hc.row hr h1 h2, hv⟩
theorem RdrAt.lt {w0 w : World} {g : Nat} {xs : List Nat} {s : Bool} (h : RdrAt w0 w g xs s) : g < w.heap.size := by
  obtain ⟨_, _, v, hr, _⟩ := h; exact hr.lt
/-- a part of a list of bytes, cut off at its front -/
theorem take_u8s (xs : List Nat) (n : Nat) : (u8s xs).take n = u8s (xs.take n) := by simp [u8s, List.map_take]
theorem drop_u8s (xs : List Nat) (n : Nat) : (u8s xs).drop n = u8s (xs.drop n) := by simp [u8s, List.map_drop]

theorem rd_nil (w : World) (A : Option Addr) : Rd w (.slice A 0 0) 0 1 [] := ⟨rfl, .inl ⟨⟨A, rfl⟩, rfl⟩⟩
theorem Rd.front {w : World} {A : Option Addr} {ca : Nat} {xs : List Nat} (h : Rd w (.slice A xs.length ca) xs.length 1 (u8s xs)) (n : Nat) (hn : n ≤ xs.length) :
    Rd w (.slice A n n) (xs.take n).length 1 (u8s (xs.take n)) := by
  have hl : (xs.take n).length = n := by rw [List.length_take]; omega
  rw [hl]
  refine ⟨by rw [u8s_length, hl]; omega, ?_⟩
  rcases h.2 with ⟨⟨A', e⟩, h0⟩ | ⟨b, o, cap, e, h1, h2, hs⟩
  · obtain rfl : n = 0 := by omega
    exact .inl ⟨⟨A, rfl⟩, rfl⟩
  · cases e
    refine .inr ⟨b, o, n, rfl, Nat.le_refl _, by omega, fun i v hv => hs i v ?_⟩
    rw [← take_u8s, List.getElem?_take] at hv
    split at hv
    · exact hv
    · cases hv
theorem Rd.rear {w : World} {A : Option Addr} {ca : Nat} {xs : List Nat} (h : Rd w (.slice A xs.length ca) xs.length 1 (u8s xs)) (n : Nat) (hn : n ≤ xs.length) (hne : ca ≠ n) :
    Rd w (.slice (A.map fun x => x.add n) (xs.length - n) (ca - n)) (xs.drop n).length 1 (u8s (xs.drop n)) := by
  have hl : (xs.drop n).length = xs.length - n := by simp
  rw [hl]
  refine ⟨by rw [u8s_length, hl]; omega, ?_⟩
  rcases h.2 with ⟨⟨A', e⟩, h0⟩ | ⟨b, o, cap, e, h1, h2, hs⟩
  · simp only [Value.slice.injEq] at e; omega
  · cases e
    refine .inr ⟨b, o + n, ca - n, by simp [addr_add], by omega, by omega, fun i v hv => ?_⟩
    rw [← drop_u8s, List.getElem?_drop] at hv
    have := hs (n + i) v hv
    rwa [← Nat.add_assoc] at this
theorem Rd.rear0 {w : World} {A : Option Addr} {ca : Nat} {xs : List Nat} (h : Rd w (.slice A xs.length ca) xs.length 1 (u8s xs)) (n : Nat) (hn : n ≤ xs.length) (hle : xs.length ≤ ca) (hne : ca = n) :
    Rd w (.slice A (xs.length - n) (ca - n)) (xs.drop n).length 1 (u8s (xs.drop n)) := by
  have hl : xs.length - n = 0 := by omega
  have hl2 : ca - n = 0 := by omega
  rw [hl, hl2, List.drop_of_length_le (by omega)]
  exact rd_nil w A

set_option maxHeartbeats 1000000 in
theorem Take_any (w0 w : World) (g : Nat) (xs : List Nat) (s : Bool) (n : Nat) (h : RdrAt w0 w g xs s) (hl : xs.length ≤ 16777216) (hn : n ≤ 1099511627776) :
    Calls Tryz.prog 138 #[.pointer (some ⟨g, 0, none⟩), .int .i64 n] w fun e w' => ∃ t, e = .returned t ∧ Rd w0 t (tk n xs).length 1 (u8s (tk n xs)) ∧
      RdrAt w0 w' g (tkL n xs) (tkS n xs s) ∧ Chg g g w w' := by
  obtain ⟨hg, hb, v, hr, hv⟩ := h
  obtain ⟨A, ca, rfl, hlc, hcm, hA⟩ := hv.form
  unfold maxLen at hcm
  have c0 : w.cell? ⟨g, 0, none⟩ = some (.slice A xs.length ca) := by rw [hr.cell]; rfl
  have c1 : w.cell? ⟨g, 0 + 1, none⟩ = some (.bool s) := by rw [hr.cell]; rfl
  have f0 := hr.frozen 0
  have f1 := hr.frozen (0 + 1)
  have HR := hid hr; have HV := hid hv; have HB := hid hb
  clear hr hv hb
  go_enter Tryz.func138, Tryz.ntmps138
  by_cases hlt : xs.length < n
  · have e1 : ¬ n ≤ xs.length := by omega
    have e2 : (n : Int) > (xs.length : Int) := by omega
    clear hA
    go_wp2
    go_ret
    refine ⟨_, rfl, by rw [tk, if_neg e1]; exact rd_nil _ _, ⟨hg, below_set (below_set HB.out _ _ _ hg) _ _ _ hg, _, by rw [tkS, if_neg e1]; exact (HR.out.set 0 _).set (0 + 1) _, by rw [tkL, if_neg e1]; exact rd_nil _ _⟩,
      ((Chg.refl g g w).setCell g 0 _ (.inl rfl)).setCell g _ _ (.inl rfl)⟩
  · have e1 : n ≤ xs.length := by omega
    have e2 : ¬ (n : Int) > (xs.length : Int) := by omega
    clear hA
    go_wp2
    · go_ret
      refine ⟨_, rfl, by rw [tk, if_pos e1]; exact HV.out.front n e1, ⟨hg, below_set HB.out _ _ _ hg, _, by rw [tkS, if_pos e1]; exact HR.out.set 0 _, by rw [tkL, if_pos e1]; have h2 := HV.out.rear0 n e1 hlc (by assumption); rw [show ca - n = 0 by omega] at h2; exact h2⟩,
        (Chg.refl g g w).setCell g 0 _ (.inl rfl)⟩
    · go_ret
      refine ⟨_, rfl, by rw [tk, if_pos e1]; exact HV.out.front n e1, ⟨hg, below_set HB.out _ _ _ hg, _, by rw [tkS, if_pos e1]; exact HR.out.set 0 _, by rw [tkL, if_pos e1]; exact HV.out.rear n e1 (by assumption)⟩,
        (Chg.refl g g w).setCell g 0 _ (.inl rfl)⟩

theorem tk_le (n : Nat) (xs : List Nat) : (tk n xs).length ≤ n := by unfold tk; split <;> simp [List.length_take, Nat.min_le_left]
theorem tk_lt {n : Nat} {xs : List Nat} {B : Nat} (h : ∀ x ∈ xs, x < B) : ∀ x ∈ tk n xs, x < B := by
  intro x hx; unfold tk at hx; split at hx
  · exact h x (List.mem_of_mem_take hx)
  · cases hx
theorem wordOf8_lt (xs : List Nat) (h : ∀ x ∈ xs, x < 256) (hl : xs.length ≤ 8) : L.wordOf 8 xs < 18446744073709551616 := by
  have h1 := L.wordOf_lt 8 xs h
  have h2 := pow_le_64 (show 8 * xs.length ≤ 64 by omega)
  omega
theorem wordOf4_lt (xs : List Nat) (h : ∀ x ∈ xs, x < 256) (hl : xs.length ≤ 4) : L.wordOf 8 xs < 4294967296 := by
  have h1 := L.wordOf_lt 8 xs h
  have h2 : 2 ^ (8 * xs.length) ≤ 2 ^ 32 := Nat.pow_le_pow_right (by omega) (by omega)
  omega

set_option maxHeartbeats 1000000 in
theorem Byte_any (w0 w : World) (g : Nat) (xs : List Nat) (s : Bool) (h : RdrAt w0 w g xs s) (hv : ∀ x ∈ xs, x < 256) (hl : xs.length ≤ 16777216) :
    Calls Tryz.prog 79 #[.pointer (some ⟨g, 0, none⟩)] w fun e w' => e = .returned (.int .i64 (L.wordOf 8 (tk 1 xs) : Nat)) ∧ RdrAt w0 w' g (tkL 1 xs) (tkS 1 xs s) ∧ Chg g g w w' := by
  have hn : L.wordOf 8 (tk 1 xs) < 4294967296 := wordOf4_lt _ (tk_lt hv) (Nat.le_trans (tk_le 1 xs) (by omega))
  obtain ⟨m, hm⟩ : ∃ m, L.wordOf 8 (tk 1 xs) = m := ⟨_, rfl⟩
  rw [hm] at hn ⊢
  have HM := hid hm
  clear hm
  go_enter Tryz.func79, Tryz.ntmps79
  go_wp2_with (first
    | (go_at_call 138; refine (Take_any w0 _ g xs s 1 h hl (by omega)).mono ?_; rintro e w1 ⟨t, rfl, hrd, hat, hch⟩; have HAT := hid hat; have HCH := hid hch; have HRD := hid (hrd.mono (hat.2.1)))
    | (go_at_call 137; refine (number_any _ (tk 1 xs) _ HRD.out (Nat.le_trans (tk_le 1 xs) (by omega)) (tk_lt hv)).mono ?_; rintro e w2 ⟨rfl, hw⟩; subst hw; rw [HM.out]))
  go_ret
  exact ⟨by go_num, HAT.out, HCH.out⟩

set_option maxHeartbeats 1000000 in
theorem U32_any (w0 w : World) (g : Nat) (xs : List Nat) (s : Bool) (h : RdrAt w0 w g xs s) (hv : ∀ x ∈ xs, x < 256) (hl : xs.length ≤ 16777216) :
    Calls Tryz.prog 183 #[.pointer (some ⟨g, 0, none⟩)] w fun e w' => e = .returned (.int .i64 (L.wordOf 8 (tk 4 xs) : Nat)) ∧ RdrAt w0 w' g (tkL 4 xs) (tkS 4 xs s) ∧ Chg g g w w' := by
  have hn : L.wordOf 8 (tk 4 xs) < 4294967296 := wordOf4_lt _ (tk_lt hv) (Nat.le_trans (tk_le 4 xs) (by omega))
  obtain ⟨m, hm⟩ : ∃ m, L.wordOf 8 (tk 4 xs) = m := ⟨_, rfl⟩
  rw [hm] at hn ⊢
  have HM := hid hm
  clear hm
  go_enter Tryz.func183, Tryz.ntmps183
  go_wp2_with (first
    | (go_at_call 138; refine (Take_any w0 _ g xs s 4 h hl (by omega)).mono ?_; rintro e w1 ⟨t, rfl, hrd, hat, hch⟩; have HAT := hid hat; have HCH := hid hch; have HRD := hid (hrd.mono (hat.2.1)))
    | (go_at_call 137; refine (number_any _ (tk 4 xs) _ HRD.out (Nat.le_trans (tk_le 4 xs) (by omega)) (tk_lt hv)).mono ?_; rintro e w2 ⟨rfl, hw⟩; subst hw; rw [HM.out]))
  go_ret
  exact ⟨by go_num, HAT.out, HCH.out⟩
set_option maxHeartbeats 1000000 in
theorem U64_any (w0 w : World) (g : Nat) (xs : List Nat) (s : Bool) (h : RdrAt w0 w g xs s) (hv : ∀ x ∈ xs, x < 256) (hl : xs.length ≤ 16777216) :
    Calls Tryz.prog 142 #[.pointer (some ⟨g, 0, none⟩)] w fun e w' => e = .returned (.int .u64 (L.wordOf 8 (tk 8 xs) : Nat)) ∧ RdrAt w0 w' g (tkL 8 xs) (tkS 8 xs s) ∧ Chg g g w w' := by
  go_enter Tryz.func142, Tryz.ntmps142
  go_wp2_with (first
    | (go_at_call 138; refine (Take_any w0 _ g xs s 8 h hl (by omega)).mono ?_; rintro e w1 ⟨t, rfl, hrd, hat, hch⟩; have HAT := hid hat; have HCH := hid hch; have HRD := hid (hrd.mono (hat.2.1)))
    | (go_at_call 137; refine (number_any _ (tk 8 xs) _ HRD.out (Nat.le_trans (tk_le 8 xs) (by omega)) (tk_lt hv)).mono ?_; rintro e w2 ⟨rfl, hw⟩; subst hw))
  go_ret
  exact ⟨rfl, HAT.out, HCH.out⟩
theorem Short_any (w0 w : World) (g : Nat) (xs : List Nat) (s : Bool) (h : RdrAt w0 w g xs s) :
    Calls Tryz.prog 83 #[.pointer (some ⟨g, 0, none⟩)] w fun e w' => e = .returned (.bool s) ∧ w' = w := by
  obtain ⟨v, hr, hv⟩ := h.row
  have c1 : w.cell? ⟨g, 0 + 1, none⟩ = some (.bool s) := by rw [hr.cell]; rfl
  clear hr hv h
  go_enter Tryz.func83, Tryz.ntmps83
  go_wp2
  go_ret
  exact ⟨rfl, rfl⟩
theorem Left_any (w0 w : World) (g : Nat) (xs : List Nat) (s : Bool) (h : RdrAt w0 w g xs s) (hl : xs.length ≤ 16777216) :
    Calls Tryz.prog 84 #[.pointer (some ⟨g, 0, none⟩)] w fun e w' => e = .returned (.int .i64 xs.length) ∧ w' = w := by
  obtain ⟨v, hr, hv⟩ := h.row
  obtain ⟨A, ca, rfl, hlc, hcm, hA⟩ := hv.form
  have c1 : w.cell? ⟨g, 0, none⟩ = some (.slice A xs.length ca) := by rw [hr.cell]; rfl
  clear hr hv h hA
  go_enter Tryz.func84, Tryz.ntmps84
  go_wp2
  go_ret
  exact ⟨rfl, rfl⟩
set_option maxHeartbeats 1000000 in
/-- a new reader -/
theorem NewReader_any (w : World) (v : Value) (xs : List Nat) (hv : Rd w v xs.length 1 (u8s xs)) :
    Calls Tryz.prog 78 #[v] w fun e w' => e = .returned (.pointer (some ⟨w.heap.size, 0, none⟩)) ∧ RdrAt w w' w.heap.size xs false ∧ Below w.heap.size w w' ∧ w'.heap.size = w.heap.size + 1 := by
  obtain ⟨A, ca, rfl, hlc, hcm, hA⟩ := hv.form
  have HV := hid hv
  clear hv hA
  go_enter Tryz.func78, Tryz.ntmps78
  go_wp2
  go_ret
  have hb : Below w.heap.size w (w.alloc (.cells #[.slice A xs.length ca, .bool false] 190 (0, 0))) := (brefl w).alloc (Nat.le_refl _) _
  exact ⟨rfl, ⟨Nat.le_refl _, hb, _, by unfold Row; rw [heap_alloc_new], HV.out⟩, hb, by simp⟩
end Go.Proofs.YthonbfojpbfmgaaGreatDoor

/- Package wire: lists of numbers off the reader. -/
set_option linter.unusedVariables false
set_option linter.unusedSimpArgs false
set_option linter.unnecessarySimpa false
set_option maxRecDepth 20000
namespace Go.Proofs.YthonbfojpbfmgaaGreatDoor
open Go.RowKit

/-- the numbers of k bytes each that a list of bytes holds -/
def numL (k : Nat) (bs : List Nat) : List Nat := (List.range (bs.length / k)).map fun i => L.wordOf 8 ((bs.drop (k * i)).take k)
theorem numL_length (k : Nat) (bs : List Nat) : (numL k bs).length = bs.length / k := by simp [numL]
theorem part_lt {bs : List Nat} (h : ∀ x ∈ bs, x < 256) (a b : Nat) : ∀ x ∈ (bs.drop a).take b, x < 256 := fun x hx => h x (List.mem_of_mem_drop (List.mem_of_mem_take hx))
theorem part_le (bs : List Nat) (a b : Nat) : ((bs.drop a).take b).length ≤ b := by rw [List.length_take]; exact Nat.min_le_left _ _
theorem numL_lt {k : Nat} {bs : List Nat} (h : ∀ x ∈ bs, x < 256) (hk : k ≤ 8) : ∀ x ∈ numL k bs, x < 18446744073709551616 := by
  intro x hx
  obtain ⟨i, _, rfl⟩ := List.mem_map.1 hx
  exact wordOf8_lt _ (part_lt h _ _) (Nat.le_trans (part_le bs _ _) hk)
theorem numL4_lt {bs : List Nat} (h : ∀ x ∈ bs, x < 256) : ∀ x ∈ numL 4 bs, x < 4294967296 := by
  intro x hx
  obtain ⟨i, _, rfl⟩ := List.mem_map.1 hx
  exact wordOf4_lt _ (part_lt h _ _) (part_le bs _ _)
/-- the numbers of a list as ints -/
def nI (xs : List Nat) : List Int := xs.map fun x : Nat => (x : Int)

theorem nI_length (xs : List Nat) : (nI xs).length = xs.length := by simp [nI]
theorem nI_append (xs ys : List Nat) : nI (xs ++ ys) = nI xs ++ nI ys := by simp [nI]
theorem rd_part8 {w : World} {b o n cap : Nat} {xs : List Nat} (h : Seg w b o (u8s xs)) (l m : Nat) (hl : xs.length = n) (hlm : l + m ≤ n) (hc : n ≤ cap) (hm : cap ≤ maxLen) :
    Rd w (.slice (some ⟨b, o + l, none⟩) m (cap - l)) ((xs.drop l).take m).length 1 (u8s ((xs.drop l).take m)) := by
  have := Rd.part h l m (by rw [u8s_length]; exact hl) hlm (by omega) hm
  rw [drop_u8s, take_u8s] at this
  have e : ((xs.drop l).take m).length = m := by rw [List.length_take, List.length_drop]; omega
  rw [e]; exact this

set_option maxHeartbeats 2000000 in
theorem U64s_any (w0 w : World) (g : Nat) (xs : List Nat) (s : Bool) (c : Nat) (h : RdrAt w0 w g xs s) (hgs : g < w.heap.size) (hv : ∀ x ∈ xs, x < 256) (hl : xs.length ≤ 16777216) (hc : c ≤ 4294967296) :
    Calls Tryz.prog 80 #[.pointer (some ⟨g, 0, none⟩), .int .i64 c] w fun e w' => ∃ p, w.heap.size ≤ p ∧
      e = .returned (.slice (some ⟨p, 0, none⟩) (numL 8 (tk (8 * c) xs)).length (numL 8 (tk (8 * c) xs)).length) ∧ Row w' p 40 (u64s (numL 8 (tk (8 * c) xs))) ∧
      RdrAt w0 w' g (tkL (8 * c) xs) (tkS (8 * c) xs s) ∧ Chg g g w w' := by
  obtain ⟨ys, hys⟩ : ∃ ys, tk (8 * c) xs = ys := ⟨_, rfl⟩
  have hyl : ys.length ≤ 16777216 := by rw [← hys]; unfold tk; split <;> simp <;> omega
  have hyv : ∀ x ∈ ys, x < 256 := by rw [← hys]; exact tk_lt hv
  have HY := hid hys
  obtain ⟨m, hm⟩ : ∃ m, ys.length / 8 = m := ⟨_, rfl⟩
  rw [hys, numL_length, hm]
  have HM := hid hm
  have hm8 : 8 * m ≤ ys.length := by omega
  clear hys hm
  go_enter Tryz.func80, Tryz.ntmps80
  go_wp2_with (go_at_call 138; refine (Take_any w0 _ g xs s (8 * c) h hl (by omega)).mono ?_; rintro e w1 ⟨t, rfl, hrd, hat, hch⟩; rw [HY.out] at hrd; have HAT := hid hat; have HCH := hid hch; have HRD := hid (hrd.mono (hat.2.1)); obtain ⟨A, ca, rfl, hlc, hcm, hA⟩ := hrd.form; have HA := hid hA; clear hA hrd hat hch)
  refine upon_make 40 (.int .u64 0) 8 Tryz.underlying28 Tryz.info45 rfl m (by have := HM.out; omega) (by have := HM.out; omega) (by omega) (by unfold maxLen; omega) ?_
  intro w2 hrow hb2 hsz2
  have HCH2 : Hid (Chg g g w w2) := hid (HCH.out.trans (Chg.of_below hb2))
  have hg1 : g < w1.heap.size := Nat.lt_of_lt_of_le hgs HCH.out.size
  have HP : Hid (w.heap.size ≤ w1.heap.size) := hid HCH.out.size
  have HAT2 : Hid (RdrAt w0 w2 g (tkL (8 * c) xs) (tkS (8 * c) xs s)) := hid (HAT.out.mono hb2)
  have HRD2 := hid (HRD.out.mono hb2)
  have HROW := hid hrow
  have HB2 := hid hb2
  have hp2 : w1.heap.size < w2.heap.size := by omega
  clear HCH HAT hrow hb2 HRD
  generalize w1.heap.size = p at *
  go_wp2
  go_loopw [18] (fun i wr => ∃ j : Nat, j ≤ m ∧ i = .int .i64 j ∧ Row wr p 40 (u64s ((List.range j).map fun i => L.wordOf 8 ((ys.drop (8 * i)).take 8)) ++ List.replicate (m - j) (.int .u64 0)) ∧ Below p w2 wr ∧ Hid (wr.heap.size = w2.heap.size)) (fun i _ => m - (intOf i).toNat)
  case atStart => exact ⟨0, by omega, rfl, by simpa [u64s] using HROW.out, Below.refl _ _, rfl⟩
  case round =>
    obtain ⟨j, hj, rfl, hr, hb, hz⟩ := hrel
    by_cases hlt : j < m
    · have hcell : wr.cell? ⟨p, j, none⟩ = some (.int .u64 0) := by
        rw [hr.cell]; exact get_fill _ _ _ _ (by simp [u64s]) (by omega)
      have hfr := hr.frozen j
      have HRW := hid hr
      have hHA := HA.out (by omega)
      obtain ⟨b, o, rfl, hs⟩ := hHA
      have hsw : Seg wr b o (u8s ys) := hs.mono (HAT2.out.2.1.trans (hb.mono (by have := HAT2.out.1; have := hgs; have := HP.out; omega)))
      have HPART := hid (rd_part8 hsw (8 * j) 8 rfl (by omega) hlc hcm)
      clear hr hs HA hsw
      have hw8 := wordOf8_lt _ (part_lt hyv (8 * j) 8) (part_le ys (8 * j) 8)
      obtain ⟨x, hx⟩ : ∃ x, L.wordOf 8 ((ys.drop (8 * j)).take 8) = x := ⟨_, rfl⟩
      rw [hx] at hw8
      have HX := hid hx
      clear hx
      go_wp2_with (go_at_call 137; refine (number_any _ ((ys.drop (8 * j)).take 8) _ HPART.out (Nat.le_trans (part_le ys _ _) (by omega)) (part_lt hyv _ _)).mono ?_; rintro e w3 ⟨rfl, hw⟩; subst hw; rw [HX.out])
      go_roundw
      case rel =>
        refine ⟨j + 1, by omega, by go_num, ?_, below_set hb _ _ _ (Nat.le_refl _), ?_⟩
        · have hss := HRW.out.set j (.int .u64 (x : Nat))
          rw [set_fill _ _ _ _ _ (by simp [u64s]) (by omega)] at hss
          rw [List.range_succ, List.map_append, u64s_append, List.map_singleton, HX.out, ← Nat.sub_sub m j 1]
          exact hss
        · show _ = _; rw [← hz.out]; simp [World.setCell]
      case measure => simp [intOf]; omega
    · obtain rfl : j = m := by omega
      go_wp2
      go_ret
      refine ⟨p, HP.out, rfl, ?_, ⟨HAT2.out.1, ?_, ?_⟩, ?_⟩
      · have := hr
        rw [Nat.sub_self, List.replicate_zero, List.append_nil] at this
        unfold numL
        rw [HM.out]; exact this
      · exact HAT2.out.2.1.trans (hb.mono (by have := HAT2.out.1; have := HP.out; omega))
      · obtain ⟨v, hv1, hv2⟩ := HAT2.out.row
        exact ⟨v, by unfold Row; rw [hb.block g hg1]; exact hv1, hv2⟩
      · exact HCH2.out.then_below hb HP.out
set_option maxHeartbeats 2000000 in
theorem U32s_any (w0 w : World) (g : Nat) (xs : List Nat) (s : Bool) (c : Nat) (h : RdrAt w0 w g xs s) (hgs : g < w.heap.size) (hv : ∀ x ∈ xs, x < 256) (hl : xs.length ≤ 16777216) (hc : c ≤ 4294967296) :
    Calls Tryz.prog 187 #[.pointer (some ⟨g, 0, none⟩), .int .i64 c] w fun e w' => ∃ p, w.heap.size ≤ p ∧
      e = .returned (.slice (some ⟨p, 0, none⟩) (numL 4 (tk (4 * c) xs)).length (numL 4 (tk (4 * c) xs)).length) ∧ Row w' p 3 (i64s (nI (numL 4 (tk (4 * c) xs)))) ∧
      RdrAt w0 w' g (tkL (4 * c) xs) (tkS (4 * c) xs s) ∧ Chg g g w w' := by
  obtain ⟨ys, hys⟩ : ∃ ys, tk (4 * c) xs = ys := ⟨_, rfl⟩
  have hyl : ys.length ≤ 16777216 := by rw [← hys]; unfold tk; split <;> simp <;> omega
  have hyv : ∀ x ∈ ys, x < 256 := by rw [← hys]; exact tk_lt hv
  have HY := hid hys
  obtain ⟨m, hm⟩ : ∃ m, ys.length / 4 = m := ⟨_, rfl⟩
  rw [hys, numL_length, hm]
  have HM := hid hm
  have hm8 : 4 * m ≤ ys.length := by omega
  clear hys hm
  go_enter Tryz.func187, Tryz.ntmps187
  go_wp2_with (go_at_call 138; refine (Take_any w0 _ g xs s (4 * c) h hl (by omega)).mono ?_; rintro e w1 ⟨t, rfl, hrd, hat, hch⟩; rw [HY.out] at hrd; have HAT := hid hat; have HCH := hid hch; have HRD := hid (hrd.mono (hat.2.1)); obtain ⟨A, ca, rfl, hlc, hcm, hA⟩ := hrd.form; have HA := hid hA; clear hA hrd hat hch)
  refine upon_make 3 (.int .i64 0) 8 Tryz.underlying92 Tryz.infoI64 rfl m (by have := HM.out; omega) (by have := HM.out; omega) (by omega) (by unfold maxLen; omega) ?_
  intro w2 hrow hb2 hsz2
  have HCH2 : Hid (Chg g g w w2) := hid (HCH.out.trans (Chg.of_below hb2))
  have hg1 : g < w1.heap.size := Nat.lt_of_lt_of_le hgs HCH.out.size
  have HP : Hid (w.heap.size ≤ w1.heap.size) := hid HCH.out.size
  have HAT2 : Hid (RdrAt w0 w2 g (tkL (4 * c) xs) (tkS (4 * c) xs s)) := hid (HAT.out.mono hb2)
  have HRD2 := hid (HRD.out.mono hb2)
  have HROW := hid hrow
  have HB2 := hid hb2
  have hp2 : w1.heap.size < w2.heap.size := by omega
  clear HCH HAT hrow hb2 HRD
  generalize w1.heap.size = p at *
  go_wp2
  go_loopw [18] (fun i wr => ∃ j : Nat, j ≤ m ∧ i = .int .i64 j ∧ Row wr p 3 (i64s (nI ((List.range j).map fun i => L.wordOf 8 ((ys.drop (4 * i)).take 4))) ++ List.replicate (m - j) (.int .i64 0)) ∧ Below p w2 wr ∧ Hid (wr.heap.size = w2.heap.size)) (fun i _ => m - (intOf i).toNat)
  case atStart => exact ⟨0, by omega, rfl, by simpa [i64s, nI] using HROW.out, Below.refl _ _, rfl⟩
  case round =>
    obtain ⟨j, hj, rfl, hr, hb, hz⟩ := hrel
    by_cases hlt : j < m
    · have hcell : wr.cell? ⟨p, j, none⟩ = some (.int .i64 0) := by
        rw [hr.cell]; exact get_fill _ _ _ _ (by simp [i64s, nI]) (by omega)
      have hfr := hr.frozen j
      have HRW := hid hr
      have hHA := HA.out (by omega)
      obtain ⟨b, o, rfl, hs⟩ := hHA
      have hsw : Seg wr b o (u8s ys) := hs.mono (HAT2.out.2.1.trans (hb.mono (by have := HAT2.out.1; have := hgs; have := HP.out; omega)))
      have HPART := hid (rd_part8 hsw (4 * j) 4 rfl (by omega) hlc hcm)
      clear hr hs HA hsw
      have hw8 := wordOf4_lt _ (part_lt hyv (4 * j) 4) (part_le ys (4 * j) 4)
      obtain ⟨x, hx⟩ : ∃ x, L.wordOf 8 ((ys.drop (4 * j)).take 4) = x := ⟨_, rfl⟩
      rw [hx] at hw8
      have HX := hid hx
      clear hx
      go_wp2_with (go_at_call 137; refine (number_any _ ((ys.drop (4 * j)).take 4) _ HPART.out (Nat.le_trans (part_le ys _ _) (by omega)) (part_lt hyv _ _)).mono ?_; rintro e w3 ⟨rfl, hw⟩; subst hw; rw [HX.out])
      go_roundw
      case rel =>
        refine ⟨j + 1, by omega, by go_num, ?_, below_set hb _ _ _ (Nat.le_refl _), ?_⟩
        · have hss := HRW.out.set j (.int .i64 (x : Nat))
          rw [set_fill _ _ _ _ _ (by simp [i64s, nI]) (by omega)] at hss
          rw [List.range_succ, List.map_append, List.map_singleton, nI_append, i64s_append, HX.out, ← Nat.sub_sub m j 1]
          exact hss
        · show _ = _; rw [← hz.out]; simp [World.setCell]
      case measure => simp [intOf]; omega
    · obtain rfl : j = m := by omega
      go_wp2
      go_ret
      refine ⟨p, HP.out, rfl, ?_, ⟨HAT2.out.1, ?_, ?_⟩, ?_⟩
      · have := hr
        rw [Nat.sub_self, List.replicate_zero, List.append_nil] at this
        unfold numL
        rw [HM.out]; exact this
      · exact HAT2.out.2.1.trans (hb.mono (by have := HAT2.out.1; have := HP.out; omega))
      · obtain ⟨v, hv1, hv2⟩ := HAT2.out.row
        exact ⟨v, by unfold Row; rw [hb.block g hg1]; exact hv1, hv2⟩
      · exact HCH2.out.then_below hb HP.out
end Go.Proofs.YthonbfojpbfmgaaGreatDoor

/- Package chunk's small questions: kinds, rows, codecs, ends of runs, order and neighbours. -/
set_option linter.unusedVariables false
set_option linter.unusedSimpArgs false
set_option linter.unnecessarySimpa false
set_option maxRecDepth 20000
namespace Go.Proofs.YthonbfojpbfmgaaGreatDoor
open Go.RowKit

def isKind (k : Int) : Bool := decide (k = 1 ∨ k = 2)
def isRows (n : Int) : Bool := decide (0 ≤ n ∧ n ≤ 65536)
def isCodec (k c : Int) : Bool := if 1 ≤ c ∧ c ≤ 3 then isKind k else decide (4 ≤ c ∧ c ≤ 5 ∧ k = 1)

theorem IsKind_any (k : Int) (w : World) : Calls Tryz.prog 27 #[.int .i64 k] w fun e w' => e = .returned (.bool (isKind k)) ∧ w' = w := by
  go_enter Tryz.func27, Tryz.ntmps27
  go_wp2
  all_goals go_ret
  all_goals refine ⟨ret_bool ?_, rfl⟩
  all_goals by_cases h1 : k = 1 <;> by_cases h2 : k = 2 <;> simp_all [isKind]
theorem IsRows_any (k : Int) (w : World) : Calls Tryz.prog 28 #[.int .i64 k] w fun e w' => e = .returned (.bool (isRows k)) ∧ w' = w := by
  go_enter Tryz.func28, Tryz.ntmps28
  go_wp2
  all_goals go_ret
  all_goals refine ⟨ret_bool ?_, rfl⟩
  all_goals by_cases h1 : 0 ≤ k <;> by_cases h2 : k ≤ 65536 <;> simp [isRows] <;> omega
theorem IsCodec_any (k c : Int) (w : World) : Calls Tryz.prog 74 #[.int .i64 k, .int .i64 c] w fun e w' => e = .returned (.bool (isCodec k c)) ∧ w' = w := by
  go_enter Tryz.func74, Tryz.ntmps74
  by_cases h1 : c = 1
  · subst h1
    go_wp2_with (go_at_call 27; refine (IsKind_any _ _).mono ?_; rintro e w' ⟨rfl, rfl⟩)
    go_ret
    exact ⟨rfl, rfl⟩
  by_cases h2 : c = 2
  · subst h2
    go_wp2_with (go_at_call 27; refine (IsKind_any _ _).mono ?_; rintro e w' ⟨rfl, rfl⟩)
    go_ret
    exact ⟨rfl, rfl⟩
  by_cases h3 : c = 3
  · subst h3
    go_wp2_with (go_at_call 27; refine (IsKind_any _ _).mono ?_; rintro e w' ⟨rfl, rfl⟩)
    go_ret
    exact ⟨rfl, rfl⟩
  by_cases h4 : c = 4
  · subst h4
    go_wp2
    go_ret
    exact ⟨ret_bool (by by_cases h : k = 1 <;> simp [isCodec, h]), rfl⟩
  by_cases h5 : c = 5
  · subst h5
    go_wp2
    go_ret
    exact ⟨ret_bool (by by_cases h : k = 1 <;> simp [isCodec, h]), rfl⟩
  · go_wp2
    go_ret
    exact ⟨ret_bool (by unfold isCodec; rw [if_neg (by omega)]; symm; rw [decide_eq_false_iff_not]; omega), rfl⟩

/-- do the ends cut k values into runs? -/
def endsUp (last : Int) : List Int → Option Int
  | [] => some last
  | e :: r => if e ≤ last then none else endsUp e r
def runEnds (ends : List Int) (k : Int) : Bool := endsUp 0 ends == some k
theorem endsUp_snoc (es : List Int) : ∀ (l e : Int), endsUp l (es ++ [e]) = (endsUp l es).bind fun x => if e ≤ x then none else some e := by
  induction es with
  | nil => intro l e; simp [endsUp]
  | cons a r ih => intro l e; simp only [List.cons_append, endsUp]; split
                   · rfl
                   · exact ih a e
theorem endsUp_none (es fs : List Int) : ∀ l, endsUp l es = none → endsUp l (es ++ fs) = none := by
  induction es with
  | nil => intro l h; simp [endsUp] at h
  | cons a r ih => intro l h; simp only [List.cons_append, endsUp] at h ⊢; split
                   · rfl
                   · rename_i hc; rw [if_neg hc] at h; exact ih a h

set_option maxHeartbeats 1000000 in
theorem areRunEnds_any (v : Value) (es : List Int) (k : Int) (w : World) (hx : Rd w v es.length 1 (i64s es)) (hl : es.length ≤ maxLen) :
    Calls Tryz.prog 188 #[v, .int .i64 k] w fun e w' => e = .returned (.bool (runEnds es k)) ∧ w' = w := by
  unfold maxLen at hl
  obtain ⟨A, ca, rfl, hlc, hcm, hA⟩ := hx.form
  clear hx
  go_enter Tryz.func188, Tryz.ntmps188
  go_wp2
  go_loop [5, 10] (fun u i => ∃ (j : Nat) (l : Int), j ≤ es.length ∧ i = .int .i64 j ∧ u = .int .i64 l ∧ endsUp 0 (es.take j) = some l) (fun _ i => es.length - (intOf i).toNat)
  case atStart => exact ⟨0, 0, by omega, rfl, rfl, rfl⟩
  case round =>
    obtain ⟨j, l, hj, rfl, rfl, hu⟩ := hrel
    have HU := hid hu
    clear hu
    by_cases hlt : j < es.length
    · obtain ⟨b, o, rfl, hs⟩ := hA (by omega)
      have c1 := hs.int j hlt
      have hsn : endsUp 0 (es.take (j + 1)) = if es.getD j 0 ≤ l then none else some (es.getD j 0) := by
        rw [List.take_succ_eq_append_getElem hlt, endsUp_snoc, HU.out]
        simp [List.getD, List.getElem?_eq_getElem hlt]
      have HB : Hid (endsUp 0 (es.take (j + 1)) = none → runEnds es k = false) := by
        intro h
        have := endsUp_none (es.take (j + 1)) (es.drop (j + 1)) 0 h
        rw [List.take_append_drop] at this
        simp [runEnds, this]
      have HSN := hid hsn
      clear hsn hs hA
      generalize es.getD j 0 = p at *
      go_wp2
      · rename_i h
        go_ret
        exact ⟨ret_bool (HB.out (by rw [HSN.out, if_pos (by omega)])).symm, rfl⟩
      · rename_i h
        go_round
        case rel => exact ⟨j + 1, p, by omega, by go_num, rfl, by rw [HSN.out, if_neg (by omega)]⟩
        case measure => simp [intOf]; omega
    · go_wp2
      go_ret
      have hu := HU.out
      rw [show j = es.length from by omega, List.take_length] at hu
      refine ⟨ret_bool ?_, rfl⟩
      rw [runEnds, hu]
      by_cases h : l = k <;> simp [h]

/-- two neighbours of a list stand in the relation r nowhere -/
def noPair {α : Type} (r : α → α → Bool) : List α → Bool
  | a :: b :: t => !r a b && noPair r (b :: t)
  | _ => true
theorem noPair_iff {α : Type} (r : α → α → Bool) (d : α) : ∀ xs : List α, noPair r xs = true ↔ ∀ i, i + 1 < xs.length → r (xs.getD i d) (xs.getD (i + 1) d) = false := by
  intro xs
  induction xs with
  | nil => simp [noPair]
  | cons a t ih =>
    cases t with
    | nil => simp [noPair]
    | cons b t =>
      rw [noPair, Bool.and_eq_true, ih]
      constructor
      · rintro ⟨h1, h2⟩ i hi
        cases i with
        | zero => simpa using h1
        | succ i => simpa using h2 i (by simpa using hi)
      · intro h
        refine ⟨by simpa using h 0 (by simp), fun i hi => ?_⟩
        simpa using h (i + 1) (by simpa using hi)
def geI (a b : Int) : Bool := decide (b ≤ a)
def eqI (a b : Int) : Bool := a == b
def ltS (a b : ByteArray) : Bool := Op.bytesLess a.toList b.toList
def geS (a b : ByteArray) : Bool := !ltS a b
def eqS (a b : ByteArray) : Bool := a.toList == b.toList
def strs (xs : List ByteArray) : List Value := xs.map Value.string
theorem strs_length (xs : List ByteArray) : (strs xs).length = xs.length := by simp [strs]
theorem strs_get (xs : List ByteArray) (i : Nat) (h : i < xs.length) : (strs xs)[i]? = some (.string (xs.getD i default)) := by
  simp [strs, List.getElem?_eq_getElem h, List.getD]
theorem strs_append (xs ys : List ByteArray) : strs (xs ++ ys) = strs xs ++ strs ys := by simp [strs]
theorem Seg.str {w : World} {b o : Nat} {xs : List ByteArray} (h : Seg w b o (strs xs)) (i : Nat) (hi : i < xs.length) : w.cell? ⟨b, o + i, none⟩ = some (.string (xs.getD i default)) :=
  h i _ (strs_get xs i hi)
end Go.Proofs.YthonbfojpbfmgaaGreatDoor

/- Package chunk: neighbours of a list of values, both kinds. -/
set_option linter.unusedVariables false
set_option linter.unusedSimpArgs false
set_option linter.unnecessarySimpa false
set_option maxRecDepth 20000
namespace Go.Proofs.YthonbfojpbfmgaaGreatDoor
open Go.RowKit

set_option maxHeartbeats 1000000 in
theorem ascendingI_any (v : Value) (xs : List Int) (w : World) (hx : Rd w v xs.length 1 (i64s xs)) (hl : xs.length ≤ maxLen) :
    Calls Tryz.prog 204 #[v] w fun e w' => e = .returned (.bool (noPair geI xs)) ∧ ∃ n, w' = w.drewN n := by
  unfold maxLen at hl
  obtain ⟨A, ca, rfl, hlc, hcm, hA⟩ := hx.form
  clear hx
  go_enter Tryz.func204, Tryz.ntmps204
  go_wp2
  go_loopw [3] (fun i wr => (∃ k : Nat, 1 ≤ k ∧ i = .int .i64 k ∧ (k ≤ xs.length ∨ k = 1) ∧ ∀ t, t + 1 < k → geI (xs.getD t 0) (xs.getD (t + 1) 0) = false) ∧ ∃ n, wr = w.drewN n) (fun i _ => xs.length - (intOf i).toNat)
  case atStart => exact ⟨⟨1, by omega, rfl, .inr rfl, fun t h => by omega⟩, 0, rfl⟩
  case round =>
    obtain ⟨⟨k, hk1, rfl, hk, hall⟩, n, rfl⟩ := hrel
    have HA := hid hall
    clear hall
    by_cases hlt : k < xs.length
    · obtain ⟨j, rfl⟩ : ∃ j, k = j + 1 := ⟨k - 1, by omega⟩
      obtain ⟨b, o, rfl, hs⟩ := hA (by omega)
      have c1 := hs.int j (by omega)
      have c2 := hs.int (j + 1) hlt
      have HG : Hid (geI (xs.getD j 0) (xs.getD (j + 1) 0) = false → ∀ t, t + 1 < j + 1 + 1 → geI (xs.getD t 0) (xs.getD (t + 1) 0) = false) := by
        intro h t ht
        by_cases htk : t = j
        · subst htk; exact h
        · exact HA.out t (by omega)
      have HB : Hid (geI (xs.getD j 0) (xs.getD (j + 1) 0) = true → noPair geI xs = false) := by
        intro h
        rw [← Bool.not_eq_true, noPair_iff geI 0]
        intro hp
        rw [hp j hlt] at h; cases h
      have e1 : ((j + 1 : Nat) : Int) - 1 = (j : Int) := by omega
      have e2 : (((j + 1 : Nat) : Int)).toNat = j + 1 := by omega
      clear hA hs
      generalize xs.getD j 0 = p at *
      generalize xs.getD (j + 1) 0 = q at *
      go_wp2
      go_quiet (fail)
      go_wp2
      · rename_i h
        go_ret
        exact ⟨ret_bool (HB.out (by simpa [geI] using h)).symm, _, by simp; rfl⟩
      · rename_i h
        go_roundw
        case rel => exact ⟨⟨j + 1 + 1, by omega, by go_num, .inl (by omega), HG.out (by simpa [geI] using h)⟩, _, rfl⟩
        case measure => simp [intOf]; omega
    · go_wp2
      go_ret
      refine ⟨ret_bool ?_, n, rfl⟩
      symm
      rw [noPair_iff geI 0]
      intro i hi
      exact HA.out i (by omega)

set_option maxHeartbeats 1000000 in
theorem differI_any (v : Value) (xs : List Int) (w : World) (hx : Rd w v xs.length 1 (i64s xs)) (hl : xs.length ≤ maxLen) :
    Calls Tryz.prog 206 #[v] w fun e w' => e = .returned (.bool (noPair eqI xs)) ∧ ∃ n, w' = w.drewN n := by
  unfold maxLen at hl
  obtain ⟨A, ca, rfl, hlc, hcm, hA⟩ := hx.form
  clear hx
  go_enter Tryz.func206, Tryz.ntmps206
  go_wp2
  go_loopw [3] (fun i wr => (∃ k : Nat, 1 ≤ k ∧ i = .int .i64 k ∧ (k ≤ xs.length ∨ k = 1) ∧ ∀ t, t + 1 < k → eqI (xs.getD t 0) (xs.getD (t + 1) 0) = false) ∧ ∃ n, wr = w.drewN n) (fun i _ => xs.length - (intOf i).toNat)
  case atStart => exact ⟨⟨1, by omega, rfl, .inr rfl, fun t h => by omega⟩, 0, rfl⟩
  case round =>
    obtain ⟨⟨k, hk1, rfl, hk, hall⟩, n, rfl⟩ := hrel
    have HA := hid hall
    clear hall
    by_cases hlt : k < xs.length
    · obtain ⟨j, rfl⟩ : ∃ j, k = j + 1 := ⟨k - 1, by omega⟩
      obtain ⟨b, o, rfl, hs⟩ := hA (by omega)
      have c1 := hs.int j (by omega)
      have c2 := hs.int (j + 1) hlt
      have HG : Hid (eqI (xs.getD j 0) (xs.getD (j + 1) 0) = false → ∀ t, t + 1 < j + 1 + 1 → eqI (xs.getD t 0) (xs.getD (t + 1) 0) = false) := by
        intro h t ht
        by_cases htk : t = j
        · subst htk; exact h
        · exact HA.out t (by omega)
      have HB : Hid (eqI (xs.getD j 0) (xs.getD (j + 1) 0) = true → noPair eqI xs = false) := by
        intro h
        rw [← Bool.not_eq_true, noPair_iff eqI 0]
        intro hp
        rw [hp j hlt] at h; cases h
      have e1 : ((j + 1 : Nat) : Int) - 1 = (j : Int) := by omega
      have e2 : (((j + 1 : Nat) : Int)).toNat = j + 1 := by omega
      clear hA hs
      generalize xs.getD j 0 = p at *
      generalize xs.getD (j + 1) 0 = q at *
      go_wp2
      go_quiet (fail)
      go_wp2
      · rename_i h
        go_ret
        exact ⟨ret_bool (HB.out (by simpa [eqI] using h)).symm, _, by simp; rfl⟩
      · rename_i h
        go_roundw
        case rel => exact ⟨⟨j + 1 + 1, by omega, by go_num, .inl (by omega), HG.out (by simpa [eqI] using h)⟩, _, rfl⟩
        case measure => simp [intOf]; omega
    · go_wp2
      go_ret
      refine ⟨ret_bool ?_, n, rfl⟩
      symm
      rw [noPair_iff eqI 0]
      intro i hi
      exact HA.out i (by omega)

set_option maxHeartbeats 1000000 in
theorem ascendingS_any (v : Value) (xs : List ByteArray) (w : World) (hx : Rd w v xs.length 1 (strs xs)) (hl : xs.length ≤ maxLen) :
    Calls Tryz.prog 185 #[v] w fun e w' => e = .returned (.bool (noPair geS xs)) ∧ ∃ n, w' = w.drewN n := by
  unfold maxLen at hl
  obtain ⟨A, ca, rfl, hlc, hcm, hA⟩ := hx.form
  clear hx
  go_enter Tryz.func185, Tryz.ntmps185
  go_wp2
  go_loopw [3] (fun i wr => (∃ k : Nat, 1 ≤ k ∧ i = .int .i64 k ∧ (k ≤ xs.length ∨ k = 1) ∧ ∀ t, t + 1 < k → geS (xs.getD t default) (xs.getD (t + 1) default) = false) ∧ ∃ n, wr = w.drewN n) (fun i _ => xs.length - (intOf i).toNat)
  case atStart => exact ⟨⟨1, by omega, rfl, .inr rfl, fun t h => by omega⟩, 0, rfl⟩
  case round =>
    obtain ⟨⟨k, hk1, rfl, hk, hall⟩, n, rfl⟩ := hrel
    have HA := hid hall
    clear hall
    by_cases hlt : k < xs.length
    · obtain ⟨j, rfl⟩ : ∃ j, k = j + 1 := ⟨k - 1, by omega⟩
      obtain ⟨b, o, rfl, hs⟩ := hA (by omega)
      have c1 := hs.str j (by omega)
      have c2 := hs.str (j + 1) hlt
      have HG : Hid (geS (xs.getD j default) (xs.getD (j + 1) default) = false → ∀ t, t + 1 < j + 1 + 1 → geS (xs.getD t default) (xs.getD (t + 1) default) = false) := by
        intro h t ht
        by_cases htk : t = j
        · subst htk; exact h
        · exact HA.out t (by omega)
      have HB : Hid (geS (xs.getD j default) (xs.getD (j + 1) default) = true → noPair geS xs = false) := by
        intro h
        rw [← Bool.not_eq_true, noPair_iff geS default]
        intro hp
        rw [hp j hlt] at h; cases h
      have e1 : ((j + 1 : Nat) : Int) - 1 = (j : Int) := by omega
      have e2 : (((j + 1 : Nat) : Int)).toNat = j + 1 := by omega
      clear hA hs
      generalize xs.getD j default = p at *
      generalize xs.getD (j + 1) default = q at *
      go_wp2
      go_quiet (fail)
      go_wp2
      · rename_i h
        go_ret
        exact ⟨ret_bool (HB.out (by simpa [geS, ltS] using h)).symm, _, by simp; rfl⟩
      · rename_i h
        go_roundw
        case rel => exact ⟨⟨j + 1 + 1, by omega, by go_num, .inl (by omega), HG.out (by simpa [geS, ltS] using h)⟩, _, rfl⟩
        case measure => simp [intOf]; omega
    · go_wp2
      go_ret
      refine ⟨ret_bool ?_, n, rfl⟩
      symm
      rw [noPair_iff geS default]
      intro i hi
      exact HA.out i (by omega)

set_option maxHeartbeats 1000000 in
theorem differS_any (v : Value) (xs : List ByteArray) (w : World) (hx : Rd w v xs.length 1 (strs xs)) (hl : xs.length ≤ maxLen) :
    Calls Tryz.prog 189 #[v] w fun e w' => e = .returned (.bool (noPair eqS xs)) ∧ ∃ n, w' = w.drewN n := by
  unfold maxLen at hl
  obtain ⟨A, ca, rfl, hlc, hcm, hA⟩ := hx.form
  clear hx
  go_enter Tryz.func189, Tryz.ntmps189
  go_wp2
  go_loopw [3] (fun i wr => (∃ k : Nat, 1 ≤ k ∧ i = .int .i64 k ∧ (k ≤ xs.length ∨ k = 1) ∧ ∀ t, t + 1 < k → eqS (xs.getD t default) (xs.getD (t + 1) default) = false) ∧ ∃ n, wr = w.drewN n) (fun i _ => xs.length - (intOf i).toNat)
  case atStart => exact ⟨⟨1, by omega, rfl, .inr rfl, fun t h => by omega⟩, 0, rfl⟩
  case round =>
    obtain ⟨⟨k, hk1, rfl, hk, hall⟩, n, rfl⟩ := hrel
    have HA := hid hall
    clear hall
    by_cases hlt : k < xs.length
    · obtain ⟨j, rfl⟩ : ∃ j, k = j + 1 := ⟨k - 1, by omega⟩
      obtain ⟨b, o, rfl, hs⟩ := hA (by omega)
      have c1 := hs.str j (by omega)
      have c2 := hs.str (j + 1) hlt
      have HG : Hid (eqS (xs.getD j default) (xs.getD (j + 1) default) = false → ∀ t, t + 1 < j + 1 + 1 → eqS (xs.getD t default) (xs.getD (t + 1) default) = false) := by
        intro h t ht
        by_cases htk : t = j
        · subst htk; exact h
        · exact HA.out t (by omega)
      have HB : Hid (eqS (xs.getD j default) (xs.getD (j + 1) default) = true → noPair eqS xs = false) := by
        intro h
        rw [← Bool.not_eq_true, noPair_iff eqS default]
        intro hp
        rw [hp j hlt] at h; cases h
      have e1 : ((j + 1 : Nat) : Int) - 1 = (j : Int) := by omega
      have e2 : (((j + 1 : Nat) : Int)).toNat = j + 1 := by omega
      clear hA hs
      generalize xs.getD j default = p at *
      generalize xs.getD (j + 1) default = q at *
      go_wp2
      go_quiet (fail)
      go_wp2
      · rename_i h
        go_ret
        exact ⟨ret_bool (HB.out (by simpa [eqS] using h)).symm, _, by simp; rfl⟩
      · rename_i h
        go_roundw
        case rel => exact ⟨⟨j + 1 + 1, by omega, by go_num, .inl (by omega), HG.out (by simpa [eqS] using h)⟩, _, rfl⟩
        case measure => simp [intOf]; omega
    · go_wp2
      go_ret
      refine ⟨ret_bool ?_, n, rfl⟩
      symm
      rw [noPair_iff eqS default]
      intro i hi
      exact HA.out i (by omega)
end Go.Proofs.YthonbfojpbfmgaaGreatDoor

/- Package chunk: the least width for so many entries. -/
set_option maxRecDepth 512
set_option linter.unusedVariables false
set_option linter.unusedSimpArgs false
set_option linter.unnecessarySimpa false
namespace Go.Proofs.YthonbfojpbfmgaaGreatDoor
open Go.RowKit

def needN (d : Nat) : Nat := if d < 2 then 0 else Nat.log2 (d - 1) + 1
theorem need_tab : ∀ i : Fin 256, Lib.bitLen i.val = if i.val = 0 then 0 else Nat.log2 i.val + 1 := by decide +kernel

set_option maxHeartbeats 4000000 in
set_option maxRecDepth 100000 in
theorem Len64_int (x : Int) (w : World) (h0 : 0 ≤ x) (h1 : x ≤ 255) :
    Calls Tryz.prog 203 #[.int .u64 x] w fun e w' => e = .returned (.int .i64 (Lib.bitLen x.toNat)) ∧ w' = w := by
  go_enter Tryz.func203, Tryz.ntmps203
  have e1 : ¬ (4294967296 ≤ x) := by omega
  have e2 : ¬ (65536 ≤ x) := by omega
  have e3 : ¬ (256 ≤ x) := by omega
  go_wp2
  go_ret
  refine ⟨congrArg Ending.returned (congrArg (Value.int IntKind.i64) ?_), rfl⟩
  have l := Lib.bitLen_le8' x h0 (by omega)
  have e4 : Lib.len8 x = (Lib.bitLen x.toNat : Int) := Lib.len8_of x h0 h1
  rw [e4]
  generalize Lib.bitLen x.toNat = t at *
  unfold wrap64
  omega
theorem Len64_any (x : Nat) (w : World) (hx : x < 256) (h1 : 1 ≤ x) :
    Calls Tryz.prog 203 #[.int .u64 x] w fun e w' => e = .returned (.int .i64 (Nat.log2 x + 1 : Nat)) ∧ w' = w := by
  have h := need_tab ⟨x, hx⟩
  simp only at h
  rw [if_neg (by omega)] at h
  have := Len64_int x w (by omega) (by omega)
  rw [Int.toNat_natCast, h] at this
  exact this
set_option maxRecDepth 100000 in
theorem Len_any (x : Nat) (w : World) (hx : x < 256) (h1 : 1 ≤ x) :
    Calls Tryz.prog 155 #[.int .u64 x] w fun e w' => e = .returned (.int .i64 (Nat.log2 x + 1 : Nat)) ∧ w' = w := by
  go_enter Tryz.func155, Tryz.ntmps155
  go_wp2_with (go_at_call 203; refine (Len64_any x _ hx h1).mono ?_; rintro e w' ⟨rfl, rfl⟩)
  go_ret
  exact ⟨rfl, rfl⟩
set_option maxRecDepth 100000 in
theorem Need_any (d : Nat) (w : World) (hd : d ≤ 256) :
    Calls Tryz.prog 184 #[.int .i64 d] w fun e w' => e = .returned (.int .i64 (needN d : Nat)) ∧ w' = w := by
  go_enter Tryz.func184, Tryz.ntmps184
  by_cases h : d < 2
  · go_wp2
    go_ret
    exact ⟨by simp [needN, h], rfl⟩
  · have e1 : (d : Int) - 1 = ((d - 1 : Nat) : Int) := by omega
    have HC := hid (fun w2 : World => Len_any (d - 1) w2 (by omega) (by omega))
    go_wp2_with (go_at_call 155; refine (HC.out _).mono ?_; rintro e w' ⟨rfl, rfl⟩)
    go_ret
    exact ⟨by simp [needN, h], rfl⟩
end Go.Proofs.YthonbfojpbfmgaaGreatDoor

/- Package chunk: counts of the bits before each word; a packing's lane; the first end of a run behind a place; the ends of texts. -/
set_option linter.unusedVariables false
set_option linter.unusedSimpArgs false
set_option linter.unnecessarySimpa false
set_option maxRecDepth 20000
namespace Go.Proofs.YthonbfojpbfmgaaGreatDoor
open Go.RowKit

theorem popL_snoc (ws : List Nat) (x : Nat) : popL (ws ++ [x]) = popL ws + L.popN 64 x := by rw [popL_append]; simp [popL]
/-- for each word the bits set in the words before it -/
def befL (ws : List Nat) : List Int := (List.range ws.length).map fun k => (popL (ws.take k) : Int)
theorem befL_length (ws : List Nat) : (befL ws).length = ws.length := by simp [befL]
theorem befL_get (ws : List Nat) (k : Nat) (h : k < ws.length) : (befL ws).getD k 0 = (popL (ws.take k) : Int) := by
  simp [befL, List.getD, List.getElem?_map, List.getElem?_range h]

set_option maxHeartbeats 2000000 in
theorem countBefore_any (v : Value) (xs : List Nat) (w : World) (hx : Rd w v xs.length 1 (u64s xs)) (hv : ∀ x ∈ xs, x < 18446744073709551616) (hl : xs.length ≤ 65536) :
    Calls Tryz.prog 81 #[v] w fun e w' => e = .returned (.slice (some ⟨w.heap.size, 0, none⟩) xs.length xs.length) ∧ Row w' w.heap.size 3 (i64s (befL xs)) ∧ Below w.heap.size w w' := by
  obtain ⟨A, ca, rfl, hlc, hcm, hA⟩ := hx.form
  have HX := hid hx
  clear hx hA
  obtain ⟨p, hp⟩ : ∃ p, w.heap.size = p := ⟨_, rfl⟩
  have HP := hid hp
  rw [hp]
  clear hp
  go_enter Tryz.func81, Tryz.ntmps81
  go_wp2
  refine upon_make 3 (.int .i64 0) 8 Tryz.underlying92 Tryz.infoI64 rfl xs.length (by omega) (by omega) (by omega) (by unfold maxLen; omega) ?_
  intro w1 hrow hb1 hsz1
  rw [HP.out] at hrow hb1 hsz1 ⊢
  have HROW := hid hrow
  have HB1 := hid hb1
  have HX1 := hid (HX.out.mono (by rw [HP.out]; exact hb1))
  have hp1 : p < w1.heap.size := by omega
  clear hrow hb1
  go_wp2
  go_loopw [4, 12] (fun u i wr => ∃ j : Nat, j ≤ xs.length ∧ i = .int .i64 j ∧ u = .int .i64 (popL (xs.take j) : Nat) ∧ Row wr p 3 (i64s ((List.range j).map fun k => (popL (xs.take k) : Int)) ++ List.replicate (xs.length - j) (.int .i64 0)) ∧ Below p w1 wr) (fun _ i _ => xs.length - (intOf i).toNat)
  case atStart => exact ⟨0, by omega, rfl, by simp [popL], by simpa [i64s] using HROW.out, Below.refl _ _⟩
  case round =>
    obtain ⟨j, hj, rfl, rfl, hr, hb⟩ := hrel
    by_cases hlt : j < xs.length
    · have hcell : wr.cell? ⟨p, j, none⟩ = some (.int .i64 0) := by
        rw [hr.cell]; exact get_fill _ _ _ _ (by simp [i64s]) (by omega)
      have hfr := hr.frozen j
      have hx2 : Rd wr (.slice A xs.length ca) xs.length 1 (u64s xs) := HX.out.mono (by rw [HP.out]; exact HB1.out.trans hb)
      obtain ⟨A', ca', he, _, _, hA⟩ := hx2.form
      cases he
      obtain ⟨b, o, rfl, hs⟩ := hA (by omega)
      have c1 := hs.word j hlt
      have hvj : xs.getD j 0 < 18446744073709551616 := hv _ (by simp [List.getD, List.getElem?_eq_getElem hlt])
      have hsn : popL (xs.take (j + 1)) = popL (xs.take j) + L.popN 64 (xs.getD j 0) := by
        rw [List.take_succ_eq_append_getElem hlt, popL_snoc]
        simp [List.getD, List.getElem?_eq_getElem hlt]
      have hpl := popL_le (xs.take j)
      have hpl2 := L.popN_le 64 (xs.getD j 0)
      rw [List.length_take, Nat.min_eq_left hj] at hpl
      have HRW := hid hr
      have HSN := hid hsn
      clear hr hs hA hx2 hsn
      generalize ha : popL (xs.take j) = a at *
      have HA' := hid ha
      clear ha
      generalize hq : xs.getD j 0 = q at *
      clear hq
      go_wp2_with (go_at_call 117; refine (onesCount_any q _ hvj).mono ?_; rintro e w3 ⟨rfl, hw⟩; subst hw)
      go_roundw
      case rel =>
        refine ⟨j + 1, by omega, by go_num, ?_, ?_, below_set hb _ _ _ (Nat.le_refl _)⟩
        · rw [HSN.out]; go_num
        · have hss := HRW.out.set j (.int .i64 (a : Nat))
          rw [set_fill _ _ _ _ _ (by simp [i64s]) (by omega)] at hss
          rw [List.range_succ, List.map_append, i64s_append, List.map_singleton, HA'.out, ← Nat.sub_sub xs.length j 1]
          exact hss
      case measure => simp [intOf]; omega
    · obtain rfl : j = xs.length := by omega
      go_wp2
      go_ret
      refine ⟨rfl, ?_, HB1.out.trans hb⟩
      have := hr
      rw [Nat.sub_self, List.replicate_zero, List.append_nil] at this
      exact this
end Go.Proofs.YthonbfojpbfmgaaGreatDoor

/- slices.BinarySearch over ints. -/
set_option linter.unusedVariables false
set_option linter.unusedSimpArgs false
set_option linter.unnecessarySimpa false
set_option maxRecDepth 20000
namespace Go.Proofs.YthonbfojpbfmgaaGreatDoor
open Go.RowKit

theorem isNaNi_any (x : Int) (w : World) : Calls Tryz.prog 248 #[.int .i64 x] w fun e w' => e = .returned (.bool false) ∧ w' = w := by
  have e1 : (x != x) = false := by simp
  go_enter Tryz.func248, Tryz.ntmps248
  go_wp2
  go_ret
  exact ⟨rfl, rfl⟩
theorem isNaNs_any (x : Int) (w : World) : Calls Tryz.prog 243 #[.int .i64 x] w fun e w' => e = .returned (.bool false) ∧ w' = w := by
  have e1 : (x != x) = false := by simp
  go_enter Tryz.func243, Tryz.ntmps243
  go_wp2
  go_ret
  exact ⟨rfl, rfl⟩
theorem Less_any (x y : Int) (w : World) : Calls Tryz.prog 242 #[.int .i64 x, .int .i64 y] w fun e w' => e = .returned (.bool (decide (x < y))) ∧ w' = w := by
  go_enter Tryz.func242, Tryz.ntmps242
  go_wp2_with (go_at_call 248; refine (isNaNi_any _ _).mono ?_; rintro e w' ⟨rfl, rfl⟩)
  all_goals go_ret
  all_goals exact ⟨rfl, rfl⟩

/-- the first place whose entry is t or more -/
def firstGe (es : List Int) (t : Int) : Nat := es.findIdx fun e => decide (t ≤ e)
theorem firstGe_eq (es : List Int) (t : Int) (i : Nat) (hi : i ≤ es.length) (h1 : ∀ a, a < i → es.getD a 0 < t) (h2 : i < es.length → t ≤ es.getD i 0) : firstGe es t = i := by
  unfold firstGe
  by_cases hlt : i < es.length
  · rw [List.findIdx_eq hlt]
    refine ⟨?_, fun j hj => ?_⟩
    · have := h2 hlt
      simpa [List.getD, List.getElem?_eq_getElem hlt] using this
    · have := h1 j hj
      have hjl : j < es.length := by omega
      simp only [List.getD, List.getElem?_eq_getElem hjl, Option.getD_some] at this
      simpa using this
  · have : i = es.length := by omega
    rw [this, List.findIdx_eq_length]
    intro x hx
    obtain ⟨j, hj, rfl⟩ := List.getElem_of_mem hx
    have := h1 j (by omega)
    simp only [List.getD, List.getElem?_eq_getElem hj, Option.getD_some] at this
    simpa using this
theorem firstGe_le (es : List Int) (t : Int) : firstGe es t ≤ es.length := List.findIdx_le_length

set_option maxHeartbeats 2000000 in
theorem BinarySearch_any (v : Value) (es : List Int) (t : Int) (w : World) (hx : Rd w v es.length 1 (i64s es)) (hl : es.length ≤ 16777216) (hup : ∀ a b, a < b → b < es.length → es.getD a 0 < es.getD b 0) :
    Calls Tryz.prog 219 #[v, .int .i64 t] w fun e w' => (∃ b : Value, e = .returned (.tuple #[.int .i64 (firstGe es t : Nat), b])) ∧ ∃ n, w' = w.drewN n := by
  obtain ⟨A, ca, rfl, hlc, hcm, hA⟩ := hx.form
  have HX := hid hx
  have HUP := hid hup
  clear hx hup
  go_enter Tryz.func219, Tryz.ntmps219
  go_wp2
  go_loop [7, 8] (fun u x => ∃ i j : Nat, i ≤ j ∧ j ≤ es.length ∧ u = .int .i64 i ∧ x = .int .i64 j ∧ (∀ a, a < i → es.getD a 0 < t) ∧ (∀ a, j ≤ a → a < es.length → t ≤ es.getD a 0)) (fun u x => (intOf x).toNat - (intOf u).toNat)
  case atStart => exact ⟨0, es.length, by omega, by omega, rfl, rfl, fun a h => by omega, fun a h1 h2 => by omega⟩
  case round =>
    obtain ⟨i, j, hij, hj, rfl, rfl, h1, h2⟩ := hrel
    have H1 := hid h1
    have H2 := hid h2
    clear h1 h2
    by_cases hlt : i < j
    · obtain ⟨b, o, rfl, hs⟩ := hA (by omega)
      obtain ⟨m, hm⟩ : ∃ m, (i + j) / 2 = m := ⟨_, rfl⟩
      have hm' : ((i : Int) + (j : Int)) / 2 = (m : Int) := by omega
      have hml : m < es.length := by omega
      have c1 := hs.int m hml
      have him : i ≤ m := by omega
      have hmj : m < j := by omega
      have HLT : Hid (es.getD m 0 < t → ∀ a, a < m + 1 → es.getD a 0 < t) := by
        intro h a ha
        by_cases ham : a = m
        · subst ham; exact h
        · have := HUP.out a m (by omega) hml; omega
      have HGE : Hid (t ≤ es.getD m 0 → ∀ a, m ≤ a → a < es.length → t ≤ es.getD a 0) := by
        intro h a ha1 ha2
        by_cases ham : a = m
        · subst ham; exact h
        · have := HUP.out m a (by omega) ha2; omega
      clear hs hA hm
      generalize es.getD m 0 = x at *
      go_wp2_with (go_at_call 242; refine (Less_any _ _ _).mono ?_; rintro e w' ⟨rfl, hw⟩; subst hw)
      · go_round
        case rel => exact ⟨m + 1, j, by omega, by omega, by go_num, rfl, HLT.out (by assumption), H2.out⟩
        case measure => simp [intOf]; omega
      · go_round
        case rel => exact ⟨i, m, by omega, by omega, rfl, rfl, H1.out, HGE.out (by omega)⟩
        case measure => simp [intOf]; omega
    · have hf : firstGe es t = i := firstGe_eq es t i (by omega) H1.out (fun h => H2.out i (by omega) h)
      have HF := hid hf
      clear hf
      by_cases hie : i < es.length
      · obtain ⟨b, o, rfl, hs⟩ := hA (by omega)
        have c1 := hs.int i hie
        clear hs hA
        generalize es.getD i 0 = x at *
        go_wp2_with (go_at_call 243; refine (isNaNs_any _ _).mono ?_; rintro e w' ⟨rfl, hw⟩; subst hw)
        all_goals go_ret2
        all_goals exact ⟨⟨_, by rw [HF.out]; rfl⟩, 0, rfl⟩
      · go_wp2
        all_goals go_ret2
        all_goals exact ⟨⟨_, by rw [HF.out]; rfl⟩, 0, rfl⟩
end Go.Proofs.YthonbfojpbfmgaaGreatDoor
