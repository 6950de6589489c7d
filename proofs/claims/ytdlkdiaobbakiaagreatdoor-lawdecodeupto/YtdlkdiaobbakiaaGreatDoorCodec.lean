/- Package codec: Decode and Gather. -/
import Derived.Test.YtdlkdiaobbakiaaGreatDoorDecI
import Derived.Test.YtdlkdiaobbakiaaGreatDoorDecS
set_option linter.unusedVariables false
set_option linter.unusedSimpArgs false
set_option linter.unnecessarySimpa false
set_option maxRecDepth 100000
namespace Go.Proofs.YtdlkdiaobbakiaaGreatDoor
open Go.RowKit

def arePl (ps : List Int) (rows : Int) : Bool := decide (ps.length ≤ 65536) && ps.all fun p => decide (0 ≤ p ∧ p < rows)
set_option maxHeartbeats 1000000 in
theorem arePlaces_any (v : Value) (ps : List Int) (rows : Int) (w : World) (hx : Rd w v ps.length 1 (i64s ps)) (hl : ps.length ≤ 1048576) :
    Calls Tryz.prog 28 #[v, .int .i64 rows] w fun e w' => e = .returned (.bool (arePl ps rows)) ∧ w' = w := by
  obtain ⟨A, ca, rfl, hlc, hcm, hA⟩ := hx.form
  clear hx
  go_enter Tryz.func28, Tryz.ntmps28
  by_cases hbig : 65536 < ps.length
  · have hb : (ps.length : Int) > 65536 := by omega
    clear hA
    go_wp2
    go_ret
    exact ⟨ret_bool (by simp [arePl]; omega), rfl⟩
  · have hb : ¬ (ps.length : Int) > 65536 := by omega
    go_wp2
    go_loop [12] (fun i => ∃ k : Nat, k ≤ ps.length ∧ i = .int .i64 k ∧ ∀ t, t < k → 0 ≤ ps.getD t 0 ∧ ps.getD t 0 < rows) (fun i => ps.length - (intOf i).toNat)
    case atStart => exact ⟨0, by omega, rfl, fun t h => absurd h (Nat.not_lt_zero t)⟩
    case round =>
      obtain ⟨k, hk, rfl, hall⟩ := hrel
      have HALL := hid hall
      clear hall
      by_cases hlt : k < ps.length
      · obtain ⟨b, o, rfl, hs⟩ := hA (by omega)
        have c1 := hs.int k hlt
        have HG : Hid (0 ≤ ps.getD k 0 ∧ ps.getD k 0 < rows → ∀ t, t < k + 1 → 0 ≤ ps.getD t 0 ∧ ps.getD t 0 < rows) := by
          intro h t ht
          by_cases htk : t = k
          · subst htk; exact h
          · exact HALL.out t (by omega)
        have HB : Hid (¬ (0 ≤ ps.getD k 0 ∧ ps.getD k 0 < rows) → arePl ps rows = false) := by
          intro h
          rw [← Bool.not_eq_true]
          intro hp
          simp only [arePl, Bool.and_eq_true, List.all_eq_true, decide_eq_true_eq] at hp
          exact h (hp.2 _ (by simp [List.getD, List.getElem?_eq_getElem hlt]))
        clear hA hs
        generalize ps.getD k 0 = p at *
        go_wp2
        all_goals first
          | (go_ret
             exact ⟨ret_bool (HB.out (by omega)).symm, rfl⟩)
          | (go_round
             case rel => exact ⟨k + 1, by omega, by go_num, HG.out (by omega)⟩
             case measure => simp [intOf]; omega)
      · go_wp2
        go_ret
        refine ⟨ret_bool ?_, rfl⟩
        symm
        simp only [arePl, Bool.and_eq_true, List.all_eq_true, decide_eq_true_eq]
        refine ⟨by omega, fun x hx => ?_⟩
        obtain ⟨t, ht, rfl⟩ := List.getElem_of_mem hx
        have := HALL.out t (by omega)
        simpa [List.getD, List.getElem?_eq_getElem ht] using this

theorem cells_rd {w : World} {p n : Nat} {cs : List Value} (h : Row w p 38 cs) (hl : cs.length = n * 3) (hn : n ≤ 65536) : Rd w (.slice (some ⟨p, 0, none⟩) n n) n 3 cs := by
  refine ⟨hl, .inr ⟨p, 0, n, rfl, Nat.le_refl _, by unfold maxLen; omega, ?_⟩⟩
  intro i v hv
  rw [Nat.zero_add, h.cell]; exact hv

/-- what Decode answers: code, cells, how many -/
def decCode (k rows : Int) (xs : List Nat) : Int :=
  if (isKind k && isRows rows) = true then (if k = 2 then (if lkOk_S rows.toNat xs = true then 0 else 1) else (if lkOk_I rows.toNat xs = true then 0 else 1)) else 5
def decCells (k rows : Int) (xs : List Nat) : List Value := if decCode k rows xs = 0 then (if k = 2 then rowsL_S rows.toNat xs else rowsL_I rows.toNat xs) else []
def decLen (k rows : Int) (xs : List Nat) : Nat := if decCode k rows xs = 0 then rows.toNat else 0

set_option maxHeartbeats 4000000 in
theorem Decode_any (w : World) (v : Value) (xs : List Nat) (k rows : Int) (hT : Tab w) (hv : Rd w v xs.length 1 (u8s xs)) (hb : ∀ x ∈ xs, x < 256) (hl : xs.length ≤ 1048576)
    (hvI : ∀ rows, lkOk_I rows xs = true → rows ≤ 65536 → Valid_I rows xs) (hvS : ∀ rows, lkOk_S rows xs = true → rows ≤ 65536 → Valid_S rows xs) :
    Calls Tryz.prog 7 #[.int .i64 k, .int .i64 rows, v] w fun e w' => Below w.heap.size w w' ∧ ∃ u, e = .returned (.tuple #[u, .int .i64 (decCode k rows xs)]) ∧ Rd w' u (decLen k rows xs) 3 (decCells k rows xs) := by
  by_cases hg : (isKind k && isRows rows) = true
  · have hk : isKind k = true := by simp only [Bool.and_eq_true] at hg; exact hg.1
    have hr : isRows rows = true := by simp only [Bool.and_eq_true] at hg; exact hg.2
    have hr2 : 0 ≤ rows ∧ rows ≤ 65536 := by simpa [isRows] using hr
    obtain ⟨n, rfl⟩ := Int.eq_ofNat_of_zero_le hr2.1
    have hn : n ≤ 65536 := by omega
    have HK := hid (fun w2 : World => IsKind_any k w2)
    have HR := hid (fun w2 : World => IsRows_any (n : Int) w2)
    rw [hk] at HK
    rw [hr] at HR
    by_cases h2 : k = 2
    · subst h2
      have HD := hid (decode_S w v xs n hT hv hb hl hn (fun h => hvS n h hn))
      have e1 : decCode 2 n xs = if lkOk_S n xs = true then 0 else 1 := by unfold decCode; rw [if_pos hg, if_pos rfl]; simp
      have e2 : decCells 2 n xs = if decCode 2 n xs = 0 then rowsL_S n xs else [] := by unfold decCells; simp
      have e3 : decLen 2 n xs = if decCode 2 n xs = 0 then n else 0 := by unfold decLen; simp
      rw [e2, e3, e1]
      have hlen : (rowsL_S n xs).length = n * 3 := by unfold rowsL_S; rw [cellsUp_length]
      generalize rowsL_S n xs = R at *
      generalize lkOk_S n xs = OK at *
      clear hT hv e1 e2 e3 hvI hvS hg hk hr
      go_enter Tryz.func7, Tryz.ntmps7
      go_wp2_with (first | (go_at_call 18; refine (HK.out _).mono ?_; rintro e w1 ⟨rfl, hw⟩; replace hw := hw.symm; subst hw) | (go_at_call 19; refine (HR.out _).mono ?_; rintro e w1 ⟨rfl, hw⟩; replace hw := hw.symm; subst hw))
      refine HD.out.mono ?_
      rintro e w1 ⟨hb1, ⟨rfl, rfl⟩ | ⟨rfl, p, hp, rfl, hrow⟩⟩
      · have HB1 := hid hb1
        clear hb1
        go_wp2_with fail
        go_ret2
        exact ⟨HB1.out, _, rfl, ⟨rfl, .inl ⟨⟨_, rfl⟩, rfl⟩⟩⟩
      · have HB1 := hid hb1
        have HRD := hid (cells_rd hrow hlen hn)
        clear hb1 hrow
        go_wp2_with fail
        go_ret2
        exact ⟨HB1.out, _, rfl, HRD.out⟩
    · have h1 : k = 1 := by simp [isKind] at hk; omega
      subst h1
      have HD := hid (decode_I w v xs n hT hv hb hl hn (fun h => hvI n h hn))
      have e1 : decCode 1 n xs = if lkOk_I n xs = true then 0 else 1 := by unfold decCode; rw [if_pos hg, if_neg (by decide)]; simp
      have e2 : decCells 1 n xs = if decCode 1 n xs = 0 then rowsL_I n xs else [] := by unfold decCells; simp
      have e3 : decLen 1 n xs = if decCode 1 n xs = 0 then n else 0 := by unfold decLen; simp
      rw [e2, e3, e1]
      have hlen : (rowsL_I n xs).length = n * 3 := by unfold rowsL_I; rw [cellsUp_length]
      generalize rowsL_I n xs = R at *
      generalize lkOk_I n xs = OK at *
      clear hT hv e1 e2 e3 hvI hvS hg hk hr
      go_enter Tryz.func7, Tryz.ntmps7
      go_wp2_with (first | (go_at_call 18; refine (HK.out _).mono ?_; rintro e w1 ⟨rfl, hw⟩; replace hw := hw.symm; subst hw) | (go_at_call 19; refine (HR.out _).mono ?_; rintro e w1 ⟨rfl, hw⟩; replace hw := hw.symm; subst hw))
      refine HD.out.mono ?_
      rintro e w1 ⟨hb1, ⟨rfl, rfl⟩ | ⟨rfl, p, hp, rfl, hrow⟩⟩
      · have HB1 := hid hb1
        clear hb1
        go_wp2_with fail
        go_ret2
        exact ⟨HB1.out, _, rfl, ⟨rfl, .inl ⟨⟨_, rfl⟩, rfl⟩⟩⟩
      · have HB1 := hid hb1
        have HRD := hid (cells_rd hrow hlen hn)
        clear hb1 hrow
        go_wp2_with fail
        go_ret2
        exact ⟨HB1.out, _, rfl, HRD.out⟩
  · have hg2 := hg
    rw [Bool.not_eq_true, Bool.and_eq_false_iff] at hg2
    have e1 : decCode k rows xs = 5 := by unfold decCode; rw [if_neg hg]
    have e2 : decCells k rows xs = [] := by unfold decCells; rw [e1, if_neg (by decide)]
    have e3 : decLen k rows xs = 0 := by unfold decLen; rw [e1, if_neg (by decide)]
    rw [e1, e2, e3]
    have HK := hid (fun w2 : World => IsKind_any k w2)
    have HR := hid (fun w2 : World => IsRows_any rows w2)
    obtain ⟨A0, c0, rfl, _, _, _⟩ := hv.form
    clear hT hv e1 e2 e3 hvI hvS hg
    generalize isKind k = bk at *
    generalize isRows rows = br at *
    go_enter Tryz.func7, Tryz.ntmps7
    cases bk
    case' false => go_wp2_with (go_at_call 18; refine (HK.out _).mono ?_; rintro e w1 ⟨rfl, hw⟩; replace hw := hw.symm; subst hw)
    case' true =>
      obtain rfl : br = false := by simpa using hg2
      go_wp2_with (first | (go_at_call 18; refine (HK.out _).mono ?_; rintro e w1 ⟨rfl, hw⟩; replace hw := hw.symm; subst hw) | (go_at_call 19; refine (HR.out _).mono ?_; rintro e w1 ⟨rfl, hw⟩; replace hw := hw.symm; subst hw))
    all_goals go_ret2
    all_goals exact ⟨brefl w, _, rfl, ⟨rfl, .inl ⟨⟨_, rfl⟩, rfl⟩⟩⟩
end Go.Proofs.YtdlkdiaobbakiaaGreatDoor
