/- Package codec: Gather. -/
import Derived.Test.YtdlkdiaobbakiaaGreatDoorCodec
set_option linter.unusedVariables false
set_option linter.unusedSimpArgs false
set_option linter.unnecessarySimpa false
set_option maxRecDepth 100000
namespace Go.Proofs.YtdlkdiaobbakiaaGreatDoor
open Go.RowKit

/-- what Gather answers: code, cells, how many -/
def gatCode (k rows : Int) (xs : List Nat) (ps : List Int) : Int :=
  if (isKind k && isRows rows && arePl ps rows) = true then (if k = 2 then (if lkOk_S rows.toNat xs = true then 0 else 1) else (if lkOk_I rows.toNat xs = true then 0 else 1)) else 5
def gatCells (k rows : Int) (xs : List Nat) (ps : List Int) : List Value := if gatCode k rows xs ps = 0 then (if k = 2 then gathL_S rows.toNat xs ps else gathL_I rows.toNat xs ps) else []
def gatLen (k rows : Int) (xs : List Nat) (ps : List Int) : Nat := if gatCode k rows xs ps = 0 then ps.length else 0
set_option maxHeartbeats 8000000 in
theorem Gather_any (w : World) (v u : Value) (xs : List Nat) (ps : List Int) (k rows : Int) (hT : Tab w) (hv : Rd w v xs.length 1 (u8s xs)) (hu : Rd w u ps.length 1 (i64s ps)) (hb : ∀ x ∈ xs, x < 256) (hl : xs.length ≤ 1048576) (hpl : ps.length ≤ 1048576)
    (hvI : ∀ rows, lkOk_I rows xs = true → rows ≤ 65536 → Valid_I rows xs) (hvS : ∀ rows, lkOk_S rows xs = true → rows ≤ 65536 → Valid_S rows xs) :
    Calls Tryz.prog 10 #[.int .i64 k, .int .i64 rows, v, u] w fun e w' => Below w.heap.size w w' ∧ ∃ t, e = .returned (.tuple #[t, .int .i64 (gatCode k rows xs ps)]) ∧ Rd w' t (gatLen k rows xs ps) 3 (gatCells k rows xs ps) := by
  have HK := hid (fun w2 : World => IsKind_any k w2)
  have HR := hid (fun w2 : World => IsRows_any rows w2)
  have HP := hid (fun w2 : World => fun hr : Rd w2 u ps.length 1 (i64s ps) => arePlaces_any u ps rows w2 hr hpl)
  by_cases hg : (isKind k && isRows rows && arePl ps rows) = true
  · have hk : isKind k = true := by simp only [Bool.and_eq_true] at hg; exact hg.1.1
    have hr : isRows rows = true := by simp only [Bool.and_eq_true] at hg; exact hg.1.2
    have hp : arePl ps rows = true := by simp only [Bool.and_eq_true] at hg; exact hg.2
    have hr2 : 0 ≤ rows ∧ rows ≤ 65536 := by simpa [isRows] using hr
    obtain ⟨n, rfl⟩ := Int.eq_ofNat_of_zero_le hr2.1
    have hn : n ≤ 65536 := by omega
    have hp2 : ps.length ≤ 65536 ∧ ∀ p ∈ ps, 0 ≤ p ∧ p < (n : Int) := by
      unfold arePl at hp
      simp only [Bool.and_eq_true, decide_eq_true_eq, List.all_eq_true] at hp
      exact hp
    rw [hk] at HK
    rw [hr] at HR
    rw [hp] at HP
    have HPw := hid (HP.out w hu)
    by_cases h2 : k = 2
    · subst h2
      have HD := hid (gather_S w v u xs ps n hu hp2.1 hp2.2 hT hv hb hl hn (fun h => hvS n h hn))
      have e1 : gatCode 2 n xs ps = if lkOk_S n xs = true then 0 else 1 := by unfold gatCode; rw [if_pos hg, if_pos rfl]; simp
      have e2 : gatCells 2 n xs ps = if gatCode 2 n xs ps = 0 then gathL_S n xs ps else [] := by unfold gatCells; simp
      have e3 : gatLen 2 n xs ps = if gatCode 2 n xs ps = 0 then ps.length else 0 := by unfold gatLen; simp
      rw [e2, e3, e1]
      have hlen : (gathL_S n xs ps).length = ps.length * 3 := by unfold gathL_S; rw [cellsUp_length]
      have hpn := hp2.1
      obtain ⟨A0, c0, rfl, _, _, _⟩ := hv.form
      obtain ⟨A1, c1, rfl, _, _, _⟩ := hu.form
      generalize gathL_S n xs ps = R at *
      generalize lkOk_S n xs = OK at *
      clear hT hv hu e1 e2 e3 hvI hvS hg hk hr hp HP hp2
      go_enter Tryz.func10, Tryz.ntmps10
      go_wp2_with (first | (go_at_call 18; refine (HK.out _).mono ?_; rintro e w1 ⟨rfl, hw⟩; replace hw := hw.symm; subst hw) | (go_at_call 19; refine (HR.out _).mono ?_; rintro e w1 ⟨rfl, hw⟩; replace hw := hw.symm; subst hw) | (go_at_call 28; refine HPw.out.mono ?_; rintro e w1 ⟨rfl, hw⟩; replace hw := hw.symm; subst hw))
      refine HD.out.mono ?_
      rintro e w1 ⟨hb1, ⟨rfl, rfl⟩ | ⟨rfl, p, hp, rfl, hrow⟩⟩
      · have HB1 := hid hb1
        clear hb1
        go_wp2_with fail
        go_ret2
        exact ⟨HB1.out, _, rfl, ⟨rfl, .inl ⟨⟨_, rfl⟩, rfl⟩⟩⟩
      · have HB1 := hid hb1
        have HRD := hid (cells_rd hrow hlen hpn)
        clear hb1 hrow
        go_wp2_with fail
        go_ret2
        exact ⟨HB1.out, _, rfl, HRD.out⟩
    · have h1 : k = 1 := by simp [isKind] at hk; omega
      subst h1
      have HD := hid (gather_I w v u xs ps n hu hp2.1 hp2.2 hT hv hb hl hn (fun h => hvI n h hn))
      have e1 : gatCode 1 n xs ps = if lkOk_I n xs = true then 0 else 1 := by unfold gatCode; rw [if_pos hg, if_neg (by decide)]; simp
      have e2 : gatCells 1 n xs ps = if gatCode 1 n xs ps = 0 then gathL_I n xs ps else [] := by unfold gatCells; simp
      have e3 : gatLen 1 n xs ps = if gatCode 1 n xs ps = 0 then ps.length else 0 := by unfold gatLen; simp
      rw [e2, e3, e1]
      have hlen : (gathL_I n xs ps).length = ps.length * 3 := by unfold gathL_I; rw [cellsUp_length]
      have hpn := hp2.1
      obtain ⟨A0, c0, rfl, _, _, _⟩ := hv.form
      obtain ⟨A1, c1, rfl, _, _, _⟩ := hu.form
      generalize gathL_I n xs ps = R at *
      generalize lkOk_I n xs = OK at *
      clear hT hv hu e1 e2 e3 hvI hvS hg hk hr hp HP hp2
      go_enter Tryz.func10, Tryz.ntmps10
      go_wp2_with (first | (go_at_call 18; refine (HK.out _).mono ?_; rintro e w1 ⟨rfl, hw⟩; replace hw := hw.symm; subst hw) | (go_at_call 19; refine (HR.out _).mono ?_; rintro e w1 ⟨rfl, hw⟩; replace hw := hw.symm; subst hw) | (go_at_call 28; refine HPw.out.mono ?_; rintro e w1 ⟨rfl, hw⟩; replace hw := hw.symm; subst hw))
      refine HD.out.mono ?_
      rintro e w1 ⟨hb1, ⟨rfl, rfl⟩ | ⟨rfl, p, hp, rfl, hrow⟩⟩
      · have HB1 := hid hb1
        clear hb1
        go_wp2_with fail
        go_ret2
        exact ⟨HB1.out, _, rfl, ⟨rfl, .inl ⟨⟨_, rfl⟩, rfl⟩⟩⟩
      · have HB1 := hid hb1
        have HRD := hid (cells_rd hrow hlen hpn)
        clear hb1 hrow
        go_wp2_with fail
        go_ret2
        exact ⟨HB1.out, _, rfl, HRD.out⟩
  · have e1 : gatCode k rows xs ps = 5 := by unfold gatCode; rw [if_neg hg]
    have e2 : gatCells k rows xs ps = [] := by unfold gatCells; rw [e1, if_neg (by decide)]
    have e3 : gatLen k rows xs ps = 0 := by unfold gatLen; rw [e1, if_neg (by decide)]
    rw [e1, e2, e3]
    have HPw := hid (HP.out w hu)
    obtain ⟨A0, c0, rfl, _, _, _⟩ := hv.form
    obtain ⟨A1, c1, rfl, _, _, _⟩ := hu.form
    clear hT hv hu e1 e2 e3 hvI hvS HP
    generalize isKind k = bk at *
    generalize isRows rows = br at *
    generalize arePl ps rows = bp at *
    go_enter Tryz.func10, Tryz.ntmps10
    cases bk
    case' false => go_wp2_with (go_at_call 18; refine (HK.out _).mono ?_; rintro e w1 ⟨rfl, hw⟩; replace hw := hw.symm; subst hw)
    case' true =>
      cases br
      case' false => go_wp2_with (first | (go_at_call 18; refine (HK.out _).mono ?_; rintro e w1 ⟨rfl, hw⟩; replace hw := hw.symm; subst hw) | (go_at_call 19; refine (HR.out _).mono ?_; rintro e w1 ⟨rfl, hw⟩; replace hw := hw.symm; subst hw))
      case' true =>
        obtain rfl : bp = false := by simpa using hg
        go_wp2_with (first | (go_at_call 18; refine (HK.out _).mono ?_; rintro e w1 ⟨rfl, hw⟩; replace hw := hw.symm; subst hw) | (go_at_call 19; refine (HR.out _).mono ?_; rintro e w1 ⟨rfl, hw⟩; replace hw := hw.symm; subst hw) | (go_at_call 28; refine HPw.out.mono ?_; rintro e w1 ⟨rfl, hw⟩; replace hw := hw.symm; subst hw))
    all_goals go_ret2
    all_goals exact ⟨brefl w, _, rfl, ⟨rfl, .inl ⟨⟨_, rfl⟩, rfl⟩⟩⟩
end Go.Proofs.YtdlkdiaobbakiaaGreatDoor
