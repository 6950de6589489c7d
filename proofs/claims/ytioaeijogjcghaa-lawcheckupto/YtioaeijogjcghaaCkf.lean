/- The document's Check: leaves, nodes. -/
import Derived.Test.YtioaeijogjcghaaCke
import Derived.Deep.CutBlock
set_option linter.unusedVariables false
set_option linter.unusedSimpArgs false
set_option linter.unnecessarySimpa false
set_option maxRecDepth 20000
namespace Go.Proofs.Ytioaeijogjcghaa
open Go.RowKit

def leafR (k : Int) (d : Nd) : Bool := takesB d.op d.args.length && d.args.all (isVal k)
set_option maxHeartbeats 4000000 in
theorem refLeafOK_any (k op col : Int) (av : Value) (args : List C3) (w : World) (hx : Rd w av args.length 3 (cells3 args)) : Calls Try.prog 43 #[.agg #[.int .i64 op, .int .i64 col, av], .int .i64 k] w fun e w' => e = .returned (.bool (leafR k ⟨op, col, args⟩)) ∧ Below w.heap.size w w' := by
  have HX := hid hx
  have HIV := hid (fun (c : C3) (w2 : World) => refIsValue_any c k w2)
  obtain ⟨A, ca, rfl, hlc, hcm, _⟩ := hx.form
  clear hx
  obtain ⟨R, hR⟩ : ∃ R, leafR k ⟨op, col, args⟩ = R := ⟨_, rfl⟩
  rw [hR]
  unfold leafR at hR
  simp only at hR
  have HR := hid hR
  clear hR
  obtain ⟨ro, hbo⟩ := fresh (w := w) (C := #[.int .i64 op, .int .i64 col, .slice A args.length ca]) (e := 56)
  have HRO := hid ro; have HBO := hid hbo
  clear ro hbo
  obtain ⟨q, hq⟩ : ∃ q, args.length = q := ⟨_, rfl⟩
  have HQ := hid hq
  rw [hq] at HX hlc HR HRO HBO ⊢
  clear hq
  unfold maxLen at hcm
  obtain ⟨tk, htk⟩ : ∃ tk, takesB op q = tk := ⟨_, rfl⟩
  rw [htk] at HR
  unfold takesB at htk
  have HTK := hid htk
  clear htk
  go_enter Try.func43, Try.ntmps43
  go_upto_region 1 with fail
  generalize w.alloc (.cells #[.int .i64 op, .int .i64 col, .slice A q ca] 56) = w0 at *
  obtain ⟨k0, k1, k2⟩ := cell3 HRO.out
  have hcase : ∃ want : Nat, (op = 7 ∧ want = q) ∨ (op = 8 ∧ want = 2) ∨ (op = 9 ∧ want = 0) ∨ (¬ op = 7 ∧ ¬ op = 8 ∧ ¬ op = 9 ∧ want = 1) := by
    by_cases h7 : op = 7
    · exact ⟨q, .inl ⟨h7, rfl⟩⟩
    · by_cases h8 : op = 8
      · exact ⟨2, .inr (.inl ⟨h8, rfl⟩)⟩
      · by_cases h9 : op = 9
        · exact ⟨0, .inr (.inr (.inl ⟨h9, rfl⟩))⟩
        · exact ⟨1, .inr (.inr (.inr ⟨h7, h8, h9, rfl⟩))⟩
  obtain ⟨want, hw⟩ := hcase
  have htk2 : tk = (decide (1 ≤ op ∧ op ≤ 9) && decide (q = want) && decide (want ≤ 1024)) := by
    rw [← HTK.out]
    rcases hw with ⟨rfl, rfl⟩ | ⟨rfl, rfl⟩ | ⟨rfl, rfl⟩ | ⟨h7, h8, h9, rfl⟩
    · simp
    · simp
    · simp
    · rw [if_neg h7, if_neg h8, if_neg h9]
      by_cases h : 1 ≤ op ∧ op ≤ 6
      · simp [h]; omega
      · have : ¬ (1 ≤ op ∧ op ≤ 9) := by omega
        simp [h, this]
  have HTK2 := hid htk2
  have HW := hid hw
  clear htk2 HTK
  go_upto_block 0 with fail
  go_cut [5] from 10 to 17 (fun s5 wc => s5 = .int .i64 want ∧ wc = w0)
  case first =>
    rcases hw with ⟨h, rfl⟩ | ⟨h, rfl⟩ | ⟨h, rfl⟩ | ⟨h7, h8, h9, rfl⟩
    · subst h
      go_wp2_with fail
      go_meet
      exact ⟨rfl, rfl⟩
    · subst h
      go_wp2_with fail
      go_meet
      exact ⟨rfl, rfl⟩
    · subst h
      go_wp2_with fail
      go_meet
      exact ⟨rfl, rfl⟩
    · have e7 : (op == 7) = false := by simp [h7]
      have e8 : (op == 8) = false := by simp [h8]
      have e9 : (op == 9) = false := by simp [h9]
      go_wp2_with fail
      go_meet
      exact ⟨rfl, rfl⟩
  case rest =>
    obtain ⟨rfl, rfl⟩ := hcut
    clear hw HW
    by_cases h1 : 1 ≤ op
    rotate_left
    · obtain rfl : R = false := by rw [← HR.out, HTK2.out]; simp [h1]
      go_wp2_with fail
      go_ret
      exact ⟨rfl, HBO.out⟩
    by_cases h9 : op ≤ 9
    rotate_left
    · obtain rfl : R = false := by rw [← HR.out, HTK2.out]; simp [h9]
      go_wp2_with fail
      go_ret
      exact ⟨rfl, HBO.out⟩
    by_cases hqw : q = want
    rotate_left
    · obtain rfl : R = false := by rw [← HR.out, HTK2.out]; simp [hqw]
      have eq1 : ((q : Int) != (want : Int)) = true := by simp; omega
      go_wp2_with fail
      go_ret
      exact ⟨rfl, HBO.out⟩
    subst hqw
    have eq1 : ((q : Int) != (q : Int)) = false := by simp
    by_cases hq : q ≤ 1024
    rotate_left
    · obtain rfl : R = false := by rw [← HR.out, HTK2.out]; simp [hq]
      go_wp2_with fail
      go_ret
      exact ⟨rfl, HBO.out⟩
    have hR2 : R = args.all (isVal k) := by rw [← HR.out, HTK2.out]; simp [h1, h9, hq]
    have HR2 := hid hR2
    clear hR2 HR HTK2
    go_wp2_with fail
    clear k0 k1 k2
    go_loopw [41] (fun i wr => ∃ t : Nat, t ≤ q ∧ i = .int .i64 t ∧ Hid (∀ u, u < t → isVal k (args.getD u C3.df) = true) ∧ Hid (Below w.heap.size w wr)) (fun i _ => q - (intOf i).toNat)
    case atStart => exact ⟨0, by omega, rfl, hid (fun u h => absurd h (Nat.not_lt_zero u)), HBO⟩
    case round =>
      obtain ⟨t, ht, rfl, HALL, HBW⟩ := hrel
      by_cases hlt : t < q
      · obtain ⟨b, o, rfl, hs⟩ := (HX.out.mono HBW.out).at (by omega)
        obtain ⟨c0, c1, c2⟩ := hs.c3 t (by rw [HQ.out]; exact hlt)
        have HB : Hid (isVal k (args.getD t C3.df) = false → R = false) := hid (fun h => by
          rw [HR2.out, all_not C3.df t (by rw [HQ.out]; exact hlt) h])
        have HS : Hid (isVal k (args.getD t C3.df) = true → ∀ u, u < t + 1 → isVal k (args.getD u C3.df) = true) := hid (fun h u hu => by
          by_cases hut : u = t
          · subst hut; exact h
          · exact HALL.out u (by omega))
        have HK := hid (fun (w2 : World) => HIV.out (args.getD t C3.df) w2)
        clear hs HIV
        generalize args.getD t C3.df = x at *
        obtain ⟨xn, xi, xs⟩ := x
        simp only [C3.v] at c0 c1 c2 HK
        generalize isVal k ⟨xn, xi, xs⟩ = kx at *
        have hwr := HBW.out.size
        cases kx
        · obtain rfl : R = false := HB.out rfl
          go_wp2_with (go_at_call 37; refine (HK.out _).mono ?_; rintro e w2 ⟨rfl, hb2⟩)
          go_ret
          exact ⟨rfl, Below.then' (HBW.out.alloc HBW.out.size _) hb2 (by simp; omega)⟩
        · have HS2 := hid (HS.out rfl)
          go_wp2_with (go_at_call 37; refine (HK.out _).mono ?_; rintro e w2 ⟨rfl, hb2⟩)
          go_roundw
          case rel => exact ⟨t + 1, by omega, by go_num, HS2, hid (Below.then' (HBW.out.alloc HBW.out.size _) hb2 (by simp; omega))⟩
          case measure => simp [intOf]; omega
      · obtain rfl : t = q := by omega
        obtain rfl : R = true := by
          rw [HR2.out, all_of (L := args) (p := isVal k) C3.df (fun j hj => HALL.out j (by rw [← HQ.out]; exact hj))]
        go_wp2_with fail
        go_ret
        exact ⟨rfl, HBW.out⟩
end Go.Proofs.Ytioaeijogjcghaa
