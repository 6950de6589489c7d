/- The plain answer: whole payloads. -/
import Derived.Test.YtdlkdiaobbakiaaGreatDoorRefr2
set_option linter.unusedVariables false
set_option linter.unusedSimpArgs false
set_option linter.unnecessarySimpa false
set_option maxRecDepth 100000
namespace Go.Proofs.YtdlkdiaobbakiaaGreatDoor
open Go.RowKit

def payR (kd cd wd k p : Nat) (xs : List Nat) : Bool × List PV :=
  if cd = 2 then dictR kd wd k p xs
  else if cd = 3 then ((runsR kd k p xs).1 && decide (wd = 0), (runsR kd k p xs).2)
  else if cd = 4 then (if numOk 8 p xs.length = false ∨ 64 < wd ∨ ¬ kd = 1 then (false, []) else
    (fits (sgn64 (L.wordOf 8 ((xs.drop p).take 8))) (lanesV wd k (p + 8) xs) && lanesOk wd k (p + 8) xs, (sumsL (sgn64 (L.wordOf 8 ((xs.drop p).take 8))) (lanesV wd k (p + 8) xs)).map pI))
  else if cd = 5 then (if 64 < wd ∨ ¬ kd = 1 then (false, []) else (fits 0 (lanesV wd k p xs) && lanesOk wd k p xs, (sumsL 0 (lanesV wd k p xs)).map pI))
  else (listOk kd k p xs && decide (listNx kd k p xs = xs.length) && decide (cd = 1) && decide (wd = 0), listP kd k p xs)
set_option maxHeartbeats 8000000 in
theorem payloadAt_any (kd : Nat) (hkd : kd = 1 ∨ kd = 2) (v : Value) (xs : List Nat) (p cd wd k : Nat) (w : World) (hx : Rd w v xs.length 1 (u8s xs)) (hb : ∀ x ∈ xs, x < 256) (hl : xs.length ≤ 1048576) (hp : p ≤ 1048576) (hk : k ≤ 65536) (hcd : cd < 256) (hwd : wd < 256) :
    Calls Tryz.prog 26 #[v, .int .i64 p, .int .i64 kd, .int .i64 cd, .int .i64 wd, .int .i64 k] w fun e w' => PAns w w' e (payR kd cd wd k p xs) := by
  have HDA := hid (dictAt_any kd hkd v xs p wd k w hx hb hl hp hk)
  have HRA := hid (runsAt_any kd hkd v xs p k w hx hb hl hp hk)
  have HLA := hid (listAt_any kd hkd v xs p k w hx hb hl (by omega) (by omega))
  have HNA := hid (numberAt_any v xs p 8 w hx hb hl (by omega) (by omega))
  have HS5 := hid (sumsAt_any v xs p wd k 0 w hx hb hl (by omega) (by omega) (by omega))
  have HS4 := hid (by
    have h := sumsAt_any v xs (p + 8) wd k (sgn64 (L.wordOf 8 ((xs.drop p).take 8))) w hx hb hl (by omega) (sgn64_bd _).1 (sgn64_bd _).2
    rw [show ((p + 8 : Nat) : Int) = (p : Int) + 8 by omega] at h
    exact h)
  obtain ⟨A, ca, rfl, _, _, _⟩ := hx.form
  clear hx
  obtain ⟨R, hR⟩ : ∃ R, payR kd cd wd k p xs = R := ⟨_, rfl⟩
  rw [hR]
  unfold payR at hR
  have HR := hid hR
  clear hR
  by_cases h2 : cd = 2
  · subst h2
    rw [if_pos rfl] at HR
    rw [HR.out] at HDA
    go_enter Tryz.func26, Tryz.ntmps26
    go_wp2_with (go_at_call 47; refine HDA.out.mono ?_; rintro e w1 ⟨u, rfl, ⟨U, n, c, rfl⟩, h3, h4⟩; have H3 := hid h3; have H4 := hid h4; clear h3 h4)
    go_ret2
    exact ⟨_, rfl, ⟨_, _, _, rfl⟩, H3.out, H4.out⟩
  rw [if_neg h2] at HR
  have e2 : ((cd : Int) == 2) = false := by simp; omega
  by_cases h3 : cd = 3
  · subst h3
    rw [if_pos rfl] at HR
    obtain ⟨R3, hR3⟩ : ∃ R3, runsR kd k p xs = R3 := ⟨_, rfl⟩
    rw [hR3] at HR HRA
    obtain ⟨rb, rv⟩ := R3
    simp only at HR
    have ew : ((wd : Int) == 0) = decide (wd = 0) := by by_cases h : wd = 0 <;> simp [h]
    have HR2 := hid (show R = (rb && decide (wd = 0), rv) from HR.out.symm)
    clear HR hR3
    go_enter Tryz.func26, Tryz.ntmps26
    cases rb
    · go_wp2_with (go_at_call 48; refine HRA.out.mono ?_; rintro e w1 ⟨u, rfl, ⟨U, n, c, rfl⟩, h3, h4⟩; have H3 := hid h3; have H4 := hid h4; clear h3 h4)
      go_ret2
      rw [HR2.out]
      exact ⟨_, rfl, ⟨_, _, _, rfl⟩, (fun h => by simp at h), H4.out⟩
    · go_wp2_with (go_at_call 48; refine HRA.out.mono ?_; rintro e w1 ⟨u, rfl, ⟨U, n, c, rfl⟩, h3, h4⟩; have H3 := hid h3; have H4 := hid h4; clear h3 h4)
      go_ret2
      rw [HR2.out]
      exact ⟨.slice U n c, by simp, ⟨U, n, c, rfl⟩, (fun _ => by first | exact H3.out rfl | exact H3.out trivial | exact H3.out), H4.out⟩
  rw [if_neg h3] at HR
  have e3 : ((cd : Int) == 3) = false := by simp; omega
  have e1k : ((kd : Int) != 1) = !decide (kd = 1) := by rcases hkd with h | h <;> subst h <;> rfl
  by_cases h4 : cd = 4
  · subst h4
    rw [if_pos rfl] at HR
    have hX : L.wordOf 8 ((xs.drop p).take 8) < 18446744073709551616 := wordOf8_lt _ (fun x hx => hb x (List.mem_of_mem_drop (List.mem_of_mem_take hx))) (by rw [List.length_take]; omega)
    unfold sgn64 at HS4 HR
    obtain ⟨ok, hok⟩ : ∃ ok, numOk 8 p xs.length = ok := ⟨_, rfl⟩
    rw [hok] at HNA HR
    generalize L.wordOf 8 ((xs.drop p).take 8) = X at *
    clear HDA HRA HLA HS5 hok e2
    cases ok
    · have HRN := hid (show R = (false, []) by rw [← HR.out, if_pos (.inl rfl)])
      clear HR HS4
      simp only [Bool.false_eq_true, if_false] at HNA
      go_enter Tryz.func26, Tryz.ntmps26
      go_wp2_with (go_at_call 46; refine HNA.out.mono ?_; rintro e w1 ⟨rfl, hw⟩; replace hw := hw.symm; subst hw)
      go_ret2
      exact pans_no HRN.out (brefl w)
    simp only [if_true] at HNA
    by_cases h64 : 64 < wd
    · have HRN := hid (show R = (false, []) by rw [← HR.out, if_pos (.inr (.inl h64))])
      have i1 : (wd : Int) > 64 := by omega
      clear HR HS4
      go_enter Tryz.func26, Tryz.ntmps26
      go_wp2_with (go_at_call 46; refine HNA.out.mono ?_; rintro e w1 ⟨rfl, hw⟩; replace hw := hw.symm; subst hw)
      go_ret2
      exact pans_no HRN.out (brefl w)
    have i1 : ¬ (wd : Int) > 64 := by omega
    rcases hkd with hkd | hkd
    rotate_left
    · have HRN := hid (show R = (false, []) by rw [← HR.out, if_pos (.inr (.inr (by omega)))])
      clear HR HS4
      subst hkd
      go_enter Tryz.func26, Tryz.ntmps26
      go_wp2_with (go_at_call 46; refine HNA.out.mono ?_; rintro e w1 ⟨rfl, hw⟩; replace hw := hw.symm; subst hw)
      go_ret2
      exact pans_no HRN.out (brefl w)
    rw [if_neg (by simp; omega)] at HR
    subst hkd
    generalize (fits (wrap64 (X : Int)) (lanesV wd k (p + 8) xs) && lanesOk wd k (p + 8) xs) = F at *
    generalize sumsL (wrap64 (X : Int)) (lanesV wd k (p + 8) xs) = SL at *
    go_enter Tryz.func26, Tryz.ntmps26
    go_wp2_with (first
      | (go_at_call 46; refine HNA.out.mono ?_; rintro e w1 ⟨rfl, hw⟩; replace hw := hw.symm; subst hw)
      | (go_at_call 49; refine HS4.out.mono ?_; rintro e w1 ⟨u, rfl, ho1, hb1⟩; have HO1 := hid ho1; have HB1 := hid hb1; obtain ⟨D, cd, rfl⟩ := owns3_form ho1; clear ho1 hb1))
    go_ret2
    rw [← HR.out]
    exact ⟨_, rfl, ⟨_, _, _, rfl⟩, fun _ => by rw [List.length_map, ← cellsI_P]; exact HO1.out, HB1.out⟩
  rw [if_neg h4] at HR
  have e4 : ((cd : Int) == 4) = false := by simp; omega
  by_cases h5 : cd = 5
  · subst h5
    rw [if_pos rfl] at HR
    clear HDA HRA HLA HS4 HNA e2 e3 e4
    by_cases h64 : 64 < wd
    · have HRN := hid (show R = (false, []) by rw [← HR.out, if_pos (.inl h64)])
      have i1 : (wd : Int) > 64 := by omega
      clear HR HS5
      go_enter Tryz.func26, Tryz.ntmps26
      go_wp2
      go_ret2
      exact pans_no HRN.out (brefl w)
    have i1 : ¬ (wd : Int) > 64 := by omega
    rcases hkd with hkd | hkd
    rotate_left
    · have HRN := hid (show R = (false, []) by rw [← HR.out, if_pos (.inr (by omega))])
      clear HR HS5
      subst hkd
      go_enter Tryz.func26, Tryz.ntmps26
      go_wp2
      go_ret2
      exact pans_no HRN.out (brefl w)
    rw [if_neg (by omega)] at HR
    subst hkd
    generalize (fits 0 (lanesV wd k p xs) && lanesOk wd k p xs) = F at *
    generalize sumsL 0 (lanesV wd k p xs) = SL at *
    go_enter Tryz.func26, Tryz.ntmps26
    go_wp2_with (go_at_call 49; refine HS5.out.mono ?_; rintro e w1 ⟨u, rfl, ho1, hb1⟩; have HO1 := hid ho1; have HB1 := hid hb1; obtain ⟨D, cd, rfl⟩ := owns3_form ho1; clear ho1 hb1)
    go_ret2
    rw [← HR.out]
    exact ⟨_, rfl, ⟨_, _, _, rfl⟩, fun _ => by rw [List.length_map, ← cellsI_P]; exact HO1.out, HB1.out⟩
  rw [if_neg h5] at HR
  have e5 : ((cd : Int) == 5) = false := by simp; omega
  clear HDA HRA HS4 HS5 HNA
  generalize listP kd k p xs = LP at *
  generalize listNx kd k p xs = nx at *
  generalize listOk kd k p xs = lo at *
  have en : ((nx : Int) == (xs.length : Int)) = decide (nx = xs.length) := by by_cases h : nx = xs.length <;> simp [h]; omega
  have e1 : ((cd : Int) == 1) = decide (cd = 1) := by by_cases h : cd = 1 <;> simp [h]; omega
  have ew : ((wd : Int) == 0) = decide (wd = 0) := by by_cases h : wd = 0 <;> simp [h]
  generalize decide (nx = xs.length) = bn at *
  generalize decide (cd = 1) = b1 at *
  generalize decide (wd = 0) = bw at *
  go_enter Tryz.func26, Tryz.ntmps26
  cases lo <;> cases bn <;> cases b1 <;> cases bw
  all_goals
    go_wp2_with (go_at_call 50; refine HLA.out.mono ?_; rintro e w1 ⟨u, rfl, ho1, hb1⟩; have HO1 := hid ho1; have HB1 := hid hb1; obtain ⟨D, cD, rfl⟩ := owns3_form ho1; clear ho1 hb1)
    go_ret2
    rw [← HR.out]
    exact ⟨_, rfl, ⟨_, _, _, rfl⟩, fun _ => HO1.out, HB1.out⟩
end Go.Proofs.YtdlkdiaobbakiaaGreatDoor
