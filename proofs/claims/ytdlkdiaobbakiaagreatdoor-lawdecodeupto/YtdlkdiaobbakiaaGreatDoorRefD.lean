/- The plain answer: Decode. -/
import Derived.Test.YtdlkdiaobbakiaaGreatDoorRefs
import Derived.Test.YtdlkdiaobbakiaaGreatDoorPlaces
import Derived.Test.YtdlkdiaobbakiaaGreatDoorRefi
import Derived.Test.YtdlkdiaobbakiaaGreatDoorVl
set_option linter.unusedVariables false
set_option linter.unusedSimpArgs false
set_option linter.unnecessarySimpa false
set_option maxRecDepth 100000
namespace Go.Proofs.YtdlkdiaobbakiaaGreatDoor
open Go.RowKit

def rN (rows : Nat) : Nat := (rows + 63) / 64
/-- the bitmap of the NULLs; is the head of a body in order; how many values there are; what the payload says -/
def rWs (rows : Nat) (xs : List Nat) : List Nat := numL 8 (tk (8 * rN rows) (xs.drop 2))
def rHd (rows : Nat) (xs : List Nat) : Bool := numsOk 8 (rN rows) 2 xs.length && okPack 1 rows (rWs rows xs)
def rK (rows : Nat) (xs : List Nat) : Nat := rows - rankN (rWs rows xs) rows
def rPay (kd rows : Nat) (xs : List Nat) : Bool × List PV := payR kd (xs.getD 0 0) (xs.getD 1 0) (rK rows xs) (2 + 8 * rN rows) xs
def rOk (kd rows : Nat) (xs : List Nat) : Bool := rHd rows xs && (rPay kd rows xs).1 && decide ((rPay kd rows xs).2.length = rK rows xs)
/-- value number j -/
def rVal (kd rows : Nat) (xs : List Nat) (j : Nat) : PV := (rPay kd rows xs).2.getD j dfP
/-- the cell of a row, by its fields -/
def cA (ws : List Nat) (r : Nat) : Bool := bitOf ws r
def cB (ws : List Nat) (vs : List PV) (r : Nat) : Int := if bitOf ws r = true then 0 else (vs.getD (r - rankN ws r) dfP).1
def cC (ws : List Nat) (vs : List PV) (r : Nat) : ByteArray := if bitOf ws r = true then ByteArray.empty else (vs.getD (r - rankN ws r) dfP).2
def rCells (kd rows : Nat) (xs : List Nat) : List Value := cellsUp (cA (rWs rows xs)) (cB (rWs rows xs) (rPay kd rows xs).2) (cC (rWs rows xs) (rPay kd rows xs).2) rows
def refCode (k rows : Int) (xs : List Nat) : Int := if (isKind k && isRows rows) = true then (if rOk k.toNat rows.toNat xs = true then 0 else 1) else 5
def refCells (k rows : Int) (xs : List Nat) : List Value := if refCode k rows xs = 0 then rCells k.toNat rows.toNat xs else []
def refLen (k rows : Int) (xs : List Nat) : Nat := if refCode k rows xs = 0 then rows.toNat else 0
theorem rankN_le (ws : List Nat) (i : Nat) : rankN ws i ≤ i := by
  unfold rankN; have := List.length_filter_le (bitOf ws) (List.range i); rwa [List.length_range] at this
theorem rankN_false (ws : List Nat) : ∀ i d, rankN ws i + d ≤ i → i - rankN ws i ≤ (i + 1) - rankN ws (i + 1) := by
  intro i d h
  rw [rankN_succ]
  split <;> omega
theorem rank_mono (ws : List Nat) (i j : Nat) (h : i ≤ j) : i - rankN ws i ≤ j - rankN ws j := by
  induction j with
  | zero => obtain rfl : i = 0 := by omega
            exact Nat.le_refl _
  | succ j ih =>
    by_cases hij : i = j + 1
    · subst hij; exact Nat.le_refl _
    · exact Nat.le_trans (ih (by omega)) (rankN_false ws j 0 (rankN_le ws j))
set_option maxHeartbeats 16000000 in
theorem refDecode_any (k rows : Int) (v : Value) (xs : List Nat) (w : World) (hx : Rd w v xs.length 1 (u8s xs)) (hb : ∀ x ∈ xs, x < 256) (hl : xs.length ≤ 1048576) :
    Calls Tryz.prog 8 #[.int .i64 k, .int .i64 rows, v] w fun e w' => ∃ u, e = .returned (.tuple #[u, .int .i64 (refCode k rows xs)]) ∧
      w'.ownsRow w.heap.size 38 3 u (refLen k rows xs) (refCells k rows xs) ∧ Below w.heap.size w w' := by
  have HK := hid (kindOK_any k w)
  by_cases hg : (isKind k && isRows rows) = true
  rotate_left
  · have e1 : refCode k rows xs = 5 := by unfold refCode; rw [if_neg hg]
    have e2 : refCells k rows xs = [] := by unfold refCells; rw [e1, if_neg (by decide)]
    have e3 : refLen k rows xs = 0 := by unfold refLen; rw [e1, if_neg (by decide)]
    rw [e1, e2, e3]
    obtain ⟨A, ca, rfl, _, _, _⟩ := hx.form
    have hr : isRows rows = decide (0 ≤ rows ∧ rows ≤ 65536) := rfl
    clear hx e1 e2 e3
    generalize isKind k = bk at *
    generalize isRows rows = br at *
    go_enter Tryz.func8, Tryz.ntmps8
    cases bk
    case' false => go_wp2_with (go_at_call 22; refine HK.out.mono ?_; rintro e w1 ⟨rfl, hw⟩; replace hw := hw.symm; subst hw)
    case' true =>
      obtain rfl : br = false := by simpa using hg
      have hr2 := of_decide_eq_false hr.symm
      clear hr hg
      by_cases h1 : rows < 0
      case' pos => clear hr2
      case' pos => go_wp2_with (go_at_call 22; refine HK.out.mono ?_; rintro e w1 ⟨rfl, hw⟩; replace hw := hw.symm; subst hw)
      case' neg =>
        have h2 : rows > 65536 := by omega
        go_wp2_with (go_at_call 22; refine HK.out.mono ?_; rintro e w1 ⟨rfl, hw⟩; replace hw := hw.symm; subst hw)
    all_goals go_ret2
    all_goals exact ⟨_, rfl, World.ownsRow_nil _ _ _ _, brefl w⟩
  have hk : isKind k = true := by simp only [Bool.and_eq_true] at hg; exact hg.1
  have hr : isRows rows = true := by simp only [Bool.and_eq_true] at hg; exact hg.2
  have hr2 : 0 ≤ rows ∧ rows ≤ 65536 := by simpa [isRows] using hr
  obtain ⟨n, rfl⟩ := Int.eq_ofNat_of_zero_le hr2.1
  have hn : n ≤ 65536 := by omega
  have hk2 : k = 1 ∨ k = 2 := by simpa [isKind] using hk
  obtain ⟨kd, rfl⟩ : ∃ kd : Nat, k = (kd : Int) := ⟨k.toNat, by omega⟩
  have hkd : kd = 1 ∨ kd = 2 := by omega
  have HCD := hid (show refCode (kd : Int) (n : Int) xs = if rOk kd n xs = true then 0 else 1 by unfold refCode; rw [if_pos hg]; simp)
  have HNO : Hid (rOk kd n xs = false → refCode (kd : Int) (n : Int) xs = 1 ∧ refLen (kd : Int) (n : Int) xs = 0 ∧ refCells (kd : Int) (n : Int) xs = []) := hid (fun h => by
    have e1 : refCode (kd : Int) (n : Int) xs = 1 := by rw [HCD.out, h]; rfl
    refine ⟨e1, ?_, ?_⟩
    · unfold refLen; rw [e1, if_neg (by decide)]
    · unfold refCells; rw [e1, if_neg (by decide)])
  have HYES : Hid (rOk kd n xs = true → refCode (kd : Int) (n : Int) xs = 0 ∧ refLen (kd : Int) (n : Int) xs = n ∧ refCells (kd : Int) (n : Int) xs = rCells kd n xs) := hid (fun h => by
    have e1 : refCode (kd : Int) (n : Int) xs = 0 := by rw [HCD.out, h]; rfl
    refine ⟨e1, ?_, ?_⟩
    · unfold refLen; rw [e1, if_pos rfl]; simp
    · unfold refCells; rw [e1, if_pos rfl]; simp)
  generalize refCode (kd : Int) (n : Int) xs = RC at *
  generalize refLen (kd : Int) (n : Int) xs = RL at *
  generalize refCells (kd : Int) (n : Int) xs = RX at *
  rw [hk] at HK
  have hq : ((n : Int) + 63) / 64 = (rN n : Int) := by unfold rN; omega
  have hqn : rN n ≤ 1024 := by unfold rN; omega
  have hok : rOk kd n xs = (rHd n xs && (rPay kd n xs).1 && decide ((rPay kd n xs).2.length = rK n xs)) := rfl
  have hcl : rCells kd n xs = cellsUp (cA (rWs n xs)) (cB (rWs n xs) (rPay kd n xs).2) (cC (rWs n xs) (rPay kd n xs).2) n := rfl
  have hhd : rHd n xs = (numsOk 8 (rN n) 2 xs.length && okPack 1 n (rWs n xs)) := rfl
  have hpay : rPay kd n xs = payR kd (xs.getD 0 0) (xs.getD 1 0) (rK n xs) (2 + 8 * rN n) xs := rfl
  have hkk : rK n xs = n - rankN (rWs n xs) n := rfl
  have hwv : ∀ x ∈ rWs n xs, x < 18446744073709551616 := numL_lt (tk_lt (fun x h => hb x (List.mem_of_mem_drop h))) (by omega)
  have HNS := hid (numbersAt_any v xs 2 8 (rN n) w hx hb hl (.inr rfl) (by omega) (by omega))
  have hwl : (rWs n xs).length ≤ 1048576 := numL_tk_len _ _ _ (by rw [List.length_drop]; omega) (by omega)
  rw [show numL 8 (tk (8 * rN n) (xs.drop 2)) = rWs n xs from rfl] at HNS
  have HBM := hid (fun (w2 : World) (u : Value) (h : Rd w2 u (rWs n xs).length 1 (u64s (rWs n xs))) => refIsBitmap_any u (rWs n xs) n w2 h hwv (by unfold maxLen; omega))
  have HRKK := hid (fun (w2 : World) (u : Value) (h : Rd w2 u (rWs n xs).length 1 (u64s (rWs n xs))) => refRank_any u (rWs n xs) n n w2 h hwv (by unfold maxLen; omega))
  have HBI := hid (fun (w2 : World) (u : Value) (i : Nat) (hi : i ≤ 65536) (h : Rd w2 u (rWs n xs).length 1 (u64s (rWs n xs))) => bitAt_any u (rWs n xs) i w2 h hwv (by unfold maxLen; omega) (by omega))
  have HPA := hid (fun (kk : Nat) (hkk : kk ≤ 65536) (h0 : 2 ≤ xs.length) (w2 : World) (h : Below w.heap.size w w2) =>
    payloadAt_any kd hkd v xs (2 + 8 * rN n) (xs.getD 0 0) (xs.getD 1 0) kk w2 (hx.mono h) hb hl (by omega) hkk
      (hb _ (by simp [List.getD, List.getElem?_eq_getElem (show 0 < xs.length by omega)])) (hb _ (by simp [List.getD, List.getElem?_eq_getElem (show 1 < xs.length by omega)])))
  have HX := hid hx
  have HPW := hid hpay
  have HKK := hid hkk
  have HCL := hid hcl
  obtain ⟨A, ca, rfl, hlc, hcm, hA⟩ := hx.form
  obtain ⟨nk, hnk⟩ : ∃ nk, numsOk 8 (rN n) 2 xs.length = nk := ⟨_, rfl⟩
  rw [hnk] at hhd HNS
  have HNK := hid hnk
  clear hx hk hr hg hpay hkk hcl HCD hnk
  generalize rWs n xs = ws at *
  generalize rN n = q at *
  go_enter Tryz.func8, Tryz.ntmps8
  cases nk
  · obtain ⟨r1, r2, r3⟩ := HNO.out (by rw [hok, hhd]; simp)
    rw [r1, r2, r3]
    clear hA hok hhd
    simp only [Bool.false_eq_true, if_false] at HNS
    go_wp2_with (first
      | (go_at_call 22; refine HK.out.mono ?_; rintro e w1 ⟨rfl, hw⟩; replace hw := hw.symm; subst hw)
      | (go_at_call 23; refine HNS.out.mono ?_; rintro e w1 ⟨u, rfl, ho1, hb1⟩; have HB1 := hid hb1; clear ho1 hb1))
    go_ret2
    exact ⟨_, rfl, World.ownsRow_nil _ _ _ _, HB1.out⟩
  simp only [if_true] at HNS
  have hx2 : 2 ≤ xs.length := by have := HNK.out; unfold numsOk at this; simp only [decide_eq_true_eq] at this; exact this.1
  obtain ⟨ob, hob⟩ : ∃ ob, okPack 1 n ws = ob := ⟨_, rfl⟩
  have hrkv : ob = true → rankR n n ws = (rankN ws n : Int) := fun h => by unfold rankR; rw [hob, h]; simp
  rw [hob] at hhd HBM
  clear hob
  cases ob
  · obtain ⟨r1, r2, r3⟩ := HNO.out (by rw [hok, hhd]; simp)
    rw [r1, r2, r3]
    clear hA hok hhd hrkv
    go_wp2_with (first
      | (go_at_call 22; refine HK.out.mono ?_; rintro e w1 ⟨rfl, hw⟩; replace hw := hw.symm; subst hw)
      | (go_at_call 23; refine HNS.out.mono ?_; rintro e w1 ⟨u, rfl, ho1, hb1⟩; have HB1 := hid hb1; have HO1 := hid (owns_rd ho1); obtain ⟨E, ce, rfl, _, _, _, _⟩ := owns_form ho1; clear ho1 hb1)
      | (go_at_call 24; refine (HBM.out w1 _ HO1.out).mono ?_; rintro e w2 ⟨rfl, hw⟩; replace hw := hw.symm; subst hw)
      | (go_at_call 25; refine (HRKK.out w1 _ HO1.out).mono ?_; rintro e w2 ⟨rfl, hw⟩; replace hw := hw.symm; subst hw))
    go_ret2
    exact ⟨_, rfl, World.ownsRow_nil _ _ _ _, HB1.out⟩
  rw [hrkv rfl] at HRKK
  have hrle := rankN_le ws n
  obtain ⟨kk, hkk⟩ : ∃ kk, n - rankN ws n = kk := ⟨_, rfl⟩
  have hkki : (n : Int) - (rankN ws n : Int) = (kk : Int) := by omega
  have hkl : kk ≤ 65536 := by omega
  have HKN := hid hkk
  have HKN0 : Hid (∀ m, m = n → m - rankN ws m = kk) := hid (fun m hm => by subst hm; exact hkk)
  rw [HKK.out, hkk] at hok HPW
  obtain ⟨b, o, rfl, hseg⟩ := hA (by omega)
  have c0 : w.cell? ⟨b, o, none⟩ = some (.int .u8 ((xs.getD 0 0 : Nat) : Int)) := hseg.byte 0 (by omega)
  have c1 : w.cell? ⟨b, o + 1, none⟩ = some (.int .u8 ((xs.getD 1 0 : Nat) : Int)) := hseg.byte 1 (by omega)
  have hbw : b < w.heap.size := World.block_lt_of_cell? w _ c0
  have hv0 : xs.getD 0 0 < 256 := hb _ (by simp [List.getD, List.getElem?_eq_getElem (show 0 < xs.length by omega)])
  have hv1 : xs.getD 1 0 < 256 := hb _ (by simp [List.getD, List.getElem?_eq_getElem (show 1 < xs.length by omega)])
  have HPK := hid (HPA.out kk hkl hx2)
  rw [← HPW.out] at HPK
  have HB := hid hb
  clear HPA hb hseg hA hrkv hkk hrle
  generalize xs.getD 0 0 = cd at *
  generalize xs.getD 1 0 = wd at *
  generalize rPay kd n xs = RP at *
  obtain ⟨rb, rv⟩ := RP
  simp only [hhd, Bool.true_and] at hok
  clear hhd
  generalize xs.length = Lx at *
  have i0 : (0 : Int) < (Lx : Int) := by omega
  have i1 : (1 : Int) < (Lx : Int) := by omega
  have n0 : 0 < Lx := by omega
  have n1 : 1 < Lx := by omega
  have z0 : ¬ Lx = 0 := by omega
  have p1 : (0 : Int) ≤ 1 := by omega
  generalize rankN ws n = rn at *
  obtain ⟨nx, hnx⟩ : ∃ nx, 2 + 8 * q = nx := ⟨_, rfl⟩
  rw [hnx] at HNS HPK
  have iwc : IntKind.i64.wrap (cd : Int) = (cd : Int) := by rw [IntKind.wrap_i64]; omega
  have iwd : IntKind.i64.wrap (wd : Int) = (wd : Int) := by rw [IntKind.wrap_i64]; omega
  go_upto_region 7 with (first
      | (go_at_call 22; refine HK.out.mono ?_; rintro e w1 ⟨rfl, hw⟩; replace hw := hw.symm; subst hw)
      | (go_at_call 23; refine HNS.out.mono ?_; rintro e w1 ⟨u, rfl, ho1, hb1⟩; have HB1 := hid hb1; have HO1 := hid (owns_rd ho1); obtain ⟨E, ce, rfl, _, _, _, _⟩ := owns_form ho1; clear ho1 hb1)
      | (go_at_call 24; refine (HBM.out w1 _ HO1.out).mono ?_; rintro e w2 ⟨rfl, hw⟩; replace hw := hw.symm; subst hw)
      | (go_at_call 25; refine (HRKK.out w1 _ HO1.out).mono ?_; rintro e w2 ⟨rfl, hw⟩; replace hw := hw.symm; subst hw))
  have d0 := (HB1.out.cell (p := ⟨b, o, none⟩) hbw).trans c0
  have d1 := (HB1.out.cell (p := ⟨b, o + 1, none⟩) hbw).trans c1
  have hbw1 : b < w1.heap.size := World.block_lt_of_cell? w1 _ d0
  clear c0 c1 HNS HBM HRKK HK
  have HPW1 := hid (fun (w2 : World) (h : Below w1.heap.size w1 w2) => HPK.out w2 (bthen HB1.out h))
  have HBI1 := hid (fun (w2 : World) (i : Nat) (hi : i ≤ 65536) (h : Below w1.heap.size w1 w2) => HBI.out w2 _ i hi (HO1.out.mono h))
  have hsz1 := HB1.out.size
  clear HPK HBI HO1 HKK HPW
  have hkki2 : (n : Int) - (rn : Int) = (kk : Int) := hkki
  cases rb
  · have HRR := hid (HNO.out (by rw [hok]; simp))
    clear hok HNO HYES HCL
    have HPF := hid (fun (w2 : World) (h : Below w1.heap.size w1 w2) => (HPW1.out w2 h).mono (fun e w' (h : PAns w2 w' e (false, rv)) => show ∃ A m c, e = .returned (.tuple #[.slice A m c, .bool false]) ∧ Below w2.heap.size w2 w' from by obtain ⟨u, h1, ⟨A, m, c, h2⟩, _, h4⟩ := h; exact ⟨A, m, c, by rw [h1, h2], h4⟩))
    clear HPW1
    go_region_held3 (fun w' => w'.cell? ⟨b, o, none⟩ = some (.int .u8 (cd : Int)) ∧ w'.cell? ⟨b, o + 1, none⟩ = some (.int .u8 (wd : Int))) (go_keep)
      (first | (go_at_call 26; refine (HPF.out _ (bdrew (brefl w1) 1)).mono ?_; rintro e w3 ⟨A3, m3, c3, rfl, hb3⟩; have HB3 := hid ((bdrew (brefl w1) 1).trans hb3); have q0 := (hb3.cell (p := ⟨b, o, none⟩) hbw1).trans d0; have q1 := (hb3.cell (p := ⟨b, o + 1, none⟩) hbw1).trans d1; clear hb3))
    go_wp2_with fail
    go_ret2
    rw [HRR.out.1, HRR.out.2.1, HRR.out.2.2]
    exact ⟨_, rfl, World.ownsRow_nil _ _ _ _, bthen HB1.out HB3.out⟩
  have HPT := hid (fun (w2 : World) (h : Below w1.heap.size w1 w2) => (HPW1.out w2 h).mono (fun e w' (h : PAns w2 w' e (true, rv)) => show ∃ A c, e = .returned (.tuple #[.slice A rv.length c, .bool true]) ∧ w'.ownsRow w2.heap.size 38 3 (.slice A rv.length c) rv.length (cellsP rv) ∧ Below w2.heap.size w2 w' from by
    obtain ⟨u, h1, _, h3, h4⟩ := h
    have h5 := h3 rfl
    simp only at h5
    obtain ⟨A, c, rfl⟩ := owns3_form h5
    exact ⟨A, c, h1, h5, h4⟩))
  clear HPW1
  go_region_held3 (fun w' => w'.cell? ⟨b, o, none⟩ = some (.int .u8 (cd : Int)) ∧ w'.cell? ⟨b, o + 1, none⟩ = some (.int .u8 (wd : Int))) (go_keep)
    (first | (go_at_call 26; refine (HPT.out _ (bdrew (brefl w1) 1)).mono ?_; rintro e w3 ⟨D, cD, rfl, ho3, hb3⟩; have HB3 := hid ((bdrew (brefl w1) 1).trans hb3); have HRD := hid (owns3_rd ho3); have q0 := (hb3.cell (p := ⟨b, o, none⟩) hbw1).trans d0; have q1 := (hb3.cell (p := ⟨b, o + 1, none⟩) hbw1).trans d1; clear hb3 ho3))
  have hsz3 := HB3.out.size
  have HB03 := hid (bthen HB1.out HB3.out)
  by_cases hkl2 : rv.length = kk
  rotate_left
  · have HRR := hid (HNO.out (by rw [hok]; simp [hkl2]))
    have hne : ((rv.length : Int) != (kk : Int)) = true := by simp; omega
    clear hok HNO HYES HCL
    go_wp2_with fail
    go_ret2
    rw [HRR.out.1, HRR.out.2.1, HRR.out.2.2]
    exact ⟨_, rfl, World.ownsRow_nil _ _ _ _, HB03.out⟩
  have HRR := hid (HYES.out (by rw [hok]; simp [hkl2]))
  have hne : ((rv.length : Int) != (kk : Int)) = false := by simp; omega
  have HKL2 := hid hkl2
  clear hok HNO HYES q0 q1 d0 d1 HPT hkl2
  go_wp2_with fail
  go_loopw [13, 14, 15] (fun s j i wz => ∃ r : Nat, r ≤ n ∧ i = .int .i64 r ∧ j = .int .i64 (r - rankN ws r : Nat) ∧ Hid (wz.ownsRow w3.heap.size 38 3 s r (cellsUp (cA ws) (cB ws rv) (cC ws rv) r)) ∧ Hid (Below w3.heap.size w3 wz)) (fun _ _ i _ => n - (intOf i).toNat)
  case atStart => exact ⟨0, by omega, rfl, by simp, hid ⟨by simp [cellsUp], .inl ⟨rfl, rfl⟩⟩, hid (brefl w3)⟩
  case round =>
    obtain ⟨r, hrn, rfl, rfl, HOWN, HBW⟩ := hrel
    obtain ⟨A2, c2, rfl⟩ := owns3_form HOWN.out
    have hszw := HBW.out.size
    by_cases hlt : r < n
    · have HST : Hid (cellsUp (cA ws) (cB ws rv) (cC ws rv) (r + 1) = cellsUp (cA ws) (cB ws rv) (cC ws rv) r ++ [.bool (cA ws r), .int .i64 (cB ws rv r), .string (cC ws rv r)]) := hid rfl
      have HBIr := hid (HBI1.out wr r (by omega) (Below.then' HB3.out HBW.out hsz3))
      have HCA : Hid (cA ws r = bitOf ws r) := hid rfl
      have HCB : Hid (cB ws rv r = if bitOf ws r = true then 0 else (rv.getD (r - rankN ws r) dfP).1) := hid rfl
      have HCC : Hid (cC ws rv r = if bitOf ws r = true then ByteArray.empty else (rv.getD (r - rankN ws r) dfP).2) := hid rfl
      have hrs := rankN_succ ws r
      have hrl := rankN_le ws r
      have hmono := rank_mono ws (r + 1) n (by omega)
      rw [HKN0.out n rfl] at hmono
      rw [HCA.out, HCB.out, HCC.out] at HST
      obtain ⟨bit, hbit⟩ : ∃ bit, bitOf ws r = bit := ⟨_, rfl⟩
      rw [hbit] at HBIr HST hrs
      clear HCA HCB HCC hbit
      obtain ⟨j, hj⟩ : ∃ j, r - rankN ws r = j := ⟨_, rfl⟩
      rw [hj] at HST ⊢
      cases bit
      · simp only [Bool.false_eq_true, if_false, Nat.add_zero] at hrs HST
        have hjk : j < kk := by omega
        obtain ⟨b', o', hDD, hcells⟩ := (HRD.out.mono HBW.out).atP (by rw [HKL2.out]; omega)
        subst hDD
        obtain ⟨l0, l1, l2⟩ := hcells j (by rw [HKL2.out]; exact hjk)
        have hjn : r + 1 - rankN ws (r + 1) = j + 1 := by omega
        have HJN := hid hjn
        have hlen : (j : Int) < (rv.length : Int) := by have := HKL2.out; omega
        clear hcells hrs hrl hmono hj hjn
        generalize rv.getD j dfP = X at *
        obtain ⟨xi, xs'⟩ := X
        simp only at l1 l2 HST
        generalize rv.length = rl at *
        go_wp2_with (first
          | (go_at_call 27; refine HBIr.out.mono ?_; rintro e w4 ⟨rfl, hw⟩; replace hw := hw.symm; subst hw)
          | (at_builtin; refine wpList_append3 rfl (.tmp 86) (.tmp 91) rfl 38 [.bool false, .int .i64 0, .string ByteArray.empty] 32 Tryz.underlying26 Tryz.infoCell rfl rfl rfl HOWN.out hszw (by intro u hu; simp at hu; rcases hu with rfl | rfl | rfl <;> rfl) (by unfold maxLen; omega) (by omega) ?_; intro v' w' ho hb3))
        go_roundw
        case rel =>
          have HOC2 := hid ho
          rw [← HST.out] at HOC2
          exact ⟨r + 1, by omega, by go_num, by rw [HJN.out]; go_num, HOC2, hid (Below.trans HBW.out hb3)⟩
        case measure => simp [intOf]; omega
      · simp only [if_true] at hrs HST
        have hjn : r + 1 - rankN ws (r + 1) = j := by omega
        have HJN := hid hjn
        clear hrs hrl hmono hj hjn
        go_wp2_with (first
          | (go_at_call 27; refine HBIr.out.mono ?_; rintro e w4 ⟨rfl, hw⟩; replace hw := hw.symm; subst hw)
          | (at_builtin; refine wpList_append3 rfl (.tmp 82) (.tmp 84) rfl 38 [.bool false, .int .i64 0, .string ByteArray.empty] 32 Tryz.underlying26 Tryz.infoCell rfl rfl rfl HOWN.out hszw (by intro u hu; simp at hu; rcases hu with rfl | rfl | rfl <;> rfl) (by unfold maxLen; omega) (by omega) ?_; intro v' w' ho hb3))
        go_roundw
        case rel =>
          have HOC2 := hid ho
          rw [show ({ data := #[] } : ByteArray) = ByteArray.empty from rfl, ← HST.out] at HOC2
          exact ⟨r + 1, by omega, by go_num, by rw [HJN.out], HOC2, hid (Below.trans HBW.out hb3)⟩
        case measure => simp [intOf]; omega
    · obtain rfl : r = n := by omega
      go_wp2_with fail
      go_ret2
      rw [HRR.out.1, HRR.out.2.1, HRR.out.2.2, HCL.out]
      exact ⟨_, rfl, owns3_mono HOWN.out (Nat.le_trans hsz1 hsz3), Below.then' HB03.out HBW.out (Nat.le_trans hsz1 hsz3)⟩
end Go.Proofs.YtdlkdiaobbakiaaGreatDoor
