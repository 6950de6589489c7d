/- The plain answer's lists of numbers; its need and its kindOK. -/
import Derived.Test.YtdlkdiaobbakiaaGreatDoorRefn
set_option linter.unusedVariables false
set_option linter.unusedSimpArgs false
set_option linter.unnecessarySimpa false
set_option maxRecDepth 100000
namespace Go.Proofs.YtdlkdiaobbakiaaGreatDoor
open Go.RowKit

theorem kindOK_any (k : Int) (w : World) : Calls Tryz.prog 22 #[.int .i64 k] w fun e w' => e = .returned (.bool (isKind k)) ∧ w' = w := by
  go_enter Tryz.func22, Tryz.ntmps22
  go_wp2
  all_goals go_ret
  all_goals refine ⟨ret_bool ?_, rfl⟩
  all_goals by_cases h1 : k = 1 <;> by_cases h2 : k = 2 <;> simp_all [isKind]

def numsOk (size count p n : Nat) : Bool := decide (p ≤ n ∧ size * count ≤ n - p)
theorem nums_part (size count p : Nat) (xs : List Nat) (h : p ≤ xs.length ∧ size * count ≤ xs.length - p) (i : Nat) (hi : i < count) :
    ((tk (size * count) (xs.drop p)).drop (size * i)).take size = (xs.drop (p + size * i)).take size := by
  have h1 : size * i + size ≤ size * count := by rw [← Nat.mul_succ]; exact Nat.mul_le_mul_left _ hi
  unfold tk
  rw [if_pos (by rw [List.length_drop]; exact h.2), List.drop_take, List.take_take, List.drop_drop, Nat.min_eq_left (by omega)]
theorem numsL_snoc (size count p : Nat) (xs : List Nat) (h0 : 0 < size) (h : p ≤ xs.length ∧ size * count ≤ xs.length - p) (i : Nat) (hi : i < count) :
    (numL size (tk (size * count) (xs.drop p))).take (i + 1) = (numL size (tk (size * count) (xs.drop p))).take i ++ [L.wordOf 8 ((xs.drop (p + size * i)).take size)] := by
  have hlen : (numL size (tk (size * count) (xs.drop p))).length = count := by
    rw [numL_length]; unfold tk; rw [if_pos (by rw [List.length_drop]; exact h.2), List.length_take, List.length_drop, Nat.min_eq_left (by omega)]
    exact Nat.mul_div_cancel_left _ h0
  rw [List.take_succ_eq_append_getElem (by omega)]
  congr 2
  unfold numL
  rw [List.getElem_map, List.getElem_range, nums_part size count p xs h i hi]

set_option maxHeartbeats 2000000 in
theorem numbersAt_any (v : Value) (xs : List Nat) (p size count : Nat) (w : World) (hx : Rd w v xs.length 1 (u8s xs)) (hb : ∀ x ∈ xs, x < 256) (hl : xs.length ≤ 1048576) (hs : size = 4 ∨ size = 8) (hp : p ≤ 1099511627776) (hc : count ≤ 4294967296) :
    Calls Tryz.prog 23 #[v, .int .i64 p, .int .i64 size, .int .i64 count] w fun e w' =>
      ∃ u, e = .returned (.tuple #[u, .int .i64 (if numsOk size count p xs.length = true then p + size * count else 0 : Nat), .bool (numsOk size count p xs.length)]) ∧
        w'.ownsRow w.heap.size 68 1 u (numL size (tk (size * count) (xs.drop p))).length (u64s (numL size (tk (size * count) (xs.drop p)))) ∧ Below w.heap.size w w' := by
  obtain ⟨A, ca, rfl, hlc, hcm, hA⟩ := hx.form
  clear hA
  have h0 : 0 < size := by omega
  by_cases hok : p ≤ xs.length ∧ size * count ≤ xs.length - p
  · have hno : numsOk size count p xs.length = true := by unfold numsOk; simpa using hok
    rw [hno, if_pos rfl]
    have hlen : (numL size (tk (size * count) (xs.drop p))).length = count := by
      rw [numL_length]; unfold tk; rw [if_pos (by rw [List.length_drop]; exact hok.2), List.length_take, List.length_drop, Nat.min_eq_left (by omega)]
      exact Nat.mul_div_cancel_left _ h0
    have HSN := hid (numsL_snoc size count p xs h0 hok)
    have HX := hid hx
    have hcl : count ≤ 1048576 := by rcases hs with rfl | rfl <;> omega
    have h1 : ¬ (count : Int) < 0 := by omega
    have h2 : ¬ (p : Int) < 0 := by omega
    have h3 : ¬ (p : Int) > (xs.length : Int) := by omega
    have h4 : ¬ (count : Int) > ((xs.length : Int) - (p : Int)) / (size : Int) := by rcases hs with rfl | rfl <;> omega
    obtain ⟨M, hM⟩ : ∃ M, numL size (tk (size * count) (xs.drop p)) = M := ⟨_, rfl⟩
    rw [hM] at hlen HSN ⊢
    have hfin : (count : Int) * (size : Int) = ((size * count : Nat) : Int) := by rw [Nat.mul_comm]; simp
    obtain ⟨sc, hsc⟩ : ∃ sc, size * count = sc := ⟨_, rfl⟩
    rw [hsc] at hok hfin ⊢
    have hscl : sc ≤ 1048576 := by omega
    obtain ⟨B, hB⟩ : ∃ B, w.heap.size = B := ⟨_, rfl⟩
    have HBE := hid hB
    rw [hB]
    clear hx hno hM hB
    go_enter Tryz.func23, Tryz.ntmps23
    go_wp2
    go_loopw [11, 12] (fun u i wr => ∃ j : Nat, j ≤ count ∧ i = .int .i64 j ∧ wr.ownsRow B 68 1 u j (u64s (M.take j)) ∧ Below w.heap.size w wr) (fun _ i _ => count - (intOf i).toNat)
    case atStart => exact ⟨0, by omega, rfl, by simpa [u64s] using World.ownsRow_nil _ _ _ _, Below.refl _ _⟩
    case round =>
      obtain ⟨j, hj, rfl, hown, hbw⟩ := hrel
      have HOWN := hid hown
      obtain ⟨A2, c2, rfl, _, _, _⟩ := owns_form hown
      clear hown
      by_cases hlt : j < count
      · obtain ⟨q, hq⟩ : ∃ q, p + size * j = q := ⟨_, rfl⟩
        have hmul : (j : Int) * (size : Int) = ((size * j : Nat) : Int) := by rw [Nat.mul_comm]; simp
        have hsj : size * j + size ≤ sc := by rw [← hsc, ← Nat.mul_succ]; exact Nat.mul_le_mul_left _ hlt
        have hq' : (p : Int) + ((size * j : Nat) : Int) = (q : Int) := by omega
        have hnum1 : q ≤ xs.length := by omega
        have hnum2 : size ≤ xs.length - q := by omega
        have hnum : numOk size q xs.length = true := by unfold numOk; exact decide_eq_true ⟨hnum1, hnum2⟩
        have HN := hid (numberAt_any _ xs q size wr (HX.out.mono hbw) hb hl (by omega) (by omega))
        rw [hnum, if_pos rfl] at HN
        have HST := hid (HSN.out j hlt)
        rw [hq] at HST
        have hsjl : size * j ≤ 1048576 := by omega
        generalize L.wordOf 8 ((xs.drop q).take size) = x at *
        generalize size * j = sj at *
        clear hnum hq
        have hBw : B ≤ wr.heap.size := by have := HBE.out; have := hbw.size; omega
        go_wp2_with (first
          | (go_at_call 46; refine HN.out.mono ?_; rintro e w3 ⟨rfl, hw⟩; replace hw := hw.symm; subst hw)
          | (at_builtin; refine wpList_append1 rfl (.tmp 53) (.tmp 55) rfl 68 (.int .u64 0) 8 Tryz.underlying47 Tryz.info45 rfl rfl rfl HOWN.out hBw (by rfl) (by unfold maxLen; omega) (by omega) ?_; intro v' w' ho hb3 _))
        go_roundw
        case rel =>
          refine ⟨j + 1, by omega, by go_num, ?_, hbw.trans (hb3.mono (by have := HBE.out; omega))⟩
          rw [HST.out, u64s_append]
          exact ho
        case measure => simp [intOf]; omega
      · obtain rfl : j = count := by omega
        go_wp2
        refine bodyPost_ret (v := .tuple #[.slice A2 j c2, .int .i64 ((p + sc : Nat) : Int), .bool true]) ?_ rfl ⟨_, rfl, ?_, by rw [← HBE.out]; exact hbw⟩
        · simp [results, Tryz.results23, go_sem]
        have := HOWN.out
        rw [← hlen, List.take_length] at this
        rw [hlen] at this ⊢
        exact this
  · have hno : numsOk size count p xs.length = false := by unfold numsOk; simpa using hok
    rw [hno, if_neg (by simp)]
    have hM : numL size (tk (size * count) (xs.drop p)) = [] := by
      unfold tk numL
      by_cases h2 : p ≤ xs.length
      · rw [if_neg (by rw [List.length_drop]; exact fun h => hok ⟨h2, h⟩)]; simp
      · rw [List.drop_of_length_le (by omega)]; split <;> simp
    rw [hM]
    have h1 : ¬ (count : Int) < 0 := by omega
    have h2 : ¬ (p : Int) < 0 := by omega
    clear hno hM hx
    go_enter Tryz.func23, Tryz.ntmps23
    by_cases h3 : p ≤ xs.length
    · have h3' : ¬ (p : Int) > (xs.length : Int) := by omega
      have h4 : (count : Int) > ((xs.length : Int) - (p : Int)) / (size : Int) := by rcases hs with rfl | rfl <;> omega
      go_wp2
      refine bodyPost_ret (v := .tuple #[.slice none 0 0, .int .i64 0, .bool false]) ?_ rfl ⟨_, rfl, World.ownsRow_nil _ _ _ _, brefl w⟩
      simp [results, Tryz.results23, go_sem]
    · have h3' : (p : Int) > (xs.length : Int) := by omega
      go_wp2
      refine bodyPost_ret (v := .tuple #[.slice none 0 0, .int .i64 0, .bool false]) ?_ rfl ⟨_, rfl, World.ownsRow_nil _ _ _ _, brefl w⟩
      simp [results, Tryz.results23, go_sem]
end Go.Proofs.YtdlkdiaobbakiaaGreatDoor
