/- The plain answer's numbers off a list of bytes. -/
import Derived.Test.YtdlkdiaobbakiaaGreatDoorLan
set_option linter.unusedVariables false
set_option linter.unusedSimpArgs false
set_option linter.unnecessarySimpa false
set_option maxRecDepth 100000
namespace Go.Proofs.YtdlkdiaobbakiaaGreatDoor
open Go.RowKit

theorem wordOf8_cons (x : Nat) (r : List Nat) : L.wordOf 8 (x :: r) = x + 256 * L.wordOf 8 r := by simp [L.wordOf]
def numOk (size p n : Nat) : Bool := decide (p ≤ n ∧ size ≤ n - p)
set_option maxHeartbeats 1000000 in
theorem numberAt_any (v : Value) (xs : List Nat) (p size : Nat) (w : World) (hx : Rd w v xs.length 1 (u8s xs)) (hb : ∀ x ∈ xs, x < 256) (hl : xs.length ≤ 1048576) (hs : size ≤ 8) (hp : p ≤ 1099511627776) :
    Calls Tryz.prog 46 #[v, .int .i64 p, .int .i64 size] w fun e w' =>
      e = .returned (.tuple #[.int .u64 (if numOk size p xs.length = true then L.wordOf 8 ((xs.drop p).take size) else 0 : Nat), .bool (numOk size p xs.length)]) ∧ w' = w := by
  obtain ⟨A, ca, rfl, hlc, hcm, hA⟩ := hx.form
  clear hx
  by_cases hok : p ≤ xs.length ∧ size ≤ xs.length - p
  · have hno : numOk size p xs.length = true := by unfold numOk; simpa using hok
    rw [hno, if_pos rfl]
    have h1 : ¬ (p : Int) < 0 := by omega
    have h2 : ¬ (p : Int) > (xs.length : Int) := by omega
    have h3 : ¬ (size : Int) > (xs.length : Int) - (p : Int) := by omega
    clear hno
    go_enter Tryz.func46, Tryz.ntmps46
    go_wp2
    go_loop [8, 9] (fun u i => ∃ c : Nat, c ≤ size ∧ i = .int .i64 ((size : Int) - 1 - c) ∧ u = .int .u64 (L.wordOf 8 ((xs.drop (p + (size - c))).take c) : Nat)) (fun _ i => (intOf i + 1).toNat)
    case atStart => exact ⟨0, by omega, by simp, by simp [L.wordOf]⟩
    case round =>
      obtain ⟨c, hc, rfl, rfl⟩ := hrel
      by_cases hlt : c < size
      · obtain ⟨b, o, rfl, hseg⟩ := hA (by omega)
        obtain ⟨q, hq⟩ : ∃ q, p + (size - (c + 1)) = q := ⟨_, rfl⟩
        have hqi : (p : Int) + ((size : Int) - 1 - (c : Int)) = (q : Int) := by omega
        have hql : q < xs.length := by omega
        have c1 := hseg.byte q hql
        have hvb : xs.getD q 0 < 256 := hb _ (by simp [List.getD, List.getElem?_eq_getElem hql])
        have hstep : (xs.drop q).take (c + 1) = xs.getD q 0 :: (xs.drop (p + (size - c))).take c := by
          rw [List.drop_eq_getElem_cons hql, List.take_succ_cons, show p + (size - c) = q + 1 by omega]
          simp [List.getD, List.getElem?_eq_getElem hql]
        have hlt64 : L.wordOf 8 ((xs.drop (p + (size - c))).take c) < 2 ^ (8 * c) := by
          have := L.wordOf_lt 8 ((xs.drop (p + (size - c))).take c) (fun x hx => hb x (List.mem_of_mem_drop (List.mem_of_mem_take hx)))
          rw [List.length_take, List.length_drop, Nat.min_eq_left (by omega)] at this
          exact this
        have hpow : 2 ^ (8 * c) * 256 ≤ 18446744073709551616 := by
          have : 2 ^ (8 * c) * 2 ^ 8 ≤ 2 ^ 64 := by rw [← Nat.pow_add]; exact Nat.pow_le_pow_right (by omega) (by omega)
          simpa using this
        have HST : Hid (L.wordOf 8 ((xs.drop (p + (size - (c + 1)))).take (c + 1)) = xs.getD q 0 + 256 * L.wordOf 8 ((xs.drop (p + (size - c))).take c)) := hid (by rw [hq, hstep, wordOf8_cons])
        have hidx : (size : Int) - 1 - (c : Int) ≥ 0 := by omega
        clear hstep hseg hA hq
        generalize xs.getD q 0 = x at *
        generalize L.wordOf 8 ((xs.drop (p + (size - c))).take c) = a at *
        generalize 2 ^ (8 * c) = pw at *
        go_wp2
        go_round
        case rel => exact ⟨c + 1, by omega, by congr 1; omega, by rw [HST.out]; congr 1; omega⟩
        case measure => simp [intOf]; omega
      · have hidx : ¬ ((size : Int) - 1 - (c : Int) ≥ 0) := by omega
        obtain rfl : c = size := by omega
        go_wp2
        go_ret2
        exact ⟨by simp, rfl⟩
  · have hno : numOk size p xs.length = false := by unfold numOk; simpa using hok
    rw [hno, if_neg (by simp)]
    have h1 : ¬ (p : Int) < 0 := by omega
    clear hno hA
    go_enter Tryz.func46, Tryz.ntmps46
    by_cases h2 : p ≤ xs.length
    · have h2' : ¬ (p : Int) > (xs.length : Int) := by omega
      have h3 : (size : Int) > (xs.length : Int) - (p : Int) := by omega
      go_wp2
      go_ret2
      exact ⟨rfl, rfl⟩
    · have h2' : (p : Int) > (xs.length : Int) := by omega
      go_wp2
      go_ret2
      exact ⟨rfl, rfl⟩
end Go.Proofs.YtdlkdiaobbakiaaGreatDoor
