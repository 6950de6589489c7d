/- The plain answer's Bloom and BloomHas; the code's BloomHas. -/
import Derived.Test.YtgobcaianpmbiaaBloo
import Derived.Test.YtgobcaianpmbiaaRefd
import Derived.Test.YtgobcaianpmbiaaLayI
set_option linter.unusedVariables false
set_option linter.unusedSimpArgs false
set_option linter.unnecessarySimpa false
set_option maxRecDepth 20000
namespace Go.Proofs.Ytgobcaianpmbiaa
open Go.RowKit

def placesI (h k n : Nat) : List Int := (placesN h k n).map fun p : Nat => (p : Int)
theorem placesI_length (h k n : Nat) : (placesI h k n).length = k := by simp [placesI, placesN]
theorem placesI_succ (h k n : Nat) : placesI h (k + 1) n = placesI h k n ++ [(placeN h k n : Int)] := by rw [placesI, placesN_succ]; simp [placesI]
theorem placesI_get (h k n t : Nat) (ht : t < k) : (placesI h k n).getD t 0 = (placeN h t n : Int) := by
  simp [placesI, placesN, List.getD, List.getElem?_range ht]
theorem i64s_snoc (xs : List Int) (n : Int) : i64s (xs ++ [n]) = i64s xs ++ [.int .i64 n] := by simp [i64s, i64]
theorem bytesC_len (k : Int) (c : C3) (h : c.s.size ≤ maxLen) : (bytesC k c).length ≤ maxLen := by
  unfold bytesC; split
  · rw [sbs_length]; exact h
  · rw [leN_length]; unfold maxLen; omega
set_option maxHeartbeats 2000000 in
theorem placesOf_any (k : Int) (c : C3) (hs ws : Nat) (w : World) (hk : k = 1 ∨ k = 2) (hsz : c.s.size ≤ maxLen) (hh : hs ≤ 8) (hw : 0 < ws) (hw2 : ws ≤ 64) :
    Calls Try.prog 27 #[c.v, .int .i64 k, .int .i64 hs, .int .i64 ws] w fun e w' => ∃ r, e = .returned r ∧ w'.ownsRow w.heap.size 3 1 r hs (i64s (placesI (hashC k c) hs ws)) ∧ Below w.heap.size w w' := by
  have HBO := hid (fun w2 : World => bytesOf_any k c w2 hk hsz)
  unfold hashC
  have hbl2 : (bytesC k c).length ≤ maxLen := bytesC_len k c hsz
  have hbl := hid (bytesC_lt k c)
  generalize bytesC k c = bs at *
  unfold maxLen at hbl2
  obtain ⟨n, hn⟩ : ∃ n, bs.length = n := ⟨_, rfl⟩
  have HN := hid hn
  rw [hn] at hbl2 HBO
  clear hn
  obtain ⟨b, i, s⟩ := c
  unfold C3.v at *
  simp only at *
  clear hsz hk
  go_enter Try.func27, Try.ntmps27
  go_wp2_with (go_at_call 45; refine (HBO.out _).mono ?_; rintro e w1 ⟨r, rfl, ho, hb1⟩; obtain ⟨A, ca, rfl, _, _, hA⟩ := ho.form; have HA := hid hA; have HB1 := hid hb1; have hs1 := hb1.size; clear ho hb1 hA)
  go_loopw [9, 19] (fun h i wr => ∃ t : Nat, t ≤ n ∧ i = .int .i64 t ∧ h = .int .u64 (hashL (bs.take t) : Nat) ∧ wr = w1) (fun _ i _ => n - (intOf i).toNat)
  case atStart => exact ⟨0, by omega, rfl, rfl, rfl⟩
  case round =>
    obtain ⟨t, ht, rfl, rfl, rfl⟩ := hrel
    have hlt64 := hashL_lt (bs.take t)
    by_cases hlt : t < n
    · obtain ⟨b, o, rfl, hs'⟩ := HA.out (by omega)
      have htl : t < bs.length := by rw [HN.out]; exact hlt
      have hc := hs'.byte t htl
      have hb256 := hbl.out (bs.getD t 0) (by simp [List.getD, List.getElem?_eq_getElem htl])
      have HS : Hid (hashL (bs.take (t + 1)) = hashB (hashL (bs.take t)) (bs.getD t 0)) := by
        refine hid ?_
        rw [List.take_succ_eq_append_getElem htl, hashL_snoc]; simp [List.getD, List.getElem?_eq_getElem htl]
      generalize bs.getD t 0 = y at *
      generalize hashL (bs.take t) = h at *
      have hx : bits BinOp.xor IntKind.u64 (h : Int) (y : Int) = ((h ^^^ y : Nat) : Int) := u64_xor_nat _ _ hlt64 (by omega)
      have hr : IntKind.u64.wrap (((h ^^^ y : Nat) : Int) * 1099511628211) = ((hashB h y : Nat) : Int) := by rw [IntKind.wrap_u64]; unfold hashB; omega
      generalize (h ^^^ y : Nat) = x at *
      clear hs' htl
      go_wp2
      go_roundw
      case rel => exact ⟨t + 1, by omega, by go_num, by rw [HS.out], by first | rfl | trivial⟩
      case measure => simp [intOf]; omega
    · obtain rfl : t = n := by omega
      have e8 : bs.take t = bs := List.take_of_length_le (by rw [HN.out]; exact Nat.le_refl _)
      obtain ⟨h, hh⟩ : ∃ h, hashL bs = h := ⟨_, rfl⟩
      rw [e8, hh] at hlt64 ⊢
      have HH := hid hh
      clear e8 HN hh
      obtain ⟨lo, hlo⟩ : ∃ lo, h % 4294967296 = lo := ⟨_, rfl⟩
      have hloi : (h : Int) % 4294967296 = (lo : Int) := by omega
      have hlo2 : lo < 4294967296 := by omega
      have hor : bits BinOp.or IntKind.u64 ((h : Int) / 4294967296) 1 = ((h / 4294967296 ||| 1 : Nat) : Int) := by
        have := u64_or_nat (h / 4294967296) 1 (by omega) (by decide)
        rw [← this]; congr 1
      have hor2 : (h / 4294967296 ||| 1) < 4294967296 := Nat.or_lt_two_pow (n := 32) (by omega) (by decide)
      have HPN : Hid (∀ t, placeN h t ws = (lo + t * (h / 4294967296 ||| 1)) % (64 * ws)) := hid (fun t => by rw [placeN, hlo])
      have HSU := hid (fun t => placesI_succ h t ws)
      clear hlo
      generalize (h / 4294967296 ||| 1) = st at *
      have hws0 : ((64 : Int) * (ws : Int) == 0) = false := by simp; omega
      have HB2 : Hid (Below w.heap.size w wr) := hid (Below.then' ((brefl w).alloc (Nat.le_refl _) _) HB1.out (by simp))
      clear HB1 hs1
      go_wp2
      go_loopw [12, 14] (fun l i wv => ∃ t : Nat, t ≤ hs ∧ i = .int .i64 t ∧ Hid (wv.ownsRow w.heap.size 3 1 l t (i64s (placesI h t ws))) ∧ Hid (Below w.heap.size w wv)) (fun _ i _ => hs - (intOf i).toNat)
      case atStart => exact ⟨0, by omega, rfl, hid (World.ownsRow_nil _ _ _ _), HB2⟩
      case round =>
        obtain ⟨t, ht, rfl, hown, hb⟩ := hrel
        by_cases hlt : t < hs
        · obtain ⟨pr, hpr⟩ : ∃ pr : Nat, t * st = pr := ⟨_, rfl⟩
          have hpri : (t : Int) * (st : Int) = (pr : Int) := by rw [← hpr]; simp
          have hpr1 : pr ≤ 8 * 4294967296 := by
            rw [← hpr]; exact Nat.mul_le_mul (by omega) (by omega)
          obtain ⟨q, hq⟩ : ∃ q : Nat, (lo + pr) % (64 * ws) = q := ⟨_, rfl⟩
          have hqi : ((lo : Int) + (pr : Int)) % (64 * (ws : Int)) = (q : Int) := by rw [← hq]; simp
          have hq1 : q < 4096 := by rw [← hq]; have := Nat.mod_lt (lo + pr) (show 0 < 64 * ws by omega); omega
          have HQ : Hid (placeN h t ws = q) := hid (by rw [HPN.out, hpr, hq])
          have HBS := hid hb.out.size
          clear hpr hq
          go_wp2_with (at_builtin; refine wpList_append1 rfl (.tmp 39) (.tmp 52) rfl 3 (.int .i64 0) 8 Try.underlying34 Try.infoI64 rfl rfl rfl hown.out HBS.out (by rfl) (by unfold maxLen; omega) (by omega) ?_; intro v' w' ho hb3 _)
          go_roundw
          case rel =>
            refine ⟨t + 1, by omega, by go_num, hid ?_, hid (hb.out.trans hb3)⟩
            rw [HSU.out, HQ.out, i64s_snoc]
            exact ho
          case measure => simp [intOf]; omega
        · obtain rfl : t = hs := by omega
          go_wp2
          go_ret
          rw [HH.out]
          exact ⟨_, rfl, hown.out, hb.out⟩
end Go.Proofs.Ytgobcaianpmbiaa
