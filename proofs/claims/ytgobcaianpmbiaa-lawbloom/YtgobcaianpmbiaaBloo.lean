/- Package format: Bloom and BloomHas. -/
import Derived.Test.YtgobcaianpmbiaaBl
set_option linter.unusedVariables false
set_option linter.unusedSimpArgs false
set_option linter.unnecessarySimpa false
set_option maxRecDepth 20000
namespace Go.Proofs.Ytgobcaianpmbiaa
open Go.RowKit

/-- which places of a filter of n words do these cells set? -/
def marks (k : Int) (cs : List C3) (hs n j : Nat) : Bool := cs.any fun c => !c.n && decide (j ∈ placesN (hashC k c) hs n)
theorem marks_nil (k : Int) (hs n j : Nat) : marks k [] hs n j = false := rfl
theorem marks_succ (k : Int) (cs : List C3) (hs n t j : Nat) (ht : t < cs.length) : marks k (cs.take (t + 1)) hs n j = (marks k (cs.take t) hs n j || (!(cs.getD t C3.df).n && decide (j ∈ placesN (hashC k (cs.getD t C3.df)) hs n))) := by
  unfold marks
  rw [List.take_succ_eq_append_getElem ht, List.any_append]; simp [List.getD, List.getElem?_eq_getElem ht]
def bloomOk (k : Int) (cs : List C3) (hs ws : Int) : Bool := areC k cs && isFil ws hs
def bloomW (k : Int) (cs : List C3) (hs ws : Int) : List Nat := if bloomOk k cs hs ws = true then bmL ((List.range (64 * ws.toNat)).map (marks k cs hs.toNat ws.toNat)) else []
theorem nWords_64 (n : Nat) : L.nWords 1 (64 * n) = n := by rw [nWords1]; omega
theorem marks_bm (k : Int) (cs : List C3) (hs n : Nat) (zs : List Nat) (hl : zs.length = n) (hv : ∀ x ∈ zs, x < 18446744073709551616) (hb : ∀ j, bitOf zs j = marks k cs hs n j) : zs = bmL ((List.range (64 * n)).map (marks k cs hs n)) := by
  refine IsBm.eq_bmL ⟨by rw [nWords_64]; exact hl, hv, fun i hi => ?_⟩
  rw [hb i]
  have : i < 64 * n := by omega
  simp [this]
theorem zeros_bit (q j : Nat) : bitOf (List.replicate q 0) j = false := by
  unfold bitOf
  have : (List.replicate q 0).getD (j / 64) 0 = 0 := by
    simp only [List.getD, List.getElem?_replicate]; split <;> rfl
  rw [this, Nat.zero_testBit]
theorem ofK_size {k : Int} {c : C3} (h : ofK k c = true) : c.s.size ≤ 1024 := by
  have h0 : c.s.toList.isEmpty = true → c.s.size ≤ 1024 := by
    intro he
    rw [ByteArray.toList_eq] at he
    have : c.s.data.toList = [] := by simpa using he
    have h2 : c.s.data.toList.length = 0 := by rw [this]; rfl
    have h3 : c.s.size = c.s.data.toList.length := by rw [Array.length_toList]; rfl
    omega
  unfold ofK at h
  split at h
  · simp only [Bool.and_eq_true] at h; exact h0 h.2.2
  · split at h
    · exact h0 h
    · simp only [decide_eq_true_eq] at h; exact h.2.2
set_option maxHeartbeats 2000000 in
theorem Bloom_any (v : Value) (cs : List C3) (k hs ws : Int) (w : World) (hx : Rd w v cs.length 3 (cells3 cs)) (hl : cs.length ≤ 17592186044416) :
    Calls Try.prog 6 #[.int .i64 k, v, .int .i64 hs, .int .i64 ws] w fun e w' => ∃ r, e = .returned (.tuple #[r, .bool (bloomOk k cs hs ws)]) ∧ Rd w' r (bloomW k cs hs ws).length 1 (u64s (bloomW k cs hs ws)) ∧ Below w.heap.size w w' := by
  have HA := hid (fun w2 : World => fun h2 : Below w.heap.size w w2 => areCells_any v cs k w2 (hx.mono h2) hl)
  have HF := hid (fun w2 : World => isFilter_any ws hs w2)
  obtain ⟨A, ca, rfl, hlc, hcm, hA⟩ := hx.form
  clear hx
  obtain ⟨n, hn⟩ : ∃ n, cs.length = n := ⟨_, rfl⟩
  have HN := hid hn
  rw [hn] at hlc hA hl HA ⊢
  clear hn
  obtain ⟨R, hR⟩ : ∃ R, bloomOk k cs hs ws = R := ⟨_, rfl⟩
  obtain ⟨W, hW⟩ : ∃ W, bloomW k cs hs ws = W := ⟨_, rfl⟩
  rw [hR, hW]
  have HW := hid hW
  have hR2 := hR
  unfold bloomOk at hR2
  have HBAD : Hid (R = false → W = []) := hid (fun h => by rw [← HW.out, bloomW, if_neg (by rw [hR, h]; simp)])
  have HGOOD : Hid (R = true → W = bmL ((List.range (64 * ws.toNat)).map (marks k cs hs.toNat ws.toNat))) := hid (fun h => by rw [← HW.out, bloomW, if_pos (by rw [hR, h])])
  clear hW HW hR
  cases ha : areC k cs
  · have hr0 : R = false := by rw [← hR2, ha]; rfl
    subst hr0
    rw [ha] at HA
    have hw0 := HBAD.out rfl
    subst hw0
    clear HBAD HGOOD hR2 hA ha
    go_enter Try.func6, Try.ntmps6
    go_wp2_with (go_at_call 21; refine (HA.out _ (by exact Below.refl _ _)).mono ?_; rintro e w1 ⟨rfl, hb1⟩; have HB1 := hid hb1; clear hb1)
    go_ret2
    exact ⟨_, rfl, ⟨rfl, .inl ⟨⟨_, rfl⟩, rfl⟩⟩, HB1.out⟩
  rw [ha] at HA hR2
  cases hf : isFil ws hs
  · have hr0 : R = false := by rw [← hR2, hf]; rfl
    subst hr0
    rw [hf] at HF
    have hw0 := HBAD.out rfl
    subst hw0
    clear HBAD HGOOD hR2 hA ha hf
    go_enter Try.func6, Try.ntmps6
    go_wp2_with (first | (go_at_call 21; refine (HA.out _ (by exact Below.refl _ _)).mono ?_; rintro e w1 ⟨rfl, hb1⟩; have HB1 := hid hb1; clear hb1) | (go_at_call 22; refine (HF.out _).mono ?_; rintro e w1 ⟨rfl, hw⟩; replace hw := hw.symm; subst hw))
    go_ret2
    exact ⟨_, rfl, ⟨rfl, .inl ⟨⟨_, rfl⟩, rfl⟩⟩, HB1.out⟩
  rw [hf] at HF hR2
  have hr0 : R = true := by rw [← hR2]; rfl
  subst hr0
  have hw0 := HGOOD.out rfl
  subst hw0
  have hfl : 1 ≤ ws ∧ ws ≤ 64 ∧ 1 ≤ hs ∧ hs ≤ 8 := by unfold isFil at hf; simpa using hf
  have HOFK : Hid (∀ t, t < n → ofK k (cs.getD t C3.df) = true) := hid (fun t ht => by
    unfold areC at ha
    simp only [Bool.and_eq_true, List.all_eq_true] at ha
    have hq : t < cs.length := by rw [HN.out]; exact ht
    exact ha.2 _ (by simp [List.getD, List.getElem?_eq_getElem hq]))
  clear HBAD HGOOD hR2 ha hf
  obtain ⟨m, rfl⟩ := Int.eq_ofNat_of_zero_le (show 0 ≤ ws by omega)
  obtain ⟨q, rfl⟩ := Int.eq_ofNat_of_zero_le (show 0 ≤ hs by omega)
  rw [Int.toNat_natCast, Int.toNat_natCast]
  have hm1 : 1 ≤ m := by omega
  have hm2 : m ≤ 64 := by omega
  have hq2 : q ≤ 8 := by omega
  clear hfl
  go_enter Try.func6, Try.ntmps6
  go_wp2_with (first | (go_at_call 21; refine (HA.out _ (by exact Below.refl _ _)).mono ?_; rintro e w1 ⟨rfl, hb1⟩; have HB1 := hid hb1; have hs1 := hb1.size; clear hb1) | (go_at_call 22; refine (HF.out _).mono ?_; rintro e w1 ⟨rfl, hw⟩; replace hw := hw.symm; subst hw))
  refine upon_make 50 (.int .u64 0) 8 Try.underlying23 Try.info45 rfl m (by omega) (by omega) (by omega) (by unfold maxLen; omega) ?_
  intro w2 hrow hb2 hsz2
  have hrow2 : Row w2 w1.heap.size 50 (u64s (List.replicate m 0)) := by
    have e : u64s (List.replicate m 0) = List.replicate m (.int .u64 0) := by simp [u64s, u64]
    rw [e]; exact hrow
  have HROW := hid hrow2
  have HB2 : Hid (Below w.heap.size w w2) := hid (Below.then' HB1.out hb2 hs1)
  have hs2 : w1.heap.size < w2.heap.size := by omega
  have hgw : w.heap.size ≤ w1.heap.size := hs1
  clear hrow hrow2 hb2 hsz2 HB1
  generalize hg : w1.heap.size = g at *
  go_wp2
  go_loopw [27] (fun i wr => ∃ (t : Nat) (zs : List Nat), t ≤ n ∧ i = .int .i64 t ∧ Hid (Row wr g 50 (u64s zs)) ∧ Hid (zs.length = m ∧ ∀ x ∈ zs, x < 18446744073709551616) ∧ Hid (∀ j, bitOf zs j = marks k (cs.take t) q m j) ∧ Hid (Below w.heap.size w wr) ∧ g < wr.heap.size) (fun i _ => n - (intOf i).toNat)
  case atStart => exact ⟨0, List.replicate m 0, by omega, rfl, HROW, hid ⟨by simp, by intro x hx; rw [List.eq_of_mem_replicate hx]; omega⟩, hid (by intro j; rw [zeros_bit]; rfl), HB2, hs2⟩
  case round =>
    obtain ⟨t, zs, ht, rfl, hrow, hz, hbits, hb, hgs⟩ := hrel
    by_cases hlt : t < n
    · have htl : t < cs.length := by rw [HN.out]; exact hlt
      obtain ⟨b, o, rfl, hs'⟩ := hA (by omega)
      obtain ⟨c0, c1, c2⟩ := (hs'.mono (hb.out.mono (Nat.le_refl _))).c3 t htl
      have HSU : Hid (∀ j, _ = _) := hid (fun j => marks_succ k cs q m t j htl)
      have HSZ := hid (ofK_size (HOFK.out t hlt))
      clear hs' hA htl HROW HB2
      generalize cs.getD t C3.df = c at *
      have HH := hid (fun w2 : World => hashOf_any k c w2 HSZ.out)
      have hlt64 : hashC k c < 18446744073709551616 := hashL_lt _
      generalize hashC k c = h at *
      have HAD := hid (fun w2 : World => fun hr : Row w2 g 50 (u64s zs) => addHash_any g m m q h zs w2 hr hz.out.1 (Nat.le_refl _) hm1 hm2 hq2 hlt64 hz.out.2)
      obtain ⟨x, y, z⟩ := c
      unfold C3.v at HH
      simp only at c0 c1 c2 HH HSU HSZ
      have hbs := hb.out.size
      cases x
      · go_wp2_with (go_at_call 24; refine (HH.out _).mono ?_; rintro e w3 ⟨rfl, hb3⟩; have HB3 := hid hb3; clear hb3)
        have hba : Below wr.heap.size wr (wr.alloc (.cells #[.bool false, .int .i64 y, .string z] 25)) := (Below.refl _ _).alloc (Nat.le_refl _) _
        have hb4 : Below wr.heap.size wr w3 := Below.then' hba HB3.out (by simp)
        have hs4 := hb4.size
        have hrow3 := hrow.out.mono hb4
        have HB5 : Hid (Below w.heap.size w w3) := hid (Below.then' hb.out hb4 hbs)
        clear hba hb4
        refine (HAD.out w3 hrow3).mono ?_
        rintro e w4 ⟨rfl, zs', hr4, hl4, hv4, hbt4, hbel4, hsz4, _⟩
        have HR4 := hid hr4; have HL4 := hid hl4; have HV4 := hid hv4; have HBT4 := hid hbt4; have HBEL4 := hid hbel4; have HSZ4 := hid hsz4
        clear hr4 hl4 hv4 hbt4 hbel4 hsz4 hrow3
        go_wp2_with fail
        go_roundw
        case rel =>
          refine ⟨t + 1, zs', by omega, by go_num, HR4, hid ⟨HL4.out, HV4.out⟩, hid (fun j => by rw [HBT4.out, HSU.out, hbits.out]; simp), hid (HB5.out.trans (HBEL4.out.mono hgw)), ?_⟩
          have := HSZ4.out; omega
        case measure => simp [intOf]; omega
      · go_wp2_with fail
        go_roundw
        case rel =>
          refine ⟨t + 1, zs, by omega, by go_num, hid (hrow.out.mono ((Below.refl _ _).alloc (Nat.le_refl _) _)), hz, hid (fun j => by rw [HSU.out, hbits.out]; simp), hid (hb.out.alloc hbs _), by simp; omega⟩
        case measure => simp [intOf]; omega
    · obtain rfl : t = n := by omega
      have HT : Hid (zs = bmL ((List.range (64 * m)).map (marks k cs q m))) := hid (marks_bm k cs q m zs hz.out.1 hz.out.2 (fun j => by rw [hbits.out, List.take_of_length_le (by rw [HN.out]; exact Nat.le_refl _)]))
      go_wp2
      go_ret2
      refine ⟨_, rfl, ?_, hb.out⟩
      rw [← HT.out, hz.out.1]
      exact hrow.out.rd' (by rw [u64s_length, hz.out.1]) (by unfold maxLen; omega)
end Go.Proofs.Ytgobcaianpmbiaa
