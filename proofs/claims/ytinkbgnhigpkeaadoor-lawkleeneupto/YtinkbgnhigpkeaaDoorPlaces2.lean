/- bitvec's setPlaces and Indexes. -/
import Derived.Test.YtinkbgnhigpkeaaDoorPlaces
set_option linter.unusedVariables false
set_option linter.unusedSimpArgs false
set_option linter.unnecessarySimpa false
namespace Go.Proofs.YtinkbgnhigpkeaaDoor
open Go.RowKit

theorem upon_make0 {P : Program} {w : World} {o : Oper} {a : Act} {K : Act → World → Prop} {Q : Exit → Act → World → Prop} {t : TypeId} {kl kc : IntKind} {L C : Int}
    (e : TypeId) (z : Value) (bytes : Nat) (h1 : P.underlying t = some (.slice e)) (h2 : (P.info? e).map (fun i => (i.zero, i.size, i.bytes)) = some (some z, 1, bytes)) (hz : z.cells = #[z])
    (n : Nat) (hL : L = 0) (hC : C = (n : Int)) (b2 : bytes * n ≤ 281474976710656) (b3 : n ≤ maxLen)
    (hK : ∀ v' w', w'.ownsRow w.heap.size e 1 v' 0 [] → Below w.heap.size w w' → K (a.put o.dst v') w') :
    o.upon P a K Q ((Sem.run P (Instr.makeSlice t (.int kl L) (.int kc C)) w).andThen fun b w' => Result.ok (Next.value b) w') := by
  obtain ⟨i, hi, hz0, hz1, hz2⟩ := info_parts h2
  subst hL
  subst hC
  have hb : (i.bytes : Int) * (n : Int) ≤ 281474976710656 := by
    have h : ((i.bytes * n : Nat) : Int) ≤ 281474976710656 := by rw [hz2]; omega
    rwa [Int.natCast_mul] at h
  have h63 : (n : Int) ≤ 9223372036854775807 := by
    unfold maxLen at b3; omega
  have hr := run_make (P := P) w t e i z h1 hi hz0 kl kc 0 n (by omega) (by omega) hb h63
  simp only [Int.toNat_natCast, hz1, hz] at hr
  refine upon_ok hr (hK _ _ ?_ ((Below.refl _ _).alloc (Nat.le_refl _) _))
  have hrow : Row (w.alloc (.cells (madeCells #[z] (n * 1)) e)) w.heap.size e (List.replicate n z) := by
    unfold Row
    rw [heap_alloc_new]
    congr 2
    apply Array.ext'
    simp [toList_madeCells_one]
  refine ⟨rfl, .inr ⟨w.heap.size, n, (List.replicate n z).toArray, rfl, Nat.le_refl _, hrow, Nat.zero_le _, b3, by simp, by simp⟩⟩

set_option maxHeartbeats 2000000 in
theorem setPlaces_any (v : Value) (xs : List Nat) (w : World) (ht : Tab w) (hx : Rd w v xs.length 1 (u64s xs)) (hv : ∀ x ∈ xs, x < 18446744073709551616) (hl : xs.length ≤ 65536) :
    Calls Tryd.prog 42 #[v] w fun e w' => ∃ r, e = .returned r ∧ w'.ownsRow w.heap.size 3 1 r (idxN xs (64 * xs.length)).length (ints (idxN xs (64 * xs.length))) ∧ Below w.heap.size w w' := by
  have HCS := hid (countSet_any v xs w hx hv hl)
  have HT := hid ht
  have HTL := hid ht.lt
  have HV := hid hv
  obtain ⟨A, ca, rfl, hlc, hcm, hA⟩ := hx.form
  have hpl := popL_le xs
  obtain ⟨pc, hpc⟩ : ∃ pc, popL xs = pc := ⟨_, rfl⟩
  rw [hpc] at HCS hpl
  clear hx hv ht hlc hcm hpc
  go_enter Tryd.func42, Tryd.ntmps42
  go_wp2_with (go_at_call 37; refine HCS.out.mono ?_; rintro e w' ⟨rfl, hw⟩; replace hw := hw.symm; subst hw)
  refine upon_make0 3 (.int .i64 0) 8 Tryd.underlying34 Tryd.infoInt rfl pc (by omega) (by omega) (by omega) (by unfold maxLen; omega) ?_
  intro v1 w1 ho1 hb1
  have HO1 := hid ho1
  clear ho1
  go_wp2
  go_loopw [3, 11] (fun v3 i wr => ∃ k : Nat, k ≤ xs.length ∧ i = .int .i64 k ∧ wr.ownsRow w.heap.size 3 1 v3 (idxN xs (64 * k)).length (ints (idxN xs (64 * k))) ∧ Below w.heap.size w wr) (fun _ i _ => xs.length - (intOf i).toNat)
  case atStart => exact ⟨0, by omega, rfl, by simpa [idxN, ints] using HO1.out, hb1⟩
  case round =>
    obtain ⟨k, hk, rfl, hown, hb⟩ := hrel
    have HOWN := hid hown
    clear hown hb1 HO1
    by_cases hlt : k < xs.length
    · obtain ⟨b, o, rfl, hs⟩ := hA (by omega)
      have c1 := (hs.mono (hb.mono (Nat.le_refl _))).word k hlt
      have HF := hid (rest_first xs k HV.out hlt)
      have hwb := hb
      clear hs hA
      generalize xs.getD k 0 = x at *
      go_wp2
      go_loopw [3, 5] (fun v3 y wr => ∃ (t z : Nat), y = .int .u64 z ∧ Hid (Rest xs k t z) ∧ wr.ownsRow w.heap.size 3 1 v3 (idxN xs (64 * k + t)).length (ints (idxN xs (64 * k + t))) ∧ Below w.heap.size w wr) (fun _ y _ => (intOf y).toNat)
      case atStart => exact ⟨0, x, rfl, HF, by simpa using HOWN.out, hb⟩
      case round =>
        obtain ⟨t, z, rfl, HRST, hown2, hb2⟩ := hrel
        have HOWN2 := hid hown2
        clear hown2 HOWN HF
        have hz64 : z < 18446744073709551616 := HRST.out.2.1
        by_cases hz : z = 0
        · have hze : ((z : Int) != 0) = false := by simpa using hz
          have HZ := hid hz
          clear hz
          go_wp2
          go_roundw
          case rel =>
            refine ⟨k + 1, by omega, by go_num, ?_, hb2⟩
            rw [rest_zero (by rw [← HZ.out]; exact HRST.out)]
            exact HOWN2.out
          case measure => simp [intOf]; omega
        · have hze : ((z : Int) != 0) = true := by simpa using hz
          have HNX := hid (rest_next HRST.out hz)
          have HTZ := hid (fun (w2 : World) (h : Tab w2) => trailingZeros_any z w2 hz hz64 h)
          have hz1 : IntKind.u64.wrap ((z : Int) - 1) = ((z - 1 : Nat) : Int) := by rw [IntKind.wrap_u64]; omega
          have hz2 := u64_and_nat z (z - 1) hz64 (by omega)
          have hle := idxN_le xs (64 * k + t)
          have hc64 := HNX.out.2.2.1
          have hzlt := HNX.out.2.2.2
          have ht64 := HRST.out.1
          have HTW := hid (HT.out.mono hb2 HTL.out)
          generalize Lib.ctz 64 z = c at *
          generalize z &&& (z - 1) = z' at *
          generalize z - 1 = zm at *
          clear hz HRST
          generalize hI : idxN xs (64 * k + t) = I at *
          have HI := hid hI
          clear hI
          go_wp2_with (first | (go_at_call 50; refine (HTZ.out _ HTW.out).mono ?_; rintro e w' ⟨rfl, hw⟩; replace hw := hw.symm; subst hw) | (at_builtin; refine wpList_append1 rfl (.tmp 22) (.tmp 28) rfl 3 (.int .i64 0) 8 Tryd.underlying34 Tryd.infoInt rfl rfl rfl HOWN2.out hb2.size (by rfl) (by unfold maxLen; omega) (by omega) ?_; intro v' w' ho hb3 _))
          go_roundw
          case rel =>
            refine ⟨c + 1, z', by first | rfl | (rw [hz1, hz2]), hid HNX.out.2.1, ?_, hb2.trans hb3⟩
            rw [HNX.out.1, ints_snoc, List.length_append]
            have e : (k : Int) * 64 + (c : Int) = ((64 * k + c : Nat) : Int) := by omega
            first | (rw [← e]; exact ho) | exact ho
          case measure => simp [intOf]; omega
    · go_wp2
      go_ret
      rw [show k = xs.length from by omega] at HOWN
      exact ⟨_, rfl, HOWN.out, hb⟩

set_option maxHeartbeats 1000000 in
theorem Indexes_any (v : Value) (xs : List Nat) (n : Int) (w : World) (ht : Tab w) (hx : Rd w v xs.length 1 (u64s xs)) (hv : ∀ x ∈ xs, x < 18446744073709551616) (hl : xs.length ≤ maxLen) :
    Calls Tryd.prog 16 #[v, .int .i64 n] w fun e w' => ∃ r, e = .returned (.tuple #[r, .bool (okPack 1 n xs)]) ∧ w'.ownsRow w.heap.size 3 1 r (idxR n xs).length (ints (idxR n xs)) ∧ Below w.heap.size w w' := by
  have HX := hid hx; have HV := hid hv; have HL := hid hl; have HT := hid ht
  have H := hid (isBitmap_any v xs n w hx hv hl)
  clear hx hv hl ht
  obtain ⟨R, hR⟩ : ∃ R, idxR n xs = R := ⟨_, rfl⟩
  rw [hR]
  have HR := hid hR
  clear hR
  generalize hok : okPack 1 n xs = ok at *
  have HOK := hid hok
  clear hok
  go_enter Tryd.func16, Tryd.ntmps16
  cases ok
  · go_wp2_with (go_at_call 36; refine H.out.mono ?_; rintro e w' ⟨rfl, hw⟩; replace hw := hw.symm; subst hw)
    go_ret2
    refine ⟨_, rfl, ?_, Below.refl _ _⟩
    rw [← HR.out, idxR, if_neg (by rw [HOK.out]; simp)]
    exact World.ownsRow_nil _ _ _ _
  · have hnn : 0 ≤ n ∧ n ≤ 65536 := by
      refine Decidable.byContradiction fun hc => ?_
      have := HOK.out
      rw [okPack_not _ (by omega)] at this; cases this
    obtain ⟨m, rfl⟩ := Int.eq_ofNat_of_zero_le hnn.1
    have hip := (okPack_nat (wd := 1) (n := m) xs (by decide) (by omega)).1 HOK.out
    have hlen : xs.length = (m + 63) / 64 := hip.1.trans (nWords1 m)
    have HRE : Hid (R = idxN xs (64 * xs.length)) := by
      refine hid ?_; rw [← HR.out, idxR, if_pos HOK.out, Int.toNat_natCast, show 64 * xs.length = m + (64 * xs.length - m) from by omega]
      exact (idxN_gap xs m _ (fun p h1 h2 => isPack_beyond hip p h1)).symm
    have HSP := hid (setPlaces_any v xs w HT.out HX.out HV.out (by omega))
    clear hip hnn
    rw [← HRE.out] at HSP
    go_wp2_with (first | (go_at_call 36; refine H.out.mono ?_; rintro e w' ⟨rfl, hw⟩; replace hw := hw.symm; subst hw) | (go_at_call 42; refine HSP.out.mono ?_; rintro e w2 ⟨r, rfl, ho, hb⟩))
    go_ret2
    exact ⟨_, rfl, ho, hb⟩
end Go.Proofs.YtinkbgnhigpkeaaDoor
