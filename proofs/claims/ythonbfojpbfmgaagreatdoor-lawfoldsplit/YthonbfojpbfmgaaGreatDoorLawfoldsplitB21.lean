/- slices.BinarySearch over strings. -/
import Derived.Test.YthonbfojpbfmgaaGreatDoorLawfoldsplitB17
import Derived.Laws.Cover1
import Derived.Test.YthonbfojpbfmgaaGreatDoorLawfoldsplitB20
import Derived.Test.YthonbfojpbfmgaaGreatDoorLawfoldsplitB6
import Derived.Test.YthonbfojpbfmgaaGreatDoorLawfoldsplitB4
import Derived.Test.YthonbfojpbfmgaaGreatDoorLawfoldsplitB18
import Derived.Test.YthonbfojpbfmgaaGreatDoorLawfoldsplitB19
set_option linter.unusedVariables false
set_option linter.unusedSimpArgs false
set_option linter.unnecessarySimpa false
set_option maxRecDepth 20000
namespace Go.Proofs.YthonbfojpbfmgaaGreatDoor
open Go.RowKit

theorem eqS_self (x : ByteArray) : (x.toList == x.toList) = true := by simp
theorem isNaNcS_any (x : ByteArray) (w : World) : Calls Tryz.prog 234 #[.string x] w fun e w' => e = .returned (.bool false) ∧ w' = w := by
  have e1 := eqS_self x
  go_enter Tryz.func234, Tryz.ntmps234
  go_wp2
  go_ret
  exact ⟨rfl, rfl⟩
theorem isNaNsS_any (x : ByteArray) (w : World) : Calls Tryz.prog 228 #[.string x] w fun e w' => e = .returned (.bool false) ∧ w' = w := by
  have e1 := eqS_self x
  go_enter Tryz.func228, Tryz.ntmps228
  go_wp2
  go_ret
  exact ⟨rfl, rfl⟩
theorem LessS_any (x y : ByteArray) (w : World) : Calls Tryz.prog 199 #[.string x, .string y] w fun e w' => e = .returned (.bool (ltS x y)) ∧ w' = w := by
  obtain ⟨b, hb⟩ : ∃ b, ltS x y = b := ⟨_, rfl⟩
  rw [hb]
  have hb2 : Op.bytesLess x.toList y.toList = b := hb
  clear hb
  go_enter Tryz.func199, Tryz.ntmps199
  cases b
  all_goals go_wp2_with (go_at_call 234; refine (isNaNcS_any _ _).mono ?_; rintro e w' ⟨rfl, rfl⟩)
  all_goals go_ret
  all_goals exact ⟨rfl, rfl⟩

/-- the first place whose entry is not below t -/
def firstGeS (es : List ByteArray) (t : ByteArray) : Nat := es.findIdx fun e => !ltS e t
theorem firstGeS_eq (es : List ByteArray) (t : ByteArray) (i : Nat) (hi : i ≤ es.length) (h1 : ∀ a, a < i → ltS (es.getD a ByteArray.empty) t = true) (h2 : i < es.length → ltS (es.getD i ByteArray.empty) t = false) : firstGeS es t = i := by
  unfold firstGeS
  by_cases hlt : i < es.length
  · rw [List.findIdx_eq hlt]
    refine ⟨?_, fun j hj => ?_⟩
    · have := h2 hlt
      simpa [List.getD, List.getElem?_eq_getElem hlt] using this
    · have := h1 j hj
      have hjl : j < es.length := by omega
      simp only [List.getD, List.getElem?_eq_getElem hjl, Option.getD_some] at this
      simpa using this
  · have : i = es.length := by omega
    rw [this, List.findIdx_eq_length]
    intro x hx
    obtain ⟨j, hj, rfl⟩ := List.getElem_of_mem hx
    have := h1 j (by omega)
    simp only [List.getD, List.getElem?_eq_getElem hj, Option.getD_some] at this
    simpa using this
theorem ltS_trans {a b c : ByteArray} (h1 : ltS a b = true) (h2 : ltS b c = true) : ltS a c = true := bytesLess_trans _ _ _ h1 h2
theorem ltS_up {x y t : ByteArray} (h1 : ltS x y = true) (h2 : ltS x t = false) : ltS y t = false := by
  rw [← Bool.not_eq_true] at h2 ⊢
  exact fun h => h2 (ltS_trans h1 h)
def foundS (es : List ByteArray) (t : ByteArray) : Bool := es.any fun e => e.toList == t.toList
theorem ba_ext {x t : ByteArray} (h : x.toList = t.toList) : x = t := by
  rw [ByteArray.toList_eq, ByteArray.toList_eq] at h
  obtain ⟨x⟩ := x
  obtain ⟨t⟩ := t
  simp only at h
  rw [Array.toList_inj.1 h]
theorem foundS_iff (es : List ByteArray) (t : ByteArray) : foundS es t = true ↔ t ∈ es := by
  unfold foundS
  rw [List.any_eq_true]
  constructor
  · rintro ⟨x, h1, h2⟩
    rw [beq_iff_eq] at h2
    rw [← ba_ext h2]; exact h1
  · intro h; exact ⟨t, h, by simp⟩
theorem foundS_not {es : List ByteArray} {t : ByteArray} (h : ¬ t ∈ es) : foundS es t = false := by rw [← Bool.not_eq_true, foundS_iff]; exact h
set_option maxHeartbeats 2000000 in
theorem BinarySearchSf_any (v : Value) (es : List ByteArray) (t : ByteArray) (w : World) (hx : Rd w v es.length 1 (strs es)) (hl : es.length ≤ 1048576) (hup : ∀ a b, a < b → b < es.length → ltS (es.getD a ByteArray.empty) (es.getD b ByteArray.empty) = true) :
    Calls Tryz.prog 190 #[v, .string t] w fun e w' => e = .returned (.tuple #[.int .i64 (firstGeS es t : Nat), .bool (foundS es t)]) ∧ ∃ n, w' = w.drewN n := by
  obtain ⟨A, ca, rfl, _, _, _⟩ := hx.form
  have HX := hid hx
  have HUP := hid hup
  clear hx hup
  go_enter Tryz.func190, Tryz.ntmps190
  go_wp2
  go_loop [7, 8] (fun u x => ∃ i j : Nat, i ≤ j ∧ j ≤ es.length ∧ u = .int .i64 i ∧ x = .int .i64 j ∧ Hid (∀ a, a < i → ltS (es.getD a ByteArray.empty) t = true) ∧ Hid (∀ a, j ≤ a → a < es.length → ltS (es.getD a ByteArray.empty) t = false)) (fun u x => (intOf x).toNat - (intOf u).toNat)
  case atStart => exact ⟨0, es.length, by omega, by omega, rfl, rfl, hid (fun a h => by omega), hid (fun a h1 h2 => by omega)⟩
  case round =>
    obtain ⟨i, j, hij, hj, rfl, rfl, H1, H2⟩ := hrel
    by_cases hlt : i < j
    · obtain ⟨b, o, rfl, hs⟩ := HX.out.atS (by omega)
      obtain ⟨m, hm⟩ : ∃ m, (i + j) / 2 = m := ⟨_, rfl⟩
      have hm' : ((i : Int) + (j : Int)) / 2 = (m : Int) := by omega
      have hml : m < es.length := by omega
      have c1 := hs m hml
      have him : i ≤ m := by omega
      have hmj : m < j := by omega
      have HLT : Hid (ltS (es.getD m ByteArray.empty) t = true → ∀ a, a < m + 1 → ltS (es.getD a ByteArray.empty) t = true) := hid (by
        intro h a ha
        by_cases ham : a = m
        · subst ham; exact h
        · exact ltS_trans (HUP.out a m (by omega) hml) h)
      have HGE : Hid (ltS (es.getD m ByteArray.empty) t = false → ∀ a, m ≤ a → a < es.length → ltS (es.getD a ByteArray.empty) t = false) := hid (by
        intro h a ha1 ha2
        by_cases ham : a = m
        · subst ham; exact h
        · exact ltS_up (HUP.out m a (by omega) ha2) h)
      clear hs hm
      generalize es.getD m ByteArray.empty = x at *
      have HLS := hid (fun (w2 : World) => LessS_any x t w2)
      obtain ⟨bl, hbl⟩ : ∃ bl, ltS x t = bl := ⟨_, rfl⟩
      rw [hbl] at HLT HGE HLS
      clear hbl
      cases bl
      · have HG := hid (HGE.out rfl)
        clear HLT HGE
        go_wp2_with (go_at_call 199; refine (HLS.out _).mono ?_; rintro e w' ⟨rfl, hw⟩; subst hw)
        go_round
        case rel => exact ⟨i, m, by omega, by omega, rfl, rfl, H1, HG⟩
        case measure => simp [intOf]; omega
      · have HG := hid (HLT.out rfl)
        clear HLT HGE
        go_wp2_with (go_at_call 199; refine (HLS.out _).mono ?_; rintro e w' ⟨rfl, hw⟩; subst hw)
        go_round
        case rel => exact ⟨m + 1, j, by omega, by omega, by go_num, rfl, HG, H2⟩
        case measure => simp [intOf]; omega
    · have hf : firstGeS es t = i := firstGeS_eq es t i (by omega) H1.out (fun h => H2.out i (by omega) h)
      have HF := hid hf
      clear hf
      by_cases hie : i < es.length
      · obtain ⟨b, o, rfl, hs⟩ := HX.out.atS (by omega)
        have c1 := hs i hie
        have HMEM : Hid (es.getD i ByteArray.empty = t → t ∈ es) := hid (fun h => by
          rw [← h]; simp [List.getD, List.getElem?_eq_getElem hie])
        have HNOT : Hid (es.getD i ByteArray.empty ≠ t → ¬ t ∈ es) := hid (fun h hm => by
          obtain ⟨a, ha, hat⟩ := List.getElem_of_mem hm
          have hg : es.getD a ByteArray.empty = t := by simp [List.getD, List.getElem?_eq_getElem ha, hat]
          by_cases h1 : a < i
          · have h5 := H1.out a h1
            rw [hg] at h5
            unfold ltS at h5
            rw [bytesLess_self] at h5; cases h5
          · by_cases h2 : a = i
            · subst h2; exact h hg
            · have h3 := HUP.out i a (by omega) ha
              have h4 := H2.out i (by omega) hie
              rw [hg, h4] at h3; cases h3)
        clear hs
        change w.cell? ⟨b, o + i, none⟩ = some (.string (es.getD i ByteArray.empty)) at c1
        generalize es.getD i ByteArray.empty = x at *
        by_cases hxt : x = t
        · have hd : foundS es t = true := (foundS_iff es t).2 (HMEM.out hxt)
          have HD := hid hd
          subst hxt
          have hb := eqS_self x
          clear hd HMEM HNOT
          go_wp2_with (go_at_call 228; refine (isNaNsS_any _ _).mono ?_; rintro e w' ⟨rfl, hw⟩; subst hw)
          all_goals go_ret2
          all_goals exact ⟨by rw [HF.out, HD.out]; rfl, 0, rfl⟩
        · have hd : foundS es t = false := foundS_not (HNOT.out hxt)
          have HD := hid hd
          have hb : (x.toList == t.toList) = false := beq_eq_false_iff_ne.2 (fun h => hxt (by
            exact ba_ext h))
          clear hd HMEM HNOT hxt
          go_wp2_with (go_at_call 228; refine (isNaNsS_any _ _).mono ?_; rintro e w' ⟨rfl, hw⟩; subst hw)
          all_goals go_ret2
          all_goals exact ⟨by rw [HF.out, HD.out]; rfl, 0, rfl⟩
      · have hd : foundS es t = false := foundS_not (fun hm => by
          obtain ⟨a, ha, hat⟩ := List.getElem_of_mem hm
          have hg : es.getD a ByteArray.empty = t := by simp [List.getD, List.getElem?_eq_getElem ha, hat]
          have h5 := H1.out a (by omega)
          rw [hg] at h5
          unfold ltS at h5
          rw [bytesLess_self] at h5; cases h5)
        have HD := hid hd
        clear hd
        go_wp2
        all_goals go_ret2
        all_goals exact ⟨by rw [HF.out, HD.out]; rfl, 0, rfl⟩
theorem BinarySearchS_any (v : Value) (es : List ByteArray) (t : ByteArray) (w : World) (hx : Rd w v es.length 1 (strs es)) (hl : es.length ≤ 1048576) (hup : ∀ a b, a < b → b < es.length → ltS (es.getD a ByteArray.empty) (es.getD b ByteArray.empty) = true) :
    Calls Tryz.prog 190 #[v, .string t] w fun e w' => (∃ b : Value, e = .returned (.tuple #[.int .i64 (firstGeS es t : Nat), b])) ∧ ∃ n, w' = w.drewN n := by
  refine (BinarySearchSf_any v es t w hx hl hup).mono ?_
  rintro e w' ⟨rfl, h⟩
  exact ⟨⟨_, rfl⟩, h⟩
end Go.Proofs.YthonbfojpbfmgaaGreatDoor

/- Package codec: cells parted into values and the bitmap of the NULLs (strings). -/
set_option linter.unusedVariables false
set_option linter.unusedSimpArgs false
set_option linter.unnecessarySimpa false
set_option maxRecDepth 100000
namespace Go.Proofs.YthonbfojpbfmgaaGreatDoor
open Go.RowKit

theorem m_Value_S : ∀ w : World, (method 386 66 (.agg #[]) "Value").run Tryz.prog w = .ok (267, .agg #[]) w := fun _ => by kernel_rfl
set_option maxHeartbeats 1000000 in
theorem ValueGen_S (n : Bool) (x : Int) (s : ByteArray) (w : World) : Calls Tryz.prog 267 #[.agg #[], .agg #[.bool n, .int .i64 x, .string s]] w fun e w' => e = .returned (.string s) ∧ Below w.heap.size w w' := by
  go_enter Tryz.func267, Tryz.ntmps267
  go_wp2
  go_ret
  exact ⟨rfl, ((brefl w).alloc (Nat.le_refl _) _).alloc (by simp) _⟩
set_option maxHeartbeats 8000000 in
theorem splitS_any (u : Value) (cs : List C3) (w : World) (hu : Rd w u cs.length 3 (cells3 cs)) (hl : cs.length ≤ 65536) :
    Calls Tryz.prog 132 #[.iface 66 (.agg #[]), u] w fun e w' => ∃ r1 r2, e = .returned (.tuple #[r1, r2]) ∧
      Rd w' r1 ((valsOf cs).map Prod.snd).length 1 (strs ((valsOf cs).map Prod.snd)) ∧ Rd w' r2 (bmL (cs.map C3.n)).length 1 (u64s (bmL (cs.map C3.n))) ∧ Below w.heap.size w w' := by
  have HU := hid hu
  obtain ⟨A1, c1, rfl, _, _, _⟩ := hu.form
  have hdn := nulls_dense cs hl
  obtain ⟨VR, hVR⟩ : ∃ VR, (valsOf cs).map Prod.snd = VR := ⟨_, rfl⟩
  obtain ⟨NB, hNB⟩ : ∃ NB, bmL (cs.map C3.n) = NB := ⟨_, rfl⟩
  rw [hVR, hNB]
  rw [hNB] at hdn
  have HDN := hid hdn
  have HVR := hid hVR
  have HVL0 : Hid ((valsOf cs).length = VR.length) := hid (by rw [← hVR, List.length_map])
  clear hu hdn hVR hNB
  go_enter Tryz.func132, Tryz.ntmps132
  go_wp2_with fail
  go_loopw [6, 7, 14] (fun fv ev i wr => ∃ t : Nat, t ≤ cs.length ∧ i = .int .i64 t ∧ Hid (wr.ownsRow w.heap.size 3 1 ev (nullIx cs t).length (i64s ((nullIx cs t).map Int.ofNat))) ∧ Hid (wr.ownsRow w.heap.size 9 1 fv (valsOf (cs.take t)).length (strs ((valsOf (cs.take t)).map Prod.snd))) ∧ Hid (Apart ev fv) ∧ Hid (Below w.heap.size w wr)) (fun _ _ i _ => cs.length - (intOf i).toNat)
  case atStart => exact ⟨0, by omega, rfl, hid (World.ownsRow_nil _ _ _ _), hid (World.ownsRow_nil _ _ _ _), hid (fun k h => by cases h), hid (brefl w)⟩
  case round =>
    obtain ⟨t, ht, rfl, HE, HF, HAP, HB⟩ := hrel
    by_cases hlt : t < cs.length
    · obtain ⟨b, o, rfl, hcells⟩ := (HU.out.mono HB.out).at3 (by omega)
      obtain ⟨l0, l1, l2⟩ := hcells t hlt
      clear hcells
      have HSE := hid (nullIx_succ cs t)
      have HSV := hid (valsOf_snoc (cs.take t) (cs.getD t C3.df))
      rw [← take_snoc cs C3.df t hlt] at HSV
      have HML := hid (nullIx_len cs t)
      have HVL := hid (valsOf_take_len cs t ht)
      generalize nullIx cs t = es at *
      generalize valsOf (cs.take t) = vs at *
      generalize cs.getD t C3.df = X at *
      obtain ⟨xn, xi, xs'⟩ := X
      simp only at l0 l1 l2 HSE HSV
      obtain ⟨m, hm⟩ : ∃ m, es.length = m := ⟨_, rfl⟩
      have HM := hid hm
      obtain ⟨k, hk⟩ : ∃ k, vs.length = k := ⟨_, rfl⟩
      have HKV := hid hk
      simp only [hm, hk] at HE HF HML HVL
      have hm9 : m ≤ 65536 := by have := HML.out; omega
      have hk9 : k ≤ 65536 := by have := HVL.out; omega
      clear hm hk
      obtain ⟨E1, ce1, rfl, _⟩ := owns_form HE.out
      obtain ⟨F1, cf1, rfl, _⟩ := owns_form HF.out
      have HBA := hid ((brefl wr).alloc (Nat.le_refl _) (.cells #[.bool xn, .int .i64 xi, .string xs'] 42))
      have HRW : Hid (Row (wr.alloc (.cells #[.bool xn, .int .i64 xi, .string xs'] 42)) wr.heap.size 42 [.bool xn, .int .i64 xi, .string xs']) := hid (by unfold Row; rw [heap_alloc_new])
      have HB4 := hid (HB.out.trans (HBA.out.mono HB.out.size))
      have HE4 := hid (owns_below HE.out HBA.out)
      have HF4 := hid (owns_below HF.out HBA.out)
      have HSZ4 := hid HB4.out.size
      go_upto_region 6 with fail
      generalize wr.alloc (.cells #[.bool xn, .int .i64 xi, .string xs'] 42) = w4 at *
      have k0 : w4.cell? ⟨wr.heap.size, 0, none⟩ = some (.bool xn) := by rw [HRW.out.cell]; rfl
      have k1 : w4.cell? ⟨wr.heap.size, 1, none⟩ = some (.int .i64 xi) := by rw [HRW.out.cell]; rfl
      have k2 : w4.cell? ⟨wr.heap.size, 2, none⟩ = some (.string xs') := by rw [HRW.out.cell]; rfl
      generalize wr.heap.size = q at *
      clear l0 l1 l2
      cases xn
      · simp only [Bool.false_eq_true, if_false] at HSE HSV
        have hmv := m_Value_S
        go_wp2_with (first
          | (go_at_call 267; refine (ValueGen_S false xi xs' _).mono ?_; rintro e w5 ⟨rfl, hb5⟩; have HB5 := hid (HB4.out.trans (hb5.mono HB4.out.size)); have HE5 := hid (owns_below HE4.out hb5); have HF5 := hid (owns_below HF4.out hb5); have HSZ5 := hid HB5.out.size; clear hb5 k0 k1 k2)
          | (at_builtin; refine wpList_append1W rfl (.tmp 25) (.tmp 29) rfl 9 (.string ByteArray.empty) 16 Tryz.underlying58 Tryz.infoStr rfl rfl rfl HF5.out HSZ5.out (by rfl) (by unfold maxLen; omega) (by omega) ?_; intro v6 w6 ho6 hb6 hz6 hk6 hw6))
        have HO6 := hid ho6
        have HB6 := hid hb6
        have HK6 := hid (show Kp _ w5 w6 v6 from ⟨hk6, fun k hk => by
          rcases hw6 with h | h
          · exact .inl (by rw [← h]; exact hk.symm)
          · exact .inr (h.1 k hk)⟩)
        clear ho6 hb6 hz6 hk6 hw6
        have HE6 := hid (owns_kp HE5.out HK6.out HAP.out.symm)
        have HAP6 := hid (HAP.out.right HK6.out (fun k hk => (HE5.out.lt k hk).2))
        go_roundw
        case rel =>
          have G1 : Hid ((valsOf (cs.take (t + 1))).length = k + 1) := hid (by rw [HSV.out, List.length_append, HKV.out]; rfl)
          have G3 : Hid (strs ((valsOf (cs.take (t + 1))).map Prod.snd) = strs (vs.map Prod.snd) ++ [.string xs']) := hid (by rw [HSV.out, List.map_append]; simp [strs])
          exact ⟨t + 1, by omega, by go_num, hid (by rw [HSE.out, HM.out]; exact HE6.out), hid (by rw [G1.out, G3.out]; exact HO6.out), HAP6, hid (HB5.out.trans HB6.out)⟩
        case measure => simp [intOf]; omega
      · simp only [if_true, List.append_nil] at HSE HSV
        go_wp2_with (at_builtin; refine wpList_append1W rfl (.tmp 21) (.tmp 23) rfl 3 (.int .i64 0) 8 Tryz.underlying92 Tryz.infoI64 rfl rfl rfl HE4.out HSZ4.out (by rfl) (by unfold maxLen; omega) (by omega) ?_; intro v6 w6 ho6 hb6 hz6 hk6 hw6)
        have HO6 := hid ho6
        have HB6 := hid hb6
        have HK6 := hid (show Kp _ w4 w6 v6 from ⟨hk6, fun k hk => by
          rcases hw6 with h | h
          · exact .inl (by rw [← h]; exact hk.symm)
          · exact .inr (h.1 k hk)⟩)
        clear ho6 hb6 hz6 hk6 hw6
        have HF6 := hid (owns_kp HF4.out HK6.out HAP.out)
        have HAP6 := hid (HAP.out.left HK6.out (fun k hk => (HF4.out.lt k hk).2))
        go_roundw
        case rel =>
          have G1 : Hid ((nullIx cs (t + 1)).length = m + 1) := hid (by rw [HSE.out, List.length_append, HM.out]; rfl)
          have G3 : Hid (i64s ((nullIx cs (t + 1)).map Int.ofNat) = i64s (es.map Int.ofNat) ++ [.int .i64 t]) := hid (by rw [HSE.out, List.map_append, i64s_append]; rfl)
          exact ⟨t + 1, by omega, by go_num, hid (by rw [G1.out, G3.out]; exact HO6.out), hid (by rw [HSV.out, HKV.out]; exact HF6.out), HAP6, hid (HB4.out.trans HB6.out)⟩
        case measure => simp [intOf]; omega
    · obtain rfl : t = cs.length := by omega
      rw [List.take_length] at HF
      rw [HVR.out, HVL0.out] at HF
      have HML := hid (nullIx_len cs cs.length)
      generalize nullIx cs cs.length = es at *
      have HLE : Hid ((es.map Int.ofNat).length = es.length) := hid (by rw [List.length_map])
      obtain ⟨E1, ce1, rfl, _⟩ := owns_form HE.out
      obtain ⟨F1, cf1, rfl, _⟩ := owns_form HF.out
      have HDE := hid (Dense_any (.slice E1 es.length ce1) (es.map Int.ofNat) cs.length wr (by rw [HLE.out]; exact owns_rd HE.out) (by rw [HLE.out]; have := HML.out; unfold maxLen; omega))
      rw [HDN.out] at HDE
      have HFR := hid (owns_rd HF.out)
      clear HE HF HAP HU HLE HDN HML HVR HVL0
      generalize es.map Int.ofNat = eI at *
      generalize denseOk cs.length eI = ok at *
      generalize wr = w2 at *
      go_wp2_with (go_at_call 173; refine HDE.out.mono ?_; rintro e w5 ⟨r, rfl, h1, h2⟩; obtain ⟨N1, cn1, rfl, _⟩ := owns_form h1; have H1 := hid (owns_rd h1); have H2 := hid h2; clear h1 h2)
      go_ret2
      exact ⟨_, _, rfl, HFR.out.mono H2.out, H1.out, HB.out.trans (H2.out.mono HB.out.size)⟩
end Go.Proofs.YthonbfojpbfmgaaGreatDoor

/- Package kernel: the test of a leaf, of strings. -/
set_option linter.unusedVariables false
set_option linter.unusedSimpArgs false
set_option linter.unnecessarySimpa false
set_option maxRecDepth 100000
namespace Go.Proofs.YthonbfojpbfmgaaGreatDoor
open Go.RowKit

end Go.Proofs.YthonbfojpbfmgaaGreatDoor

/- Package codec: runs of strings put into bytes. -/
set_option linter.unusedVariables false
set_option linter.unusedSimpArgs false
set_option linter.unnecessarySimpa false
set_option maxRecDepth 100000
namespace Go.Proofs.YthonbfojpbfmgaaGreatDoor
open Go.RowKit

theorem m_Append_S : ∀ w : World, (method 386 66 (.agg #[]) "AppendList").run Tryz.prog w = .ok (264, .agg #[]) w := fun _ => by kernel_rfl
theorem eqP_pS (x y : ByteArray) : eqP (pS x) (pS y) = (y.toList == x.toList) := by
  have h0 : ordP (pS x) (pS y) = ordS x y := by
    unfold ordP pS
    simp only [Int.lt_irrefl, if_false]
  unfold eqP
  rw [h0]
  unfold ordS ltS eqS
  by_cases h : x.toList = y.toList
  · rw [h, bytesLess_self]; simp
  · have h1 : (x.toList == y.toList) = false := beq_eq_false_iff_ne.2 h
    have h2 : (y.toList == x.toList) = false := beq_eq_false_iff_ne.2 (fun e => h e.symm)
    rw [h1, h2]
    cases Op.bytesLess x.toList y.toList <;> simp
theorem pS_get (xs : List ByteArray) (t : Nat) (h : t < xs.length) : (xs.map pS).getD t dfP = pS (xs.getD t default) := by
  simp [List.getD, List.getElem?_eq_getElem h]
theorem endAt_S (xs : List ByteArray) (t : Nat) (h : t + 1 < xs.length) : endAt (xs.map pS) t = !((xs.getD (t + 1) default).toList == (xs.getD t default).toList) := by
  unfold endAt
  rw [pS_get xs t (by omega), pS_get xs (t + 1) h, eqP_pS, List.length_map, decide_eq_false (by omega), Bool.false_or]
theorem sumT_pS (xs : List ByteArray) : sumT (xs.map pS) = sumS xs := by
  unfold sumT
  rw [List.map_map]
  congr 1
  exact (List.map_congr_left (fun x _ => rfl)).trans (List.map_id xs)
set_option maxHeartbeats 8000000 in
theorem runsPayloadS_any (xs : List ByteArray) (u : Value) (w : World) (hu : Rd w u xs.length 1 (strs xs)) (hl : xs.length ≤ 1048576) (hs : sumS xs ≤ 67108864) :
    Calls Tryz.prog 175 #[.iface 66 (.agg #[]), u] w fun e w' => ∃ r, e = .returned r ∧ OwnB w.heap.size w' r (runsB 2 (xs.map pS)) ∧ Below w.heap.size w w' := by
  have HU := hid hu
  obtain ⟨A1, c1, rfl, _, _, _⟩ := hu.form
  have HRR : Hid (runsB 2 (xs.map pS) = leN 4 (runEndsL (xs.map pS) xs.length).length ++ le4 ((runEndsL (xs.map pS) xs.length).map Int.ofNat) ++ strsB ((runHeads (xs.map pS) xs.length).map Prod.snd)) := hid (by
    unfold runsB listB headB strsB
    rw [List.length_map, if_neg (by decide)]
    congr 2
    simp [le4, le4N, List.flatMap_map])
  have HHS : Hid (sumS ((runHeads (xs.map pS) xs.length).map Prod.snd) ≤ 67108864) := hid (by
    have h1 := runHeads_sum (xs.map pS)
    rw [sumT_pS, List.length_map] at h1
    exact Nat.le_trans h1 hs)
  generalize runsB 2 (xs.map pS) = R at *
  obtain ⟨n, hn⟩ : ∃ n, xs.length = n := ⟨_, rfl⟩
  have HN := hid hn
  simp only [hn] at HU HRR HHS hl
  clear hu hs
  simp only [hn]
  have HVN : Hid ((xs.map pS).length = n) := hid (by rw [List.length_map]; exact hn)
  clear hn
  go_enter Tryz.func175, Tryz.ntmps175
  go_wp2_with fail
  go_loopw [5, 6, 12] (fun ev fv i wr => ∃ t : Nat, t ≤ n ∧ i = .int .i64 t ∧ Hid (wr.ownsRow w.heap.size 3 1 ev (runEndsL (xs.map pS) t).length (i64s ((runEndsL (xs.map pS) t).map Int.ofNat))) ∧ Hid (wr.ownsRow w.heap.size 9 1 fv (runEndsL (xs.map pS) t).length (strs ((runHeads (xs.map pS) t).map Prod.snd))) ∧ Hid (Apart ev fv) ∧ Hid (Below w.heap.size w wr)) (fun _ _ i _ => n - (intOf i).toNat)
  case atStart => exact ⟨0, by omega, rfl, hid (World.ownsRow_nil _ _ _ _), hid (World.ownsRow_nil _ _ _ _), hid (fun k h => by cases h), hid (brefl w)⟩
  case round =>
    obtain ⟨t, ht, rfl, HE, HF, HAP, HB⟩ := hrel
    by_cases hlt : t < n
    · obtain ⟨b, o, rfl, hcells⟩ := (HU.out.mono HB.out).atS (by omega)
      have l0 := hcells t (by rw [HN.out]; exact hlt)
      have HC := hid hcells
      clear hcells
      have HSE := hid (runEndsL_succ (xs.map pS) t)
      have HSF := hid (runHeads_succ (xs.map pS) t)
      rw [pS_get xs t (by rw [HN.out]; exact hlt)] at HSF
      have HML := hid (runEndsL_len (xs.map pS) t)
      have HEA := hid (fun (h : t + 1 < n) => endAt_S xs t (by rw [HN.out]; exact h))
      have HEL := hid (fun (h : t + 1 = n) => endAt_last (xs.map pS) t (by rw [HVN.out]; exact h))
      generalize xs.getD t default = x at *
      generalize runEndsL (xs.map pS) t = es at *
      generalize runHeads (xs.map pS) t = hs at *
      obtain ⟨m, hm⟩ : ∃ m, es.length = m := ⟨_, rfl⟩
      have HM := hid hm
      simp only [hm] at HE HF HML
      have hm9 : m ≤ 1048576 := by have := HML.out; omega
      clear hm
      obtain ⟨E1, ce1, rfl, _⟩ := owns_form HE.out
      obtain ⟨F1, cf1, rfl, _⟩ := owns_form HF.out
      have HSZ := hid HB.out.size
      have hlast : t + 1 = n ∨ t + 1 < n := by omega
      by_cases hend : endAt (xs.map pS) t = true
      · have HEN := hid hend
        have hg : ((t : Int) + 1 == (n : Int)) = true ∨ (t + 1 < n ∧ ∃ y, xs.getD (t + 1) default = y ∧ (y.toList == x.toList) = false) := by
          rcases hlast with h | h
          · exact .inl (by simp; omega)
          · refine .inr ⟨h, _, rfl, ?_⟩
            have h2 := HEA.out h
            rw [hend] at h2
            simpa using h2.symm
        clear hend
        rcases hg with i0 | ⟨h1, y, hy, hyx⟩
        · go_upto_region 8 with (at_builtin; refine wpList_append1W rfl (.tmp 31) (.tmp 34) rfl 3 (.int .i64 0) 8 Tryz.underlying92 Tryz.infoI64 rfl rfl rfl HE.out HSZ.out (by rfl) (by unfold maxLen; omega) (by omega) ?_; intro v5 w5 ho5 hb5 hz5 hk5 hw5)
          have HO5 := hid ho5
          have HB5 := hid hb5
          have HZ5 := hid hz5
          have HK5 := hid (show Kp _ wr w5 v5 from ⟨hk5, fun k hk => by
            rcases hw5 with h | h
            · exact .inl (by rw [← h]; exact hk.symm)
            · exact .inr (h.1 k hk)⟩)
          clear ho5 hb5 hz5 hk5 hw5
          have HF5 := hid (owns_kp HF.out HK5.out HAP.out)
          have HAP5 := hid (HAP.out.left HK5.out (fun k hk => (HF.out.lt k hk).2))
          have HS5 := hid (Nat.le_trans HSZ.out HZ5.out)
          obtain ⟨E2, ce2, rfl, _⟩ := owns_form HO5.out
          go_wp2_with (at_builtin; refine wpList_append1W rfl (.tmp 36) (.tmp 38) rfl 9 (.string ByteArray.empty) 16 Tryz.underlying58 Tryz.infoStr rfl rfl rfl HF5.out HS5.out (by rfl) (by unfold maxLen; omega) (by omega) ?_; intro v6 w6 ho6 hb6 hz6 hk6 hw6)
          have HO6 := hid ho6
          have HB6 := hid hb6
          have HK6 := hid (show Kp _ w5 w6 v6 from ⟨hk6, fun k hk => by
            rcases hw6 with h | h
            · exact .inl (by rw [← h]; exact hk.symm)
            · exact .inr (h.1 k hk)⟩)
          clear ho6 hb6 hz6 hk6 hw6
          have HE6 := hid (owns_kp HO5.out HK6.out HAP5.out.symm)
          have HAP6 := hid (HAP5.out.right HK6.out (fun k hk => (HO5.out.lt k hk).2))
          go_roundw
          case rel =>
            have G1 : Hid ((runEndsL (xs.map pS) (t + 1)).length = m + 1) := hid (by rw [HSE.out, if_pos HEN.out, List.length_append, HM.out]; rfl)
            have G2 : Hid (i64s ((runEndsL (xs.map pS) (t + 1)).map Int.ofNat) = i64s (es.map Int.ofNat) ++ [.int .i64 ((t : Int) + 1)]) := hid (by rw [HSE.out, if_pos HEN.out, List.map_append, i64s_append]; rfl)
            have G3 : Hid (strs ((runHeads (xs.map pS) (t + 1)).map Prod.snd) = strs (hs.map Prod.snd) ++ [.string x]) := hid (by rw [HSF.out, if_pos HEN.out, List.map_append]; simp [strs]; rfl)
            exact ⟨t + 1, by omega, by go_num, hid (by rw [G1.out, G2.out]; exact HE6.out), hid (by rw [G1.out, G3.out]; exact HO6.out), HAP6, hid (HB.out.trans (HB5.out.trans HB6.out))⟩
          case measure => simp [intOf]; omega
        · have l1 := HC.out (t + 1) (by rw [HN.out]; exact h1)
          rw [hy] at l1
          have iw : IntKind.i64.wrap ((t : Int) + 1) = (t : Int) + 1 := by rw [IntKind.wrap_i64]; omega
          have ig1 : (0 : Int) ≤ (t : Int) + 1 := by omega
          have ig2 : (t : Int) + 1 < (n : Int) := by omega
          have i0 : ((t : Int) + 1 == (n : Int)) = false := by simp; omega
          clear hy
          go_upto_region 8 with (at_builtin; refine wpList_append1W rfl (.tmp 31) (.tmp 34) rfl 3 (.int .i64 0) 8 Tryz.underlying92 Tryz.infoI64 rfl rfl rfl HE.out HSZ.out (by rfl) (by unfold maxLen; omega) (by omega) ?_; intro v5 w5 ho5 hb5 hz5 hk5 hw5)
          have HO5 := hid ho5
          have HB5 := hid hb5
          have HZ5 := hid hz5
          have HK5 := hid (show Kp _ wr w5 v5 from ⟨hk5, fun k hk => by
            rcases hw5 with h | h
            · exact .inl (by rw [← h]; exact hk.symm)
            · exact .inr (h.1 k hk)⟩)
          clear ho5 hb5 hz5 hk5 hw5
          have HF5 := hid (owns_kp HF.out HK5.out HAP.out)
          have HAP5 := hid (HAP.out.left HK5.out (fun k hk => (HF.out.lt k hk).2))
          have HS5 := hid (Nat.le_trans HSZ.out HZ5.out)
          obtain ⟨E2, ce2, rfl, _⟩ := owns_form HO5.out
          go_wp2_with (at_builtin; refine wpList_append1W rfl (.tmp 36) (.tmp 38) rfl 9 (.string ByteArray.empty) 16 Tryz.underlying58 Tryz.infoStr rfl rfl rfl HF5.out HS5.out (by rfl) (by unfold maxLen; omega) (by omega) ?_; intro v6 w6 ho6 hb6 hz6 hk6 hw6)
          have HO6 := hid ho6
          have HB6 := hid hb6
          have HK6 := hid (show Kp _ w5 w6 v6 from ⟨hk6, fun k hk => by
            rcases hw6 with h | h
            · exact .inl (by rw [← h]; exact hk.symm)
            · exact .inr (h.1 k hk)⟩)
          clear ho6 hb6 hz6 hk6 hw6
          have HE6 := hid (owns_kp HO5.out HK6.out HAP5.out.symm)
          have HAP6 := hid (HAP5.out.right HK6.out (fun k hk => (HO5.out.lt k hk).2))
          go_roundw
          case rel =>
            have G1 : Hid ((runEndsL (xs.map pS) (t + 1)).length = m + 1) := hid (by rw [HSE.out, if_pos HEN.out, List.length_append, HM.out]; rfl)
            have G2 : Hid (i64s ((runEndsL (xs.map pS) (t + 1)).map Int.ofNat) = i64s (es.map Int.ofNat) ++ [.int .i64 ((t : Int) + 1)]) := hid (by rw [HSE.out, if_pos HEN.out, List.map_append, i64s_append]; rfl)
            have G3 : Hid (strs ((runHeads (xs.map pS) (t + 1)).map Prod.snd) = strs (hs.map Prod.snd) ++ [.string x]) := hid (by rw [HSF.out, if_pos HEN.out, List.map_append]; simp [strs]; rfl)
            exact ⟨t + 1, by omega, by go_num, hid (by rw [G1.out, G2.out]; exact HE6.out), hid (by rw [G1.out, G3.out]; exact HO6.out), HAP6, hid (HB.out.trans (HB5.out.trans HB6.out))⟩
          case measure => simp [intOf]; omega
      · have HEN := hid hend
        have h1 : t + 1 < n := by
          rcases hlast with h | h
          · exact absurd (HEL.out h) hend
          · exact h
        obtain ⟨y, hy, hyx⟩ : ∃ y, xs.getD (t + 1) default = y ∧ (y.toList == x.toList) = true := by
          refine ⟨_, rfl, ?_⟩
          have h2 := HEA.out h1
          rw [Bool.eq_false_iff.2 hend] at h2
          simpa using h2.symm
        clear hend
        have l1 := HC.out (t + 1) (by rw [HN.out]; exact h1)
        rw [hy] at l1
        have iw : IntKind.i64.wrap ((t : Int) + 1) = (t : Int) + 1 := by rw [IntKind.wrap_i64]; omega
        have ig1 : (0 : Int) ≤ (t : Int) + 1 := by omega
        have ig2 : (t : Int) + 1 < (n : Int) := by omega
        have i0 : ((t : Int) + 1 == (n : Int)) = false := by simp; omega
        clear hy
        go_wp2_with fail
        go_roundw
        case rel => exact ⟨t + 1, by omega, by go_num, hid (by rw [HSE.out, if_neg HEN.out, HM.out]; exact HE.out), hid (by rw [HSE.out, HSF.out, if_neg HEN.out, if_neg HEN.out, HM.out]; exact HF.out), HAP, HB⟩
        case measure => simp [intOf]; omega
    · obtain rfl : t = n := by omega
      have HML := hid (runEndsL_len (xs.map pS) t)
      have HMX := hid (runEndsL_lt (xs.map pS) t)
      have HHL := hid (runHeads_len (xs.map pS) t)
      generalize runEndsL (xs.map pS) t = es at *
      generalize runHeads (xs.map pS) t = hs at *
      obtain ⟨m, hm⟩ : ∃ m, es.length = m := ⟨_, rfl⟩
      have HM := hid hm
      simp only [hm] at HE HF HML HHL HRR
      have hm9 : m ≤ 1048576 := by have := HML.out; omega
      clear hm
      obtain ⟨E1, ce1, rfl, _⟩ := owns_form HE.out
      obtain ⟨F1, cf1, rfl, _⟩ := owns_form HF.out
      have HE' := hid (owns_rd HE.out)
      have HF' := hid (owns_rd HF.out)
      have HN0 := hid (AppendU32_any wr.heap.size (.slice none 0 0) [] m wr (OwnB.nil _ _) (Nat.le_refl _) (by omega) (by simp))
      rw [List.nil_append] at HN0
      have HHH : Hid ((leN 4 m).length = 4) := hid (leN_length 4 m)
      have HLE : Hid ((es.map Int.ofNat).length = m) := hid (by rw [List.length_map]; exact HM.out)
      have HLF : Hid ((hs.map Prod.snd).length = m) := hid (by rw [List.length_map]; exact HHL.out)
      have HXV : Hid (∀ x ∈ es.map Int.ofNat, 0 ≤ x ∧ x < 4294967296) := hid (by
        intro x hx
        obtain ⟨y, hy, rfl⟩ := List.mem_map.1 hx
        have := HMX.out y hy
        exact ⟨Int.natCast_nonneg _, by have h : Int.ofNat y = (y : Int) := rfl; omega⟩)
      clear HE HF HAP HU HMX HHL HM
      generalize es.map Int.ofNat = eI at *
      generalize hs.map Prod.snd = hI at *
      generalize leN 4 m = hd at *
      have HPE := hid (fun (A3 : Option Addr) (c3 : Nat) (w3 : World) (h1 : OwnB wr.heap.size w3 (.slice A3 hd.length c3) hd) (h2 : Below wr.heap.size wr w3) => AppendU32s_any wr.heap.size (.slice A3 hd.length c3) (.slice E1 m ce1) hd eI w3 h1 (Stay.low (by rw [HLE.out]; exact HE'.out) h2 (Nat.le_refl _)) HXV.out h2.size (by rw [HHH.out]; omega) (by rw [HLE.out]; omega))
      have HBL : Hid ((hd ++ le4 eI).length = 4 + 4 * m) := hid (by rw [List.length_append, HHH.out, le4_len, HLE.out])
      generalize hd ++ le4 eI = bs at *
      have HPL := hid (fun (A3 : Option Addr) (c3 : Nat) (w3 : World) (h1 : OwnB wr.heap.size w3 (.slice A3 bs.length c3) bs) (h2 : Below wr.heap.size wr w3) => AppendListS_any wr.heap.size (.slice A3 bs.length c3) (.slice F1 m cf1) bs hI w3 h1 (Stay.low (by rw [HLF.out]; exact HF'.out) h2 (Nat.le_refl _)) h2.size (by have := HBL.out; omega) (by rw [HLF.out]; omega) HHS.out)
      rw [← HRR.out] at HPL
      generalize wr = w2 at *
      have hma := m_Append_S
      go_wp2_with (first
        | (go_at_call 222; refine HN0.out.mono ?_; rintro e w3 ⟨r, rfl, h1, h2, h3, h4⟩; obtain ⟨A3, c3, rfl⟩ := h1.form; have H1 := hid h1; have H2 := hid h2; clear h1 h2 h3 h4)
        | (go_at_call 223; refine (HPE.out _ _ _ H1.out H2.out).mono ?_; rintro e w4 ⟨r, rfl, h1, h2, h3, h4⟩; obtain ⟨A4, c4, rfl⟩ := h1.form; have K1 := hid h1; have K2 := hid (H2.out.trans h2); clear h1 h2 h3 h4)
        | (go_at_call 264; refine (HPL.out _ _ _ K1.out K2.out).mono ?_; rintro e w5 ⟨r, rfl, h1, h2, h3, h4⟩; obtain ⟨A5, c5, rfl⟩ := h1.form; have M1 := hid h1; have M2 := hid (K2.out.trans h2); clear h1 h2 h3 h4))
      go_ret
      exact ⟨_, rfl, owns_low M1.out HB.out.size, HB.out.trans (M2.out.mono HB.out.size)⟩
end Go.Proofs.YthonbfojpbfmgaaGreatDoor

/- Package kernel: whether a test holds for a string. -/
set_option linter.unusedVariables false
set_option linter.unusedSimpArgs false
set_option linter.unnecessarySimpa false
set_option maxRecDepth 100000
namespace Go.Proofs.YthonbfojpbfmgaaGreatDoor
open Go.RowKit

theorem ordP_pSS (v l : ByteArray) : ordP (pS v) (pS l) = ordS v l := by
  unfold ordP pS
  simp only [Int.lt_irrefl, if_false]
theorem lt_eq_S {x y : ByteArray} (h : (x.toList == y.toList) = true) : Op.bytesLess x.toList y.toList = false := by
  rw [eq_of_beq h]; exact bytesLess_self _
theorem standsS_S (op : Int) (v l : ByteArray) : standsS op (ordP (pS v) (pS l)) =
    (if op = 1 then (v.toList == l.toList) else if op = 2 then !(v.toList == l.toList) else if op = 3 then Op.bytesLess v.toList l.toList else if op = 4 then Op.bytesLess v.toList l.toList || (v.toList == l.toList) else if op = 5 then !(Op.bytesLess v.toList l.toList || (v.toList == l.toList)) else decide (op = 6) && !Op.bytesLess v.toList l.toList) := by
  rw [ordP_pSS]
  have h1 := @lt_eq_S v l
  unfold standsS ordS ltS eqS
  generalize Op.bytesLess v.toList l.toList = p at *
  generalize (v.toList == l.toList) = q at *
  cases p <;> cases q <;> simp at h1 ⊢
theorem leafT_oneS (op : Int) (v l : ByteArray) (h : 1 ≤ op ∧ op ≤ 6) : leafT op ([l].map pS) (pS v) = standsS op (ordP (pS v) (pS l)) := by
  unfold leafT
  rw [if_neg (by omega), if_neg (by omega)]; rfl
theorem leafT_inS (v : ByteArray) (ls : List ByteArray) : leafT 7 (ls.map pS) (pS v) = foundS ls v := by
  unfold leafT
  rw [if_pos rfl, Bool.eq_iff_iff, List.any_eq_true, foundS_iff]
  constructor
  · rintro ⟨x, h1, h2⟩
    obtain ⟨y, hy, rfl⟩ := List.mem_map.1 h1
    rw [eqP_pS] at h2
    rw [← ba_ext (eq_of_beq h2)]; exact hy
  · intro h
    exact ⟨pS v, List.mem_map.2 ⟨v, h, rfl⟩, by rw [eqP_pS]; simp⟩
theorem leafT_twoS (v a b : ByteArray) : leafT 8 ([a, b].map pS) (pS v) = (!Op.bytesLess v.toList a.toList && (Op.bytesLess v.toList b.toList || (v.toList == b.toList))) := by
  unfold leafT
  rw [if_neg (by decide), if_pos rfl]
  show (decide (0 ≤ ordP (pS v) (pS a)) && decide (ordP (pS v) (pS b) ≤ 0)) = _
  rw [ordP_pSS, ordP_pSS]
  unfold ordS ltS eqS
  congr 1
  · cases Op.bytesLess v.toList a.toList <;> cases (v.toList == a.toList) <;> rfl
  · cases Op.bytesLess v.toList b.toList <;> cases (v.toList == b.toList) <;> rfl
set_option maxHeartbeats 8000000 in
theorem holdsS_any (op : Int) (lits : List ByteArray) (lv : Value) (v : ByteArray) (w : World) (hl : Rd w lv lits.length 1 (strs lits)) (hok : litsOk op lits.length) (hup : op = 7 → (∀ a b, a < b → b < lits.length → ltS (lits.getD a ByteArray.empty) (lits.getD b ByteArray.empty) = true)) (hll : lits.length ≤ 1048576) :
    Calls Tryz.prog 149 #[.agg #[.int .i64 op, lv], .string v] w fun e w' => e = .returned (.bool (leafT op (lits.map pS) (pS v))) ∧ Below w.heap.size w w' := by
  obtain ⟨ho1, ho2, ho3, ho4⟩ := hok
  have HL := hid hl
  obtain ⟨A, c, rfl, _, _, _⟩ := hl.form
  have HB0 := hid ((brefl w).alloc (Nat.le_refl _) (.cells #[.int .i64 op, .slice A lits.length c] 106))
  have HRT : Hid (Row (w.alloc (.cells #[.int .i64 op, .slice A lits.length c] 106)) w.heap.size 106 [.int .i64 op, .slice A lits.length c]) := hid (by unfold Row; rw [heap_alloc_new])
  clear hl
  have hcase : op ≤ 6 ∨ op = 7 ∨ op = 8 := by omega
  rcases hcase with h6 | rfl | rfl
  · obtain ⟨l0, rfl⟩ : ∃ l0, lits = [l0] := by
      have := ho3 h6
      match lits, this with
      | [x], _ => exact ⟨x, rfl⟩
    rw [leafT_oneS op v l0 ⟨ho1, h6⟩, standsS_S]
    have hop : op = 1 ∨ op = 2 ∨ op = 3 ∨ op = 4 ∨ op = 5 ∨ op = 6 := by omega
    clear ho1 ho2 ho3 ho4 h6 hup hll
    obtain ⟨b, o, rfl, hs⟩ := (HL.out.mono HB0.out).atS (by simp)
    have c0 := hs 0 (by simp)
    simp only [List.getD_cons_zero, Nat.add_zero] at c0
    simp only [List.length_singleton] at HB0 HRT c0 ⊢
    clear hs HL
    rcases hop with rfl | rfl | rfl | rfl | rfl | rfl
    · go_enter Tryz.func149, Tryz.ntmps149
      go_upto_region 1 with fail
      generalize w.alloc (.cells #[.int .i64 1, .slice (some ⟨b, o, none⟩) 1 c] 106) = w0 at *
      obtain ⟨k0, k1⟩ := cellP HRT.out
      go_wp2_with fail
      all_goals go_ret
      all_goals exact ⟨ret_bool (by first | rfl | simp), HB0.out⟩
    · go_enter Tryz.func149, Tryz.ntmps149
      go_upto_region 1 with fail
      generalize w.alloc (.cells #[.int .i64 2, .slice (some ⟨b, o, none⟩) 1 c] 106) = w0 at *
      obtain ⟨k0, k1⟩ := cellP HRT.out
      go_wp2_with fail
      all_goals go_ret
      all_goals exact ⟨ret_bool (by first | rfl | simp), HB0.out⟩
    · go_enter Tryz.func149, Tryz.ntmps149
      go_upto_region 1 with fail
      generalize w.alloc (.cells #[.int .i64 3, .slice (some ⟨b, o, none⟩) 1 c] 106) = w0 at *
      obtain ⟨k0, k1⟩ := cellP HRT.out
      go_wp2_with fail
      all_goals go_ret
      all_goals exact ⟨ret_bool (by first | rfl | simp), HB0.out⟩
    · go_enter Tryz.func149, Tryz.ntmps149
      go_upto_region 1 with fail
      generalize w.alloc (.cells #[.int .i64 4, .slice (some ⟨b, o, none⟩) 1 c] 106) = w0 at *
      obtain ⟨k0, k1⟩ := cellP HRT.out
      go_wp2_with fail
      all_goals go_ret
      all_goals exact ⟨ret_bool (by first | rfl | simp), HB0.out⟩
    · go_enter Tryz.func149, Tryz.ntmps149
      go_upto_region 1 with fail
      generalize w.alloc (.cells #[.int .i64 5, .slice (some ⟨b, o, none⟩) 1 c] 106) = w0 at *
      obtain ⟨k0, k1⟩ := cellP HRT.out
      go_wp2_with fail
      all_goals go_ret
      all_goals exact ⟨ret_bool (by first | rfl | simp), HB0.out⟩
    · go_enter Tryz.func149, Tryz.ntmps149
      go_upto_region 1 with fail
      generalize w.alloc (.cells #[.int .i64 6, .slice (some ⟨b, o, none⟩) 1 c] 106) = w0 at *
      obtain ⟨k0, k1⟩ := cellP HRT.out
      go_wp2_with fail
      all_goals go_ret
      all_goals exact ⟨ret_bool (by first | rfl | simp), HB0.out⟩
  · have hp := hup rfl
    have HUP := hid (hp)
    clear hup hp ho1 ho2 ho3 ho4
    rw [leafT_inS]
    have HBS := hid (fun (w2 : World) (h : Below w.heap.size w w2) => BinarySearchSf_any (.slice A lits.length c) lits v w2 (HL.out.mono h) hll HUP.out)
    generalize foundS lits v = fd at *
    generalize lits.length = n at *
    generalize firstGeS lits v = fg at *
    go_enter Tryz.func149, Tryz.ntmps149
    go_upto_region 1 with fail
    generalize w.alloc (.cells #[.int .i64 7, .slice A n c] 106) = w0 at *
    obtain ⟨k0, k1⟩ := cellP HRT.out
    go_wp2_with (go_at_call 190; refine (HBS.out w0 HB0.out).mono ?_; rintro e w5 ⟨rfl, nn, hw5⟩; have HB5 : Hid (Below w0.heap.size w0 w5) := (hid (by rw [hw5]; exact bdrew (brefl w0) nn)); clear hw5 k0 k1)
    go_ret
    exact ⟨rfl, HB0.out.trans (HB5.out.mono HB0.out.size)⟩
  · obtain ⟨a, b2, rfl⟩ : ∃ a b2, lits = [a, b2] := by
      have := ho4 rfl
      match lits, this with
      | [x, y], _ => exact ⟨x, y, rfl⟩
    rw [leafT_twoS]
    clear ho1 ho2 ho3 ho4 hup hll
    obtain ⟨b, o, rfl, hs⟩ := (HL.out.mono HB0.out).atS (by simp)
    have c0 := hs 0 (by simp)
    have c1 := hs 1 (by simp)
    simp only [List.getD_cons_zero, List.getD_cons_succ, Nat.add_zero] at c0 c1
    have hl2 : [a, b2].length = 2 := rfl
    simp only [hl2] at HB0 HRT c0 c1 ⊢
    clear hs HL hl2
    cases h1 : Op.bytesLess v.toList a.toList
    · go_enter Tryz.func149, Tryz.ntmps149
      go_upto_region 1 with fail
      generalize w.alloc (.cells #[.int .i64 8, .slice (some ⟨b, o, none⟩) 2 c] 106) = w0 at *
      obtain ⟨k0, k1⟩ := cellP HRT.out
      go_wp2_with fail
      all_goals go_ret
      all_goals exact ⟨ret_bool (by simp [h1]), HB0.out⟩
    · go_enter Tryz.func149, Tryz.ntmps149
      go_upto_region 1 with fail
      generalize w.alloc (.cells #[.int .i64 8, .slice (some ⟨b, o, none⟩) 2 c] 106) = w0 at *
      obtain ⟨k0, k1⟩ := cellP HRT.out
      go_wp2_with fail
      all_goals go_ret
      all_goals exact ⟨ret_bool (by simp [h1]), HB0.out⟩
end Go.Proofs.YthonbfojpbfmgaaGreatDoor
