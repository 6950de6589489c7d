/- Package codec: cells parted into values and the bitmap of the NULLs (strings). -/
import Derived.Test.YtdlkdiaobbakiaaGreatDoorLawencodeuptoB22
import Derived.Test.YtdlkdiaobbakiaaGreatDoorLawencodeuptoB4
import Derived.Test.YtdlkdiaobbakiaaGreatDoorLawencodeuptoB23
import Derived.Test.YtdlkdiaobbakiaaGreatDoorLawencodeuptoB1
import Derived.Deep.QuietTactic
set_option linter.unusedVariables false
set_option linter.unusedSimpArgs false
set_option linter.unnecessarySimpa false
set_option maxRecDepth 100000
namespace Go.Proofs.YtdlkdiaobbakiaaGreatDoor
open Go.RowKit

theorem m_Value_S : ∀ w : World, (method 329 44 (.agg #[]) "Value").run Tryz.prog w = .ok (218, .agg #[]) w := fun _ => by kernel_rfl
set_option maxHeartbeats 1000000 in
theorem ValueGen_S (n : Bool) (x : Int) (s : ByteArray) (w : World) : Calls Tryz.prog 218 #[.agg #[], .agg #[.bool n, .int .i64 x, .string s]] w fun e w' => e = .returned (.string s) ∧ Below w.heap.size w w' := by
  go_enter Tryz.func218, Tryz.ntmps218
  go_wp2
  go_ret
  exact ⟨rfl, ((brefl w).alloc (Nat.le_refl _) _).alloc (by simp) _⟩
set_option maxHeartbeats 8000000 in
theorem splitS_any (u : Value) (cs : List C3) (w : World) (hu : Rd w u cs.length 3 (cells3 cs)) (hl : cs.length ≤ 65536) :
    Calls Tryz.prog 54 #[.iface 44 (.agg #[]), u] w fun e w' => ∃ r1 r2, e = .returned (.tuple #[r1, r2]) ∧
      Rd w' r1 ((valsOf cs).map Prod.snd).length 1 (strs ((valsOf cs).map Prod.snd)) ∧ Rd w' r2 (bmL (cs.map C3.n)).length 1 (u64s (bmL (cs.map C3.n))) ∧ Below w.heap.size w w' := by
  have HU := hid hu
  obtain ⟨A1, c1, rfl, _, _, _⟩ := hu.form
  have hdn := nulls_dense cs hl
  obtain ⟨VR, hVR⟩ : ∃ VR, (valsOf cs).map Prod.snd = VR := ⟨_, rfl⟩
  obtain ⟨NB, hNB⟩ : ∃ NB, bmL (cs.map C3.n) = NB := ⟨_, rfl⟩
  rw [hVR, hNB]
  rw [hNB] at hdn
  have HDN := hid hdn
  have HVR := hid hVR
  have HVL0 : Hid ((valsOf cs).length = VR.length) := hid (by rw [← hVR, List.length_map])
  clear hu hdn hVR hNB
  go_enter Tryz.func54, Tryz.ntmps54
  go_wp2_with fail
  go_loopw [6, 7, 14] (fun fv ev i wr => ∃ t : Nat, t ≤ cs.length ∧ i = .int .i64 t ∧ Hid (wr.ownsRow w.heap.size 3 1 ev (nullIx cs t).length (i64s ((nullIx cs t).map Int.ofNat))) ∧ Hid (wr.ownsRow w.heap.size 9 1 fv (valsOf (cs.take t)).length (strs ((valsOf (cs.take t)).map Prod.snd))) ∧ Hid (Apart ev fv) ∧ Hid (Below w.heap.size w wr)) (fun _ _ i _ => cs.length - (intOf i).toNat)
  case atStart => exact ⟨0, by omega, rfl, hid (World.ownsRow_nil _ _ _ _), hid (World.ownsRow_nil _ _ _ _), hid (fun k h => by cases h), hid (brefl w)⟩
  case round =>
    obtain ⟨t, ht, rfl, HE, HF, HAP, HB⟩ := hrel
    by_cases hlt : t < cs.length
    · obtain ⟨b, o, rfl, hcells⟩ := (HU.out.mono HB.out).at3 (by omega)
      obtain ⟨l0, l1, l2⟩ := hcells t hlt
      clear hcells
      have HSE := hid (nullIx_succ cs t)
      have HSV := hid (valsOf_snoc (cs.take t) (cs.getD t C3.df))
      rw [← take_snoc cs C3.df t hlt] at HSV
      have HML := hid (nullIx_len cs t)
      have HVL := hid (valsOf_take_len cs t ht)
      generalize nullIx cs t = es at *
      generalize valsOf (cs.take t) = vs at *
      generalize cs.getD t C3.df = X at *
      obtain ⟨xn, xi, xs'⟩ := X
      simp only at l0 l1 l2 HSE HSV
      obtain ⟨m, hm⟩ : ∃ m, es.length = m := ⟨_, rfl⟩
      have HM := hid hm
      obtain ⟨k, hk⟩ : ∃ k, vs.length = k := ⟨_, rfl⟩
      have HKV := hid hk
      simp only [hm, hk] at HE HF HML HVL
      have hm9 : m ≤ 65536 := by have := HML.out; omega
      have hk9 : k ≤ 65536 := by have := HVL.out; omega
      clear hm hk
      obtain ⟨E1, ce1, rfl, _⟩ := owns_form HE.out
      obtain ⟨F1, cf1, rfl, _⟩ := owns_form HF.out
      have HBA := hid ((brefl wr).alloc (Nat.le_refl _) (.cells #[.bool xn, .int .i64 xi, .string xs'] 38))
      have HRW : Hid (Row (wr.alloc (.cells #[.bool xn, .int .i64 xi, .string xs'] 38)) wr.heap.size 38 [.bool xn, .int .i64 xi, .string xs']) := hid (by unfold Row; rw [heap_alloc_new])
      have HB4 := hid (HB.out.trans (HBA.out.mono HB.out.size))
      have HE4 := hid (owns_below HE.out HBA.out)
      have HF4 := hid (owns_below HF.out HBA.out)
      have HSZ4 := hid HB4.out.size
      go_upto_region 6 with fail
      generalize wr.alloc (.cells #[.bool xn, .int .i64 xi, .string xs'] 38) = w4 at *
      have k0 : w4.cell? ⟨wr.heap.size, 0, none⟩ = some (.bool xn) := by rw [HRW.out.cell]; rfl
      have k1 : w4.cell? ⟨wr.heap.size, 1, none⟩ = some (.int .i64 xi) := by rw [HRW.out.cell]; rfl
      have k2 : w4.cell? ⟨wr.heap.size, 2, none⟩ = some (.string xs') := by rw [HRW.out.cell]; rfl
      generalize wr.heap.size = q at *
      clear l0 l1 l2
      cases xn
      · simp only [Bool.false_eq_true, if_false] at HSE HSV
        have hmv := m_Value_S
        go_wp2_with (first
          | (go_at_call 218; refine (ValueGen_S false xi xs' _).mono ?_; rintro e w5 ⟨rfl, hb5⟩; have HB5 := hid (HB4.out.trans (hb5.mono HB4.out.size)); have HE5 := hid (owns_below HE4.out hb5); have HF5 := hid (owns_below HF4.out hb5); have HSZ5 := hid HB5.out.size; clear hb5 k0 k1 k2)
          | (at_builtin; refine wpList_append1W rfl (.tmp 25) (.tmp 29) rfl 9 (.string ByteArray.empty) 16 Tryz.underlying72 Tryz.infoStr rfl rfl rfl HF5.out HSZ5.out (by rfl) (by unfold maxLen; omega) (by omega) ?_; intro v6 w6 ho6 hb6 hz6 hk6 hw6))
        have HO6 := hid ho6
        have HB6 := hid hb6
        have HK6 := hid (show Kp _ w5 w6 v6 from ⟨hk6, fun k hk => by
          rcases hw6 with h | h
          · exact .inl (by rw [← h]; exact hk.symm)
          · exact .inr (h.1 k hk)⟩)
        clear ho6 hb6 hz6 hk6 hw6
        have HE6 := hid (owns_kp HE5.out HK6.out HAP.out.symm)
        have HAP6 := hid (HAP.out.right HK6.out (fun k hk => (HE5.out.lt k hk).2))
        go_roundw
        case rel =>
          have G1 : Hid ((valsOf (cs.take (t + 1))).length = k + 1) := hid (by rw [HSV.out, List.length_append, HKV.out]; rfl)
          have G3 : Hid (strs ((valsOf (cs.take (t + 1))).map Prod.snd) = strs (vs.map Prod.snd) ++ [.string xs']) := hid (by rw [HSV.out, List.map_append]; simp [strs])
          exact ⟨t + 1, by omega, by go_num, hid (by rw [HSE.out, HM.out]; exact HE6.out), hid (by rw [G1.out, G3.out]; exact HO6.out), HAP6, hid (HB5.out.trans HB6.out)⟩
        case measure => simp [intOf]; omega
      · simp only [if_true, List.append_nil] at HSE HSV
        go_wp2_with (at_builtin; refine wpList_append1W rfl (.tmp 21) (.tmp 23) rfl 3 (.int .i64 0) 8 Tryz.underlying23 Tryz.infoI64 rfl rfl rfl HE4.out HSZ4.out (by rfl) (by unfold maxLen; omega) (by omega) ?_; intro v6 w6 ho6 hb6 hz6 hk6 hw6)
        have HO6 := hid ho6
        have HB6 := hid hb6
        have HK6 := hid (show Kp _ w4 w6 v6 from ⟨hk6, fun k hk => by
          rcases hw6 with h | h
          · exact .inl (by rw [← h]; exact hk.symm)
          · exact .inr (h.1 k hk)⟩)
        clear ho6 hb6 hz6 hk6 hw6
        have HF6 := hid (owns_kp HF4.out HK6.out HAP.out)
        have HAP6 := hid (HAP.out.left HK6.out (fun k hk => (HF4.out.lt k hk).2))
        go_roundw
        case rel =>
          have G1 : Hid ((nullIx cs (t + 1)).length = m + 1) := hid (by rw [HSE.out, List.length_append, HM.out]; rfl)
          have G3 : Hid (i64s ((nullIx cs (t + 1)).map Int.ofNat) = i64s (es.map Int.ofNat) ++ [.int .i64 t]) := hid (by rw [HSE.out, List.map_append, i64s_append]; rfl)
          exact ⟨t + 1, by omega, by go_num, hid (by rw [G1.out, G3.out]; exact HO6.out), hid (by rw [HSV.out, HKV.out]; exact HF6.out), HAP6, hid (HB4.out.trans HB6.out)⟩
        case measure => simp [intOf]; omega
    · obtain rfl : t = cs.length := by omega
      rw [List.take_length] at HF
      rw [HVR.out, HVL0.out] at HF
      have HML := hid (nullIx_len cs cs.length)
      generalize nullIx cs cs.length = es at *
      have HLE : Hid ((es.map Int.ofNat).length = es.length) := hid (by rw [List.length_map])
      obtain ⟨E1, ce1, rfl, _⟩ := owns_form HE.out
      obtain ⟨F1, cf1, rfl, _⟩ := owns_form HF.out
      have HDE := hid (Dense_any (.slice E1 es.length ce1) (es.map Int.ofNat) cs.length wr (by rw [HLE.out]; exact owns_rd HE.out) (by rw [HLE.out]; have := HML.out; unfold maxLen; omega))
      rw [HDN.out] at HDE
      have HFR := hid (owns_rd HF.out)
      clear HE HF HAP HU HLE HDN HML HVR HVL0
      generalize es.map Int.ofNat = eI at *
      generalize denseOk cs.length eI = ok at *
      generalize wr = w2 at *
      go_wp2_with (go_at_call 79; refine HDE.out.mono ?_; rintro e w5 ⟨r, rfl, h1, h2⟩; obtain ⟨N1, cn1, rfl, _⟩ := owns_form h1; have H1 := hid (owns_rd h1); have H2 := hid h2; clear h1 h2)
      go_ret2
      exact ⟨_, _, rfl, HFR.out.mono H2.out, H1.out, HB.out.trans (H2.out.mono HB.out.size)⟩
end Go.Proofs.YtdlkdiaobbakiaaGreatDoor

/- Package codec: the payload of a codec, of both kinds. -/
set_option linter.unusedVariables false
set_option linter.unusedSimpArgs false
set_option linter.unnecessarySimpa false
set_option maxRecDepth 100000
namespace Go.Proofs.YtdlkdiaobbakiaaGreatDoor
open Go.RowKit

theorem PayAns.form {w w' : World} {e : Ending} {wo : Int} {ok : Bool} {bs : List Nat} (h : PayAns w w' e wo ok bs) : ∃ (A : Option Addr) (n c : Nat) (wr : Int), e = .returned (.tuple #[.slice A n c, .int .i64 wr, .bool ok]) ∧ (ok = true → wr = wo ∧ OwnB w.heap.size w' (.slice A n c) bs) ∧ Below w.heap.size w w' := by
  obtain ⟨r, wr, rfl, ⟨A, n, c, rfl⟩, h1, h2⟩ := h
  exact ⟨A, n, c, wr, rfl, h1, h2⟩
set_option maxHeartbeats 4000000 in
theorem payloadI_any (code : Nat) (hc : 1 ≤ code ∧ code ≤ 5) (wd : Int) (u : Value) (xs : List Int) (w : World) (hu : Rd w u xs.length 1 (i64s xs)) (hl : xs.length ≤ 1048576) :
    Calls Tryz.prog 58 #[.iface 46 (.agg #[]), u, .int .i64 code, .int .i64 wd] w fun e w' => PayAns w w' e (payW code wd (xs.map pI)) (payOk code wd (xs.map pI)) (payB 1 code wd (xs.map pI)) := by
  have HU := hid hu
  have HAL := hid (AppendListI_any w.heap.size (.slice none 0 0) u [] xs w (OwnB.nil _ _) (Stay.low hu (brefl _) (Nat.le_refl _)) (Nat.le_refl _) (by simp) hl)
  have HDC := hid (dictPayloadI_any xs u w hu hl)
  have HRU := hid (runsPayloadI_any xs u w hu hl)
  have HNU := hid (numbersI_any xs u w hu hl)
  have HFR := hid (fun (v : Value) (w2 : World) (h : Rd w2 v xs.length 1 (i64s xs)) => framePayload_any wd xs v w2 h hl)
  have HPY := hid (fun (v : Value) (w2 : World) (h : Rd w2 v xs.length 1 (i64s xs)) => packedPayload_any wd xs v w2 h hl)
  simp only [List.nil_append, ← listB_I] at HAL
  obtain ⟨A1, c1, rfl, _, _, _⟩ := hu.form
  clear hu
  generalize xs.length = n at *
  generalize xs.map pI = vs at *
  have hcc : code = 1 ∨ code = 2 ∨ code = 3 ∨ code = 4 ∨ code = 5 := by omega
  have hma := m_Append_I
  rcases hcc with rfl | rfl | rfl | rfl | rfl
  · change Calls _ _ _ _ fun e w' => PayAns w w' e 0 true (listB 1 vs)
    generalize listB 1 vs = R at *
    go_enter Tryz.func58, Tryz.ntmps58
    go_wp2_with (go_at_call 221; refine HAL.out.mono ?_; rintro e w1 ⟨r, rfl, h1, h2, h3, h4⟩; obtain ⟨A5, c5, rfl⟩ := h1.form; have K1 := hid h1; have K2 := hid h2; clear h1 h2 h3 h4)
    go_ret3
    exact ⟨_, _, rfl, ⟨_, _, _, rfl⟩, fun _ => ⟨rfl, K1.out⟩, K2.out⟩
  · change Calls _ _ _ _ fun e w' => PayAns w w' e (needN (diffP vs).length : Nat) (decide ((diffP vs).length ≤ 256)) (dictB 1 vs)
    generalize dictB 1 vs = R at *
    generalize decide ((diffP vs).length ≤ 256) = ok at *
    generalize needN (diffP vs).length = nw at *
    go_enter Tryz.func58, Tryz.ntmps58
    go_wp2_with (go_at_call 86; refine HDC.out.mono ?_; rintro e w1 hp; obtain ⟨A5, n5, c5, wr5, rfl, h1, h2⟩ := hp.form; have K1 := hid h1; have K2 := hid h2; clear h1 h2 hp)
    go_ret3
    exact ⟨_, _, rfl, ⟨_, _, _, rfl⟩, K1.out, K2.out⟩
  · change Calls _ _ _ _ fun e w' => PayAns w w' e 0 true (runsB 1 vs)
    generalize runsB 1 vs = R at *
    go_enter Tryz.func58, Tryz.ntmps58
    go_wp2_with (go_at_call 87; refine HRU.out.mono ?_; rintro e w1 ⟨r, rfl, h1, h2⟩; obtain ⟨A5, c5, rfl⟩ := h1.form; have K1 := hid h1; have K2 := hid h2; clear h1 h2)
    go_ret3
    exact ⟨_, _, rfl, ⟨_, _, _, rfl⟩, fun _ => ⟨rfl, K1.out⟩, K2.out⟩
  · change Calls _ _ _ _ fun e w' => PayAns w w' e wd (frameOk wd vs) (frameB wd vs)
    generalize frameB wd vs = R at *
    generalize frameOk wd vs = ok at *
    go_enter Tryz.func58, Tryz.ntmps58
    go_wp2_with (first
      | (go_at_call 88; refine HNU.out.mono ?_; rintro e w1 ⟨r, rfl, h1, h2⟩; obtain ⟨A5, c5, rfl, _⟩ := owns_form h1; have K1 := hid (owns_rd h1); have K2 := hid h2; clear h1 h2)
      | (go_at_call 82; refine (HFR.out _ w1 K1.out).mono ?_; rintro e w2 ⟨r, rfl, ⟨A6, n6, c6, rfl⟩, h1, h2⟩; have L1 := hid h1; have L2 := hid h2; clear h1 h2))
    go_ret3
    exact ⟨_, _, rfl, ⟨_, _, _, rfl⟩, fun h => ⟨rfl, owns_low (L1.out h) K2.out.size⟩, K2.out.trans (L2.out.mono K2.out.size)⟩
  · change Calls _ _ _ _ fun e w' => PayAns w w' e wd (packedOk wd vs) (packedB wd vs)
    generalize packedB wd vs = R at *
    generalize packedOk wd vs = ok at *
    go_enter Tryz.func58, Tryz.ntmps58
    go_wp2_with (first
      | (go_at_call 88; refine HNU.out.mono ?_; rintro e w1 ⟨r, rfl, h1, h2⟩; obtain ⟨A5, c5, rfl, _⟩ := owns_form h1; have K1 := hid (owns_rd h1); have K2 := hid h2; clear h1 h2)
      | (go_at_call 84; refine (HPY.out _ w1 K1.out).mono ?_; rintro e w2 ⟨r, rfl, ⟨A6, n6, c6, rfl⟩, h1, h2⟩; have L1 := hid h1; have L2 := hid h2; clear h1 h2))
    go_ret3
    exact ⟨_, _, rfl, ⟨_, _, _, rfl⟩, fun h => ⟨rfl, owns_low (L1.out h) K2.out.size⟩, K2.out.trans (L2.out.mono K2.out.size)⟩
set_option maxHeartbeats 4000000 in
theorem payloadS_any (code : Nat) (hc : 1 ≤ code ∧ code ≤ 3) (wd : Int) (u : Value) (xs : List ByteArray) (w : World) (hu : Rd w u xs.length 1 (strs xs)) (hl : xs.length ≤ 1048576) (hs : sumS xs ≤ 67108864) :
    Calls Tryz.prog 55 #[.iface 44 (.agg #[]), u, .int .i64 code, .int .i64 wd] w fun e w' => PayAns w w' e (payW code wd (xs.map pS)) (payOk code wd (xs.map pS)) (payB 2 code wd (xs.map pS)) := by
  have HU := hid hu
  have HAL := hid (AppendListS_any w.heap.size (.slice none 0 0) u [] xs w (OwnB.nil _ _) (Stay.low hu (brefl _) (Nat.le_refl _)) (Nat.le_refl _) (by simp) hl hs)
  have HDC := hid (dictPayloadS_any xs u w hu hl hs)
  have HRU := hid (runsPayloadS_any xs u w hu hl hs)
  simp only [List.nil_append, ← listB_S] at HAL
  obtain ⟨A1, c1, rfl, _, _, _⟩ := hu.form
  clear hu
  generalize xs.length = n at *
  generalize xs.map pS = vs at *
  have hcc : code = 1 ∨ code = 2 ∨ code = 3 := by omega
  have hma := m_Append_S
  rcases hcc with rfl | rfl | rfl
  · change Calls _ _ _ _ fun e w' => PayAns w w' e 0 true (listB 2 vs)
    generalize listB 2 vs = R at *
    go_enter Tryz.func55, Tryz.ntmps55
    go_wp2_with (go_at_call 215; refine HAL.out.mono ?_; rintro e w1 ⟨r, rfl, h1, h2, h3, h4⟩; obtain ⟨A5, c5, rfl⟩ := h1.form; have K1 := hid h1; have K2 := hid h2; clear h1 h2 h3 h4)
    go_ret3
    exact ⟨_, _, rfl, ⟨_, _, _, rfl⟩, fun _ => ⟨rfl, K1.out⟩, K2.out⟩
  · change Calls _ _ _ _ fun e w' => PayAns w w' e (needN (diffP vs).length : Nat) (decide ((diffP vs).length ≤ 256)) (dictB 2 vs)
    generalize dictB 2 vs = R at *
    generalize decide ((diffP vs).length ≤ 256) = ok at *
    generalize needN (diffP vs).length = nw at *
    go_enter Tryz.func55, Tryz.ntmps55
    go_wp2_with (go_at_call 80; refine HDC.out.mono ?_; rintro e w1 hp; obtain ⟨A5, n5, c5, wr5, rfl, h1, h2⟩ := hp.form; have K1 := hid h1; have K2 := hid h2; clear h1 h2 hp)
    go_ret3
    exact ⟨_, _, rfl, ⟨_, _, _, rfl⟩, K1.out, K2.out⟩
  · change Calls _ _ _ _ fun e w' => PayAns w w' e 0 true (runsB 2 vs)
    generalize runsB 2 vs = R at *
    go_enter Tryz.func55, Tryz.ntmps55
    go_wp2_with (go_at_call 81; refine HRU.out.mono ?_; rintro e w1 ⟨r, rfl, h1, h2⟩; obtain ⟨A5, c5, rfl⟩ := h1.form; have K1 := hid h1; have K2 := hid h2; clear h1 h2)
    go_ret3
    exact ⟨_, _, rfl, ⟨_, _, _, rfl⟩, fun _ => ⟨rfl, K1.out⟩, K2.out⟩
end Go.Proofs.YtdlkdiaobbakiaaGreatDoor

/- Package codec: encode, of integers. -/
set_option linter.unusedVariables false
set_option linter.unusedSimpArgs false
set_option linter.unnecessarySimpa false
set_option maxRecDepth 100000
namespace Go.Proofs.YtdlkdiaobbakiaaGreatDoor
open Go.RowKit

def enCode (c : Nat) (wd : Int) (vs : List PV) : Int := if payOk c wd vs = true then 0 else 4
def enB (kd c : Nat) (wd : Int) (cs : List C3) : List Nat := ([c, (payW c wd (valsOf cs)).toNat] ++ le8 (bmL (cs.map C3.n))) ++ payB kd c wd (valsOf cs)
set_option maxHeartbeats 4000000 in
theorem encodeI_any (c : Nat) (wd : Int) (hc : 1 ≤ c ∧ c ≤ 5) (hw : isWd c wd = true) (u : Value) (cs : List C3) (w : World) (hu : Rd w u cs.length 3 (cells3 cs)) (hl : cs.length ≤ 65536) (hv : valsOf cs = ((valsOf cs).map Prod.fst).map pI) (hs : sumT (valsOf cs) ≤ 67108864) :
    Calls Tryz.prog 35 #[.iface 46 (.agg #[]), u, .int .i64 c, .int .i64 wd] w fun e w' => EncAns w w' e (enCode c wd (valsOf cs)) (enB 1 c wd cs) := by
  have HSP := hid (splitI_any u cs w hu hl)
  have hvl := valsOf_len cs
  have HPO := hid (fun (v : Value) (w2 : World) (h : Rd w2 v ((valsOf cs).map Prod.fst).length 1 (i64s ((valsOf cs).map Prod.fst))) => payloadI_any c hc wd v ((valsOf cs).map Prod.fst) w2 h (by rw [List.length_map]; omega))
  rw [← hv] at HPO
  have hck : (isCodec 1 c && isWd c wd) = true := by
    rw [hw, Bool.and_true]
    unfold isCodec
    split
    · rfl
    · exact decide_eq_true ⟨by omega, by omega, rfl⟩
  obtain ⟨pw, hpw, hp64⟩ := payW_nat 1 c wd (valsOf cs) hck
  rw [Int.toNat_natCast] at hpw
  have HPB := hid (payB_len 1 c wd (valsOf cs) (by omega) hs (Nat.le_trans (diffP_sum _) hs))
  unfold enB enCode
  rw [hpw] at HPO ⊢
  rw [Int.toNat_natCast]
  obtain ⟨A1, c1, rfl, _, _, _⟩ := hu.form
  generalize payB 1 c wd (valsOf cs) = pb at *
  obtain ⟨ok, hok⟩ : ∃ ok, payOk c wd (valsOf cs) = ok := ⟨_, rfl⟩
  rw [hok] at HPO ⊢
  have HML := hid (bmL_len (cs.map C3.n))
  have HMX := hid (bmL_isBm (cs.map C3.n)).2.1
  rw [List.length_map] at HML
  have hwl : L.nWords 1 cs.length ≤ 65536 := Nat.le_trans (L.nWords_le (by omega)) (by omega)
  rw [← HML.out] at hwl
  generalize bmL (cs.map C3.n) = ws at *
  generalize (valsOf cs).map Prod.fst = xs at *
  generalize cs.length = n at *
  clear hu hv hs hvl hpw hok hck hw
  obtain ⟨R, hR⟩ : ∃ R, ([c, pw] ++ le8 ws) ++ pb = R := ⟨_, rfl⟩
  rw [hR]
  have HRR := hid hR
  clear hR
  have hcu : IntKind.u8.wrap (c : Int) = (c : Int) := by rw [IntKind.wrap_u8]; omega
  have hpu : IntKind.u8.wrap (pw : Int) = (pw : Int) := by rw [IntKind.wrap_u8]; omega
  go_enter Tryz.func35, Tryz.ntmps35
  cases ok
  · simp only [Bool.false_eq_true, if_false]
    go_wp2_with (first
      | (go_at_call 57; refine HSP.out.mono ?_; rintro e w1 ⟨r1, r2, rfl, h1, h2, h3⟩; obtain ⟨A2, c2, rfl, _, _, _⟩ := h1.form; obtain ⟨A3, c3, rfl, _, _, _⟩ := h2.form; have H1 := hid h1; have H2 := hid h2; have H3 := hid h3; clear h1 h2 h3)
      | (go_at_call 58; refine (HPO.out _ w1 H1.out).mono ?_; rintro e w2 hp; obtain ⟨A5, n5, c5, wr5, rfl, h1, h2⟩ := hp.form; have K2 := hid (H3.out.trans (h2.mono H3.out.size)); clear h1 h2 hp))
    go_ret2
    exact ⟨_, rfl, ⟨⟨_, _, _, rfl⟩, fun _ => rfl⟩, fun h => (by cases h), K2.out⟩
  · simp only [if_true]
    go_upto_region 5 with (first
      | (go_at_call 57; refine HSP.out.mono ?_; rintro e w1 ⟨r1, r2, rfl, h1, h2, h3⟩; obtain ⟨A2, c2, rfl, _, _, _⟩ := h1.form; obtain ⟨A3, c3, rfl, _, _, _⟩ := h2.form; have H1 := hid h1; have H2 := hid h2; have H3 := hid h3; clear h1 h2 h3)
      | (go_at_call 58; refine (HPO.out _ w1 H1.out).mono ?_; rintro e w2 hp; obtain ⟨A5, n5, c5, wr5, rfl, h1, h2⟩ := hp.form; obtain ⟨h4, h5⟩ := h1 rfl; subst h4; have K1 := hid h5; have K2 := hid h2; clear h1 h2 h5 hp))
    obtain ⟨bA, bc, hbb⟩ := K1.out.form
    injection hbb with hb1 hb2 hb3
    subst hb1 hb2 hb3
    have HBR := hid (owns_rd K1.out)
    have HNR := hid (H2.out.mono K2.out)
    have HB2 := hid (H3.out.trans (K2.out.mono H3.out.size))
    clear HSP HPO H1 H2 H3 K1 K2
    go_upto_region 6 with fail
    have HW6 := hid ((brefl w2).alloc (Nat.le_refl _) (.cells #[.int .u8 (c : Int), .int .u8 (pw : Int)] 5))
    have HO6 : Hid (OwnB w2.heap.size (w2.alloc (.cells #[.int .u8 (c : Int), .int .u8 (pw : Int)] 5)) (.slice (some ⟨w2.heap.size, 0, none⟩) 2 2) [c, pw]) := hid (own_two w2 _ _)
    have HS6 := hid (show w2.heap.size < (w2.alloc (.cells #[.int .u8 (c : Int), .int .u8 (pw : Int)] 5)).heap.size by simp)
    generalize w2.alloc (.cells #[.int .u8 (c : Int), .int .u8 (pw : Int)] 5) = w6 at *
    have HPA := hid (AppendU64s_any w2.heap.size (.slice (some ⟨w2.heap.size, 0, none⟩) 2 2) (.slice A3 ws.length c3) [c, pw] ws w6 HO6.out (Stay.low HNR.out HW6.out (Nat.le_refl _)) HMX.out HW6.out.size (by simp) (by omega))
    have HLEN : Hid (([c, pw] ++ le8 ws).length = 2 + 8 * ws.length) := hid (by rw [List.length_append, le8_len]; rfl)
    generalize [c, pw] ++ le8 ws = os at *
    have HQ2 := hid (show w2.heap.size ≤ w2.heap.size from Nat.le_refl _)
    generalize hq : w2.heap.size = q at HPA HO6 HS6 ⊢
    have HQ := hid hq
    clear hq
    go_wp2_with (first
      | (go_at_call 56; refine HPA.out.mono ?_; rintro e w7 ⟨r, rfl, h1, h2, h3, h4⟩; obtain ⟨A7, c7, rfl⟩ := h1.form; have L1 := hid h1; have L2 := hid (HW6.out.trans (by rw [HQ.out]; exact h2)); clear h1 h2 h3 h4; have HBR2 := hid (HBR.out.mono L2.out); have HSZ := hid (show q ≤ w7.heap.size by rw [← HQ.out]; exact L2.out.size))
      | (at_builtin; refine wpList_appendM rfl (.tmp 40) (.tmp 41) rfl 5 (.int .u8 0) 1 Tryz.underlying22 Tryz.infoU8 rfl rfl rfl L1.out HSZ.out HBR2.out (oneCell_u8s pb) (by have := HLEN.out; have := HPB.out; unfold maxLen; omega) (by have := HLEN.out; have := HPB.out; omega) ?_; intro v' w' ho hb3; have HFO := hid ho; have HFB := hid hb3; clear ho hb3))
    obtain ⟨A9, c9, rfl, _⟩ := owns_form HFO.out
    go_ret2
    have G2 := hid (HB2.out.trans ((L2.out.trans (by rw [HQ.out]; exact HFB.out)).mono HB2.out.size))
    have G1 : Hid (OwnB w.heap.size w' (.slice A9 (os.length + pb.length) c9) R) := hid (by
      unfold OwnB
      rw [← HRR.out]
      rw [List.length_append, show u8s (os ++ pb) = u8s os ++ u8s pb by simp [u8s]]
      exact owns_low HFO.out (by rw [← HQ.out]; exact HB2.out.size))
    exact ⟨_, rfl, ⟨⟨_, _, _, rfl⟩, fun h => absurd rfl h⟩, fun _ => G1.out, G2.out⟩
end Go.Proofs.YtdlkdiaobbakiaaGreatDoor

/- Package codec: encode, of strings. -/
set_option linter.unusedVariables false
set_option linter.unusedSimpArgs false
set_option linter.unnecessarySimpa false
set_option maxRecDepth 100000
namespace Go.Proofs.YtdlkdiaobbakiaaGreatDoor
open Go.RowKit

set_option maxHeartbeats 4000000 in
theorem encodeS_any (c : Nat) (wd : Int) (hc : 1 ≤ c ∧ c ≤ 3) (hw : isWd c wd = true) (u : Value) (cs : List C3) (w : World) (hu : Rd w u cs.length 3 (cells3 cs)) (hl : cs.length ≤ 65536) (hv : valsOf cs = ((valsOf cs).map Prod.snd).map pS) (hs : sumT (valsOf cs) ≤ 67108864) :
    Calls Tryz.prog 34 #[.iface 44 (.agg #[]), u, .int .i64 c, .int .i64 wd] w fun e w' => EncAns w w' e (enCode c wd (valsOf cs)) (enB 2 c wd cs) := by
  have HSP := hid (splitS_any u cs w hu hl)
  have hvl := valsOf_len cs
  have HPO := hid (fun (v : Value) (w2 : World) (h : Rd w2 v ((valsOf cs).map Prod.snd).length 1 (strs ((valsOf cs).map Prod.snd))) => payloadS_any c hc wd v ((valsOf cs).map Prod.snd) w2 h (by rw [List.length_map]; omega) hs)
  rw [← hv] at HPO
  have hck : (isCodec 2 c && isWd c wd) = true := by
    rw [hw, Bool.and_true]
    unfold isCodec
    split
    · rfl
    · omega
  obtain ⟨pw, hpw, hp64⟩ := payW_nat 2 c wd (valsOf cs) hck
  rw [Int.toNat_natCast] at hpw
  have HPB := hid (payB_len 2 c wd (valsOf cs) (by omega) hs (Nat.le_trans (diffP_sum _) hs))
  unfold enB enCode
  rw [hpw] at HPO ⊢
  rw [Int.toNat_natCast]
  obtain ⟨A1, c1, rfl, _, _, _⟩ := hu.form
  generalize payB 2 c wd (valsOf cs) = pb at *
  obtain ⟨ok, hok⟩ : ∃ ok, payOk c wd (valsOf cs) = ok := ⟨_, rfl⟩
  rw [hok] at HPO ⊢
  have HML := hid (bmL_len (cs.map C3.n))
  have HMX := hid (bmL_isBm (cs.map C3.n)).2.1
  rw [List.length_map] at HML
  have hwl : L.nWords 1 cs.length ≤ 65536 := Nat.le_trans (L.nWords_le (by omega)) (by omega)
  rw [← HML.out] at hwl
  generalize bmL (cs.map C3.n) = ws at *
  generalize (valsOf cs).map Prod.snd = xs at *
  generalize cs.length = n at *
  clear hu hv hs hvl hpw hok hck hw
  obtain ⟨R, hR⟩ : ∃ R, ([c, pw] ++ le8 ws) ++ pb = R := ⟨_, rfl⟩
  rw [hR]
  have HRR := hid hR
  clear hR
  have hcu : IntKind.u8.wrap (c : Int) = (c : Int) := by rw [IntKind.wrap_u8]; omega
  have hpu : IntKind.u8.wrap (pw : Int) = (pw : Int) := by rw [IntKind.wrap_u8]; omega
  go_enter Tryz.func34, Tryz.ntmps34
  cases ok
  · simp only [Bool.false_eq_true, if_false]
    go_wp2_with (first
      | (go_at_call 54; refine HSP.out.mono ?_; rintro e w1 ⟨r1, r2, rfl, h1, h2, h3⟩; obtain ⟨A2, c2, rfl, _, _, _⟩ := h1.form; obtain ⟨A3, c3, rfl, _, _, _⟩ := h2.form; have H1 := hid h1; have H2 := hid h2; have H3 := hid h3; clear h1 h2 h3)
      | (go_at_call 55; refine (HPO.out _ w1 H1.out).mono ?_; rintro e w2 hp; obtain ⟨A5, n5, c5, wr5, rfl, h1, h2⟩ := hp.form; have K2 := hid (H3.out.trans (h2.mono H3.out.size)); clear h1 h2 hp))
    go_ret2
    exact ⟨_, rfl, ⟨⟨_, _, _, rfl⟩, fun _ => rfl⟩, fun h => (by cases h), K2.out⟩
  · simp only [if_true]
    go_upto_region 5 with (first
      | (go_at_call 54; refine HSP.out.mono ?_; rintro e w1 ⟨r1, r2, rfl, h1, h2, h3⟩; obtain ⟨A2, c2, rfl, _, _, _⟩ := h1.form; obtain ⟨A3, c3, rfl, _, _, _⟩ := h2.form; have H1 := hid h1; have H2 := hid h2; have H3 := hid h3; clear h1 h2 h3)
      | (go_at_call 55; refine (HPO.out _ w1 H1.out).mono ?_; rintro e w2 hp; obtain ⟨A5, n5, c5, wr5, rfl, h1, h2⟩ := hp.form; obtain ⟨h4, h5⟩ := h1 rfl; subst h4; have K1 := hid h5; have K2 := hid h2; clear h1 h2 h5 hp))
    obtain ⟨bA, bc, hbb⟩ := K1.out.form
    injection hbb with hb1 hb2 hb3
    subst hb1 hb2 hb3
    have HBR := hid (owns_rd K1.out)
    have HNR := hid (H2.out.mono K2.out)
    have HB2 := hid (H3.out.trans (K2.out.mono H3.out.size))
    clear HSP HPO H1 H2 H3 K1 K2
    go_upto_region 6 with fail
    have HW6 := hid ((brefl w2).alloc (Nat.le_refl _) (.cells #[.int .u8 (c : Int), .int .u8 (pw : Int)] 5))
    have HO6 : Hid (OwnB w2.heap.size (w2.alloc (.cells #[.int .u8 (c : Int), .int .u8 (pw : Int)] 5)) (.slice (some ⟨w2.heap.size, 0, none⟩) 2 2) [c, pw]) := hid (own_two w2 _ _)
    have HS6 := hid (show w2.heap.size < (w2.alloc (.cells #[.int .u8 (c : Int), .int .u8 (pw : Int)] 5)).heap.size by simp)
    generalize w2.alloc (.cells #[.int .u8 (c : Int), .int .u8 (pw : Int)] 5) = w6 at *
    have HPA := hid (AppendU64s_any w2.heap.size (.slice (some ⟨w2.heap.size, 0, none⟩) 2 2) (.slice A3 ws.length c3) [c, pw] ws w6 HO6.out (Stay.low HNR.out HW6.out (Nat.le_refl _)) HMX.out HW6.out.size (by simp) (by omega))
    have HLEN : Hid (([c, pw] ++ le8 ws).length = 2 + 8 * ws.length) := hid (by rw [List.length_append, le8_len]; rfl)
    generalize [c, pw] ++ le8 ws = os at *
    have HQ2 := hid (show w2.heap.size ≤ w2.heap.size from Nat.le_refl _)
    generalize hq : w2.heap.size = q at HPA HO6 HS6 ⊢
    have HQ := hid hq
    clear hq
    go_wp2_with (first
      | (go_at_call 56; refine HPA.out.mono ?_; rintro e w7 ⟨r, rfl, h1, h2, h3, h4⟩; obtain ⟨A7, c7, rfl⟩ := h1.form; have L1 := hid h1; have L2 := hid (HW6.out.trans (by rw [HQ.out]; exact h2)); clear h1 h2 h3 h4; have HBR2 := hid (HBR.out.mono L2.out); have HSZ := hid (show q ≤ w7.heap.size by rw [← HQ.out]; exact L2.out.size))
      | (at_builtin; refine wpList_appendM rfl (.tmp 40) (.tmp 41) rfl 5 (.int .u8 0) 1 Tryz.underlying22 Tryz.infoU8 rfl rfl rfl L1.out HSZ.out HBR2.out (oneCell_u8s pb) (by have := HLEN.out; have := HPB.out; unfold maxLen; omega) (by have := HLEN.out; have := HPB.out; omega) ?_; intro v' w' ho hb3; have HFO := hid ho; have HFB := hid hb3; clear ho hb3))
    obtain ⟨A9, c9, rfl, _⟩ := owns_form HFO.out
    go_ret2
    have G2 := hid (HB2.out.trans ((L2.out.trans (by rw [HQ.out]; exact HFB.out)).mono HB2.out.size))
    have G1 : Hid (OwnB w.heap.size w' (.slice A9 (os.length + pb.length) c9) R) := hid (by
      unfold OwnB
      rw [← HRR.out]
      rw [List.length_append, show u8s (os ++ pb) = u8s os ++ u8s pb by simp [u8s]]
      exact owns_low HFO.out (by rw [← HQ.out]; exact HB2.out.size))
    exact ⟨_, rfl, ⟨⟨_, _, _, rfl⟩, fun h => absurd rfl h⟩, fun _ => G1.out, G2.out⟩
end Go.Proofs.YtdlkdiaobbakiaaGreatDoor

/- Package codec: Encode. -/
set_option linter.unusedVariables false
set_option linter.unusedSimpArgs false
set_option linter.unnecessarySimpa false
set_option maxRecDepth 100000
namespace Go.Proofs.YtdlkdiaobbakiaaGreatDoor
open Go.RowKit

theorem isCodec_kind {k c : Int} (h : isCodec k c = true) : isKind k = true := by
  unfold isCodec at h
  split at h
  · exact h
  · simp only [decide_eq_true_eq] at h
    unfold isKind; exact decide_eq_true (.inl h.2.2)
theorem encBad_eq (k c wd : Int) (cs : List C3) : encBad k c wd cs = !(areC k cs && (isCodec k c && isWd c wd)) := by
  unfold encBad areC
  cases hc : isCodec k c with
  | false => simp
  | true =>
    rw [isCodec_kind hc]
    unfold isRows
    cases isWd c wd with
    | false => simp
    | true =>
      by_cases h : 65536 < cs.length
      · rw [decide_eq_true h, decide_eq_false (by omega)]; simp
      · rw [decide_eq_false h, decide_eq_true (by omega)]; simp
theorem vals_I (cs : List C3) (h : cs.all (ofK 1) = true) : valsOf cs = ((valsOf cs).map Prod.fst).map pI := by
  rw [List.map_map]
  refine ((List.map_id _).symm.trans (List.map_congr_left (fun x hx => ?_)))
  unfold valsOf at hx
  obtain ⟨c, hc, rfl⟩ := List.mem_map.1 hx
  obtain ⟨h1, h2⟩ := List.mem_filter.1 hc
  have h3 := List.all_eq_true.1 h c h1
  unfold ofK at h3
  rw [if_neg (by simpa using h2), if_pos rfl] at h3
  show (c.i, c.s) = (c.i, ByteArray.empty)
  refine pv_ext rfl ?_
  show c.s.toList = _
  rw [List.isEmpty_iff] at h3
  rw [h3, ByteArray.toList_eq]; rfl
theorem vals_S (cs : List C3) (h : cs.all (ofK 2) = true) : valsOf cs = ((valsOf cs).map Prod.snd).map pS := by
  rw [List.map_map]
  refine ((List.map_id _).symm.trans (List.map_congr_left (fun x hx => ?_)))
  unfold valsOf at hx
  obtain ⟨c, hc, rfl⟩ := List.mem_map.1 hx
  obtain ⟨h1, h2⟩ := List.mem_filter.1 hc
  have h3 := List.all_eq_true.1 h c h1
  unfold ofK at h3
  rw [if_neg (by simpa using h2), if_neg (by decide)] at h3
  simp only [decide_eq_true_eq] at h3
  show (c.i, c.s) = (0, c.s)
  rw [h3.2.1]
set_option maxHeartbeats 4000000 in
theorem Encode_any (k c wd : Int) (u : Value) (cs : List C3) (w : World) (hu : Rd w u cs.length 3 (cells3 cs)) (hl : cs.length ≤ 1048576) (hs : sumT (valsOf cs) ≤ 67108864) :
    Calls Tryz.prog 15 #[.int .i64 k, u, .int .i64 c, .int .i64 wd] w fun e w' => EncAns w w' e (encCode k c wd cs) (encB k c wd cs) := by
  have HU := hid hu
  have HS := hid hs
  have HAC := hid (AreCells_any k u cs w hu hl)
  have HIC := hid (fun (w2 : World) => IsCodec_any k c w2)
  have HIW := hid (fun (w2 : World) => IsWidth_any c wd w2)
  obtain ⟨A1, c1, rfl, _, _, _⟩ := hu.form
  clear hu hs
  obtain ⟨R, hR⟩ : ∃ R, encB k c wd cs = R := ⟨_, rfl⟩
  obtain ⟨code, hcode⟩ : ∃ code, encCode k c wd cs = code := ⟨_, rfl⟩
  have HRR := hid hR
  have HCO := hid hcode
  rw [hR, hcode]
  clear hR hcode
  unfold encCode at HCO
  rw [encBad_eq] at HCO
  have HYS : Hid (areC k cs = true → isCodec k c = true → isWd c wd = true → cs.length ≤ 65536 ∧ cs.all (ofK k) = true) := hid (fun h1 h2 h3 => by
    unfold areC at h1
    simp only [Bool.and_eq_true] at h1
    refine ⟨?_, h1.2⟩
    have h4 := h1.1.2
    unfold isRows at h4
    simp only [decide_eq_true_eq] at h4; omega)
  obtain ⟨ac, hac⟩ : ∃ ac, areC k cs = ac := ⟨_, rfl⟩
  obtain ⟨ic, hic⟩ : ∃ ic, isCodec k c = ic := ⟨_, rfl⟩
  obtain ⟨iw, hiw⟩ : ∃ iw, isWd c wd = iw := ⟨_, rfl⟩
  rw [hac] at HAC
  rw [hic] at HIC
  rw [hiw] at HIW
  rw [hac, hic, hiw] at HCO HYS
  have HW1 := hid hiw
  have HC1 := hid hic
  clear hac hic hiw
  cases ac
  · have HNO := hid (show code = 5 by rw [← HCO.out]; rfl)
    clear HCO HYS
    go_enter Tryz.func15, Tryz.ntmps15
    go_wp2_with (go_at_call 31; refine HAC.out.mono ?_; rintro e w1 ⟨rfl, h1⟩; have H1 := hid h1; clear h1)
    go_ret2
    exact encAns_no HNO.out (by decide) H1.out
  cases ic
  · have HNO := hid (show code = 5 by rw [← HCO.out]; rfl)
    clear HCO HYS
    go_enter Tryz.func15, Tryz.ntmps15
    go_wp2_with (first
      | (go_at_call 31; refine HAC.out.mono ?_; rintro e w1 ⟨rfl, h1⟩; have H1 := hid h1; clear h1)
      | (go_at_call 32; refine (HIC.out _).mono ?_; rintro e w2 ⟨rfl, hw⟩; replace hw := hw.symm; subst hw))
    go_ret2
    exact encAns_no HNO.out (by decide) H1.out
  cases iw
  · have HNO := hid (show code = 5 by rw [← HCO.out]; rfl)
    clear HCO HYS
    go_enter Tryz.func15, Tryz.ntmps15
    go_wp2_with (first
      | (go_at_call 31; refine HAC.out.mono ?_; rintro e w1 ⟨rfl, h1⟩; have H1 := hid h1; clear h1)
      | (go_at_call 32; refine (HIC.out _).mono ?_; rintro e w2 ⟨rfl, hw⟩; replace hw := hw.symm; subst hw)
      | (go_at_call 33; refine (HIW.out _).mono ?_; rintro e w2 ⟨rfl, hw⟩; replace hw := hw.symm; subst hw))
    go_ret2
    exact encAns_no HNO.out (by decide) H1.out
  obtain ⟨hl9, hall⟩ := HYS.out rfl rfl rfl
  obtain ⟨kd, cn, rfl, rfl, hkd, hc1, hc5⟩ := isCodec_nat k c wd (by rw [HC1.out, HW1.out]; rfl)
  unfold encB at HRR
  simp only [Int.toNat_natCast] at HRR HCO
  rcases hkd with rfl | rfl
  · have HEN := hid (fun (w2 : World) (h : Below w.heap.size w w2) => encodeI_any cn wd ⟨hc1, hc5⟩ HW1.out (.slice A1 cs.length c1) cs w2 (HU.out.mono h) hl9 (vals_I cs hall) HS.out)
    have hen : enB 1 cn wd cs = R := HRR.out
    have hec : enCode cn wd (valsOf cs) = code := HCO.out
    rw [hen, hec] at HEN
    clear HYS HCO HRR hall hen hec
    go_enter Tryz.func15, Tryz.ntmps15
    go_wp2_with (first
      | (go_at_call 31; refine HAC.out.mono ?_; rintro e w1 ⟨rfl, h1⟩; have H1 := hid h1; clear h1)
      | (go_at_call 32; refine (HIC.out _).mono ?_; rintro e w2 ⟨rfl, hw⟩; replace hw := hw.symm; subst hw)
      | (go_at_call 33; refine (HIW.out _).mono ?_; rintro e w2 ⟨rfl, hw⟩; replace hw := hw.symm; subst hw)
      | (go_at_call 35; refine (HEN.out _ H1.out).mono ?_; rintro e w3 ⟨r, rfl, ⟨⟨A5, n5, c5, rfl⟩, hz⟩, h1, h2⟩; have LZ := hid hz; have L1 := hid h1; have L2 := hid h2; clear h1 h2 hz))
    go_ret2
    exact ⟨_, rfl, ⟨⟨_, _, _, rfl⟩, LZ.out⟩, fun h => owns_low (L1.out h) H1.out.size, H1.out.trans (L2.out.mono H1.out.size)⟩
  · have hc3 : cn ≤ 3 := by
      have h := HC1.out
      unfold isCodec at h
      split at h
      · omega
      · simp only [decide_eq_true_eq] at h; omega
    have HEN := hid (fun (w2 : World) (h : Below w.heap.size w w2) => encodeS_any cn wd ⟨hc1, hc3⟩ HW1.out (.slice A1 cs.length c1) cs w2 (HU.out.mono h) hl9 (vals_S cs hall) HS.out)
    have hen : enB 2 cn wd cs = R := HRR.out
    have hec : enCode cn wd (valsOf cs) = code := HCO.out
    rw [hen, hec] at HEN
    clear HYS HCO HRR hall hen hec
    go_enter Tryz.func15, Tryz.ntmps15
    go_wp2_with (first
      | (go_at_call 31; refine HAC.out.mono ?_; rintro e w1 ⟨rfl, h1⟩; have H1 := hid h1; clear h1)
      | (go_at_call 32; refine (HIC.out _).mono ?_; rintro e w2 ⟨rfl, hw⟩; replace hw := hw.symm; subst hw)
      | (go_at_call 33; refine (HIW.out _).mono ?_; rintro e w2 ⟨rfl, hw⟩; replace hw := hw.symm; subst hw)
      | (go_at_call 34; refine (HEN.out _ H1.out).mono ?_; rintro e w3 ⟨r, rfl, ⟨⟨A5, n5, c5, rfl⟩, hz⟩, h1, h2⟩; have LZ := hid hz; have L1 := hid h1; have L2 := hid h2; clear h1 h2 hz))
    go_ret2
    exact ⟨_, rfl, ⟨⟨_, _, _, rfl⟩, LZ.out⟩, fun h => owns_low (L1.out h) H1.out.size, H1.out.trans (L2.out.mono H1.out.size)⟩
end Go.Proofs.YtdlkdiaobbakiaaGreatDoor

/- The laws' own helpers over cells: layCells, sameCells. -/
set_option linter.unusedVariables false
set_option linter.unusedSimpArgs false
set_option linter.unnecessarySimpa false
set_option maxRecDepth 20000
namespace Go.Proofs.YtdlkdiaobbakiaaGreatDoor
open Go.RowKit

theorem run_copy_rowS {P : Program} (w : World) (dT sT ty elem : TypeId) (g o dLen dCap sz : Nat) (a : Addr) (sLen sCap : Nat) (cur : Array Value) (t : TypeId) (cs : List Value)
    (hu : P.underlying dT = some (.slice elem)) (hs : (P.info? elem).map (·.size) = some sz)
    (hg : w.heap[g]? = some (.cells cur t (0, 0))) (hn : cs.length = Nat.min sLen dLen * sz)
    (hsrc : ∀ j v, cs[j]? = some v → w.cell? (a.add j) = some v) (hfit : o + cs.length ≤ cur.size) (h1 : ∀ v ∈ cs, v.oneCell' = true) :
    (Builtin.copy_ #[dT, sT] ty #[.slice (some ⟨g, o, none⟩) dLen dCap, .slice (some a) sLen sCap]).run P w =
      .ok (goInt (Nat.min sLen dLen : Nat)) (w.setRow g (cur.toList.take o ++ cs ++ cur.toList.drop (o + cs.length)).toArray) := by
  have hl := run_loadCells_list (P := P) w a cs hsrc
  have hst := run_storeCells_at g o t cs 0 cur w hg (by simpa using hfit) h1 (P := P)
  cases hq : P.info? elem with
  | none => simp [hq] at hs
  | some i =>
    have hi : i.size = sz := by simpa [hq] using hs
    simp [Builtin.copy_, run_underlying hu, Builtin.lenOf, Builtin.firstCells, sizeOf, typeInfo, hq, hi, ← hn, hl, hst]
/-- 'copy(row, src)', a row of the call's own that is long enough, an element of sz cells -/
theorem upon_copyS {P : Program} {w : World} {o : Oper} {a : Act} {K : Act → World → Prop} {Q : Exit → Act → World → Prop} {dT sT ty : TypeId}
    (elem : TypeId) (sz : Nat) (hu : P.underlying dT = some (.slice elem)) (hsz : (P.info? elem).map (·.size) = some sz)
    {g dLen dCap : Nat} {v : Value} {t : TypeId} {cur src : List Value} {n : Nat} (hg : Row w g t cur) (hs : Rd w v n sz src) (h1 : ∀ v ∈ src, v.oneCell' = true) (hnd : n ≤ dLen) (hfit : n * sz ≤ cur.length)
    (hK : ∀ w', Row w' g t (src ++ cur.drop (n * sz)) → (∀ k, k ≠ g → w'.heap[k]? = w.heap[k]?) → Below g w w' → w'.heap.size = w.heap.size → K (a.put o.dst (goInt (n : Nat))) w') :
    o.upon P a K Q ((Sem.run P (Builtin.copy_ #[dT, sT] ty #[.slice (some ⟨g, 0, none⟩) dLen dCap, v]) w).andThen fun b w' => Result.ok (Next.value b) w') := by
  have hmin : Nat.min n dLen = n := Nat.min_eq_left hnd
  rcases hs.2 with ⟨⟨A, rfl⟩, rfl⟩ | ⟨b, o', cap, rfl, h2, h3, hseg⟩
  · have : src = [] := List.eq_nil_of_length_eq_zero (by have := hs.1; omega)
    subst this
    have hK' := hK w (by simpa using hg) (fun _ _ => rfl) (Below.refl _ _) rfl
    have hw : w.setRow g cur.toArray = w := setRow_self w g cur.toArray t (0, 0) hg
    cases A with
    | none =>
      have hi : ((P.info? elem).map (·.size)).isSome = true := by rw [hsz]; rfl
      have hr := run_copy_nil (P := P) w dT sT ty elem ⟨g, 0, none⟩ dLen dCap hu hi
      exact upon_ok hr hK'
    | some a' =>
      have hr := run_copy_rowS (P := P) w dT sT ty elem g 0 dLen dCap sz a' 0 0 cur.toArray t [] hu hsz hg (by simp) (fun j v hv => by simp at hv) (by simp) (fun v hv => by simp at hv)
      refine upon_ok hr ?_
      simp only [List.append_nil, List.length_nil, Nat.add_zero, List.take_append_drop, Array.toArray_toList, hw, hmin]
      exact hK'
  · have hlen := hs.1
    have hr := run_copy_rowS (P := P) w dT sT ty elem g 0 dLen dCap sz ⟨b, o', none⟩ n cap cur.toArray t src hu hsz hg (by rw [hmin]; exact hlen)
      (fun j v hv => by rw [addr_add]; exact hseg j v hv) (by simp; omega) h1
    rw [hmin] at hr
    refine upon_ok hr (hK _ ?_ ?_ ?_ (by simp))
    · unfold Row
      rw [setRow_heap w g cur.toArray _ t _ hg]
      simp [hlen]
    · intro k hk; exact setRow_other w g k _ hk
    · exact ⟨rfl, rfl, rfl, by simp, fun k hk => setRow_other w g k _ (by omega)⟩
/-- 'make([]T, n)' for an element of sz cells -/
theorem upon_makeS {P : Program} {w : World} {o : Oper} {a : Act} {K : Act → World → Prop} {Q : Exit → Act → World → Prop} {t : TypeId} {kl kc : IntKind} {L C : Int}
    (e : TypeId) (zs : List Value) (sz bytes : Nat) (h1 : P.underlying t = some (.slice e)) (h2 : (P.info? e).map (fun i => (i.zero, i.size, i.bytes)) = some (some (.agg zs.toArray), sz, bytes)) (hz : zs.length = sz)
    (n : Nat) (hL : L = (n : Int)) (hC : C = (n : Int)) (b2 : bytes * n ≤ 281474976710656) (b3 : n ≤ maxLen)
    (hK : ∀ w' cs, cs.length = n * sz → Row w' w.heap.size e cs → Below w.heap.size w w' → w'.heap.size = w.heap.size + 1 → K (a.put o.dst (.slice (some ⟨w.heap.size, 0, none⟩) n n)) w') :
    o.upon P a K Q ((Sem.run P (Instr.makeSlice t (.int kl L) (.int kc C)) w).andThen fun b w' => Result.ok (Next.value b) w') := by
  obtain ⟨i, hi, hz0, hz1, hz2⟩ := info_parts h2
  subst hL
  subst hC
  have hb : (i.bytes : Int) * (n : Int) ≤ 281474976710656 := by
    have h : ((i.bytes * n : Nat) : Int) ≤ 281474976710656 := by rw [hz2]; omega
    rwa [Int.natCast_mul] at h
  have h63 : (n : Int) ≤ 9223372036854775807 := by unfold maxLen at b3; omega
  have hr := run_make (P := P) w t e i _ h1 hi hz0 kl kc n n (by omega) (Int.le_refl _) hb h63
  simp only [Int.toNat_natCast, hz1] at hr
  refine upon_ok hr (hK _ (madeCells (Value.agg zs.toArray).cells (n * sz)).toList (by rw [Array.length_toList, size_madeCells]) ?_ ((Below.refl _ _).alloc (Nat.le_refl _) _) (by simp))
  unfold Row
  rw [heap_alloc_new]
theorem Tryz.infoC3 : (Tryz.prog.info? 38).map (fun i => (i.zero, i.size, i.bytes)) = some (some (.agg [.bool false, .int .i64 0, .string ByteArray.empty].toArray), 3, 32) := by kernel_rfl
def tailC (m : Nat) : List C3 := (List.range m).map fun j : Nat => ⟨true, 131 + (j : Int), ByteArray.empty⟩
theorem tailC_succ (j : Nat) : tailC (j + 1) = tailC j ++ [⟨true, 131 + (j : Int), ByteArray.empty⟩] := by simp [tailC, List.range_succ]
theorem tailC_length (m : Nat) : (tailC m).length = m := by simp [tailC]
theorem three (cs : List Value) (h : 3 ≤ cs.length) : ∃ x y z r, cs = x :: y :: z :: r := by
  match cs, h with
  | x :: y :: z :: r, _ => exact ⟨x, y, z, r, rfl⟩
theorem set3 (pre r : List Value) (x y z a b c : Value) (o : Nat) (ho : pre.length = o) : (((pre ++ x :: y :: z :: r).set o a).set (o + 1) b).set (o + 2) c = (pre ++ [a, b, c]) ++ r := by
  subst ho
  simp [List.set_append_right, List.set_append]
set_option maxHeartbeats 2000000 in
theorem layCells_any (v : Value) (cs : List C3) (r : Int) (w : World) (hx : Rd w v cs.length 3 (cells3 cs)) (hl : cs.length ≤ 4398046511104) :
    Calls Tryz.prog 14 #[v, .int .i64 r] w fun e w' =>
      e = .returned (.slice (some ⟨w.heap.size, 0, none⟩) (cs.length + clipN r) (cs.length + clipN r)) ∧ Row w' w.heap.size 38 (cells3 (cs ++ tailC (clipN r))) ∧ Below w.heap.size w w' ∧ w'.heap.size = w.heap.size + 1 := by
  have hc := clipN_le r
  generalize hcr : clipN r = m at *
  have HC := hcr; clear hcr
  have HX : Hid (Rd w v cs.length 3 (cells3 cs)) := hx
  obtain ⟨A, cap, rfl, _, _, _⟩ := hx.form
  clear hx
  obtain ⟨n, hn⟩ : ∃ n, cs.length = n := ⟨_, rfl⟩
  have HN := hid hn
  rw [hn] at hl HX ⊢
  clear hn
  go_enter Tryz.func14, Tryz.ntmps14
  go_wp2_with (go_at_call 17; refine (clip_any _ _).mono ?_; rintro e w' ⟨rfl, rfl⟩)
  refine upon_makeS 38 [.bool false, .int .i64 0, .string ByteArray.empty] 3 32 Tryz.underlying26 Tryz.infoC3 rfl (n + m) (by omega) (by omega) (by omega) (by unfold maxLen; omega) ?_
  intro w1 zs hzs hrow hb1 hsz1
  have HZ : Hid (w1.heap.size = w'.heap.size + 1) := hsz1
  have HZS := hid hzs
  clear hsz1 hzs
  go_wp2
  refine upon_copyS 38 3 Tryz.underlying26 (by kernel_rfl) hrow (HX.out.mono hb1) (oneCell_cells3 cs) (by omega) (by rw [HZS.out]; omega) ?_
  intro w2 hrow2 _ hb2 hsz2
  have hb3 : Hid (Below w'.heap.size w' w2) := hid (hb1.trans hb2)
  have HZ2 : Hid (w2.heap.size = w'.heap.size + 1) := by rw [hsz2]; exact HZ.out
  have HL : Hid ((zs.drop (n * 3)).length = m * 3) := hid (by rw [List.length_drop, HZS.out]; omega)
  generalize zs.drop (n * 3) = ys at *
  have HROW := hid hrow2
  clear hsz2 hb2 hrow hb1 HZ hrow2 HZS
  go_wp2
  go_loopw [6] (fun i wr => ∃ (j : Nat) (rs : List Value), j ≤ m ∧ i = .int .i64 (n + j : Nat) ∧ Hid (rs.length = (m - j) * 3) ∧ Hid (Row wr w'.heap.size 38 (cells3 (cs ++ tailC j) ++ rs)) ∧ Hid (Below w'.heap.size w' wr) ∧ Hid (wr.heap.size = w'.heap.size + 1))
      (fun i _ => n + m - (intOf i).toNat)
  case atStart => exact ⟨0, ys, by omega, rfl, HL, hid (by simpa [tailC] using HROW.out), hb3, HZ2⟩
  case round =>
    obtain ⟨j, rs, hj, rfl, hrs, hr, hb, hz⟩ := hrel
    clear HROW hb3 HZ2
    by_cases hlt : j < m
    · obtain ⟨x, y, z, r2, rfl⟩ := three rs (by rw [hrs.out]; omega)
      have hpl : (cells3 (cs ++ tailC j)).length = (n + j) * 3 := by rw [cells3_length, List.length_append, HN.out, tailC_length]
      have HRR := hid hr.out
      have c0 : wr.cell? ⟨w'.heap.size, (n + j) * 3, none⟩ = some x := by rw [hr.out.cell, List.getElem?_append_right (by omega), hpl]; simp
      have c1 : wr.cell? ⟨w'.heap.size, (n + j) * 3 + 1, none⟩ = some y := by rw [hr.out.cell, List.getElem?_append_right (by omega), hpl]; simp
      have c2 : wr.cell? ⟨w'.heap.size, (n + j) * 3 + 2, none⟩ = some z := by rw [hr.out.cell, List.getElem?_append_right (by omega), hpl]; simp
      have f0 := hr.out.frozen ((n + j) * 3)
      have f1 := hr.out.frozen ((n + j) * 3 + 1)
      have f2 := hr.out.frozen ((n + j) * 3 + 2)
      have HR3 : Hid (Row (((wr.setCell ⟨w'.heap.size, (n + j) * 3, none⟩ (.bool true)).setCell ⟨w'.heap.size, (n + j) * 3 + 1, none⟩ (.int .i64 (131 + (j : Int)))).setCell ⟨w'.heap.size, (n + j) * 3 + 2, none⟩ (.string ByteArray.empty)) w'.heap.size 38 (cells3 (cs ++ tailC (j + 1)) ++ r2)) := by
        have hs := ((hr.out.set ((n + j) * 3) (.bool true)).set ((n + j) * 3 + 1) (.int .i64 (131 + (j : Int)))).set ((n + j) * 3 + 2) (.string ByteArray.empty)
        rw [set3 _ _ _ _ _ _ _ _ _ hpl] at hs
        rw [tailC_succ, ← List.append_assoc, cells3_snoc]
        exact hid hs
      have HRS : Hid (r2.length = (m - (j + 1)) * 3) := hid (by have := hrs.out; simp at this; omega)
      clear hr hpl hrs HRR
      go_wp2
      rw [show (131 : Int) + ((n : Int) + (j : Int)) - (n : Int) = 131 + (j : Int) by omega]
      go_roundw
      case rel =>
        refine ⟨j + 1, r2, by omega, by go_num, HRS, HR3, hid (below_set (below_set (below_set hb.out _ _ _ (Nat.le_refl _)) _ _ _ (Nat.le_refl _)) _ _ _ (Nat.le_refl _)), hid (by rw [← hz.out]; simp [World.setCell])⟩
      case measure => simp [intOf]; omega
    · obtain rfl : j = m := by omega
      have e0 : rs = [] := List.eq_nil_of_length_eq_zero (by rw [hrs.out]; omega)
      subst e0
      rw [HN.out] at *
      go_wp2
      go_ret
      exact ⟨rfl, by simpa using hr.out, hb.out, hz.out⟩
set_option maxHeartbeats 1000000 in
theorem sameCells3 (x y : Value) (cs : List C3) (w : World) (hx : Rd w x cs.length 3 (cells3 cs)) (hy : Rd w y cs.length 3 (cells3 cs)) (hn : cs.length ≤ 9223372036854775807) :
    Calls Tryz.prog 9 #[x, y] w fun e w' => e = .returned (.bool true) ∧ ∃ m, w' = w.drewN m := by
  obtain ⟨A1, ca, rfl, hlc, hcm, hA⟩ := hx.form
  obtain ⟨B1, cb, rfl, hlc2, hcm2, hB⟩ := hy.form
  clear hx hy
  obtain ⟨n, hn'⟩ : ∃ n, cs.length = n := ⟨_, rfl⟩
  have HN := hid hn'
  rw [hn'] at hlc hlc2 hA hB hn ⊢
  clear hn'
  have e1 : ((n : Int) != (n : Int)) = false := by simp
  go_enter Tryz.func9, Tryz.ntmps9
  go_wp2
  go_loopw [13] (fun i wr => (∃ k : Nat, k ≤ n ∧ i = .int .i64 k) ∧ ∃ m, wr = w.drewN m) (fun i _ => n - (intOf i).toNat)
  case atStart => exact ⟨⟨0, by omega, rfl⟩, 0, rfl⟩
  case round =>
    obtain ⟨⟨k, hk, rfl⟩, m, rfl⟩ := hrel
    by_cases hlt : k < n
    · have hkl : k < cs.length := by rw [HN.out]; exact hlt
      obtain ⟨b, o, rfl, hs⟩ := hA (by omega)
      obtain ⟨b', o', rfl, hs'⟩ := hB (by omega)
      obtain ⟨c0, c1, c2⟩ := hs.c3 k hkl
      obtain ⟨d0, d1, d2⟩ := hs'.c3 k hkl
      clear hA hB hs hs' hkl
      generalize cs.getD k C3.df = c at *
      obtain ⟨xa, xb, xc⟩ := c
      simp only at c0 c1 c2 d0 d1 d2
      go_wp2
      go_quiet (fail)
      go_wp2
      go_roundw
      case rel => exact ⟨⟨k + 1, by omega, by go_num⟩, _, rfl⟩
      case measure => simp [intOf]; omega
    · go_wp2
      go_ret
      exact ⟨rfl, m, rfl⟩
end Go.Proofs.YtdlkdiaobbakiaaGreatDoor
