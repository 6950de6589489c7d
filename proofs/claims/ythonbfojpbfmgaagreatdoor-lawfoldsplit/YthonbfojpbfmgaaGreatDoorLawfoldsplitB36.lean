/- LawFoldSplit's walk. -/
import Derived.Test.YthonbfojpbfmgaaGreatDoorLawfoldsplitB35
import Derived.Test.YthonbfojpbfmgaaGreatDoorLawfoldsplitB22
import Derived.Deep.RegionHeld3
import Derived.Deep.CutRange
import Derived.Test.YthonbfojpbfmgaaGreatDoorLawfoldsplitB1
import Derived.Test.YthonbfojpbfmgaaGreatDoorLawfoldsplitB5
import Derived.Test.YthonbfojpbfmgaaGreatDoorLawfoldsplitB3
import Derived.SliceStrings
import Derived.Deep.Grids
import Derived.Deep.Slices
import Derived.OpenShut
set_option linter.unusedVariables false
set_option linter.unusedSimpArgs false
set_option linter.unnecessarySimpa false
set_option maxRecDepth 200000
namespace Go.Proofs.YthonbfojpbfmgaaGreatDoor
open Go.RowKit

theorem rows2z {u : World} {X Y : Array Value} {eX eY : TypeId} : Row ((u.alloc (.cells X eX)).alloc (.cells Y eY)) u.heap.size eX X.toList ∧ Row ((u.alloc (.cells X eX)).alloc (.cells Y eY)) (u.heap.size + 1) eY Y.toList ∧ Below u.heap.size u ((u.alloc (.cells X eX)).alloc (.cells Y eY)) := by
  have e : u.heap.size + 1 = (u.alloc (.cells X eX)).heap.size := by simp
  refine ⟨?_, ?_, ((Below.refl u.heap.size u).alloc (Nat.le_refl _) _).alloc (by simp) _⟩
  · have h1 : Row (u.alloc (.cells X eX)) u.heap.size eX X.toList := by unfold Row; rw [heap_alloc_new]
    exact h1.mono ((Below.refl _ _).alloc (Nat.le_refl _) _)
  · rw [e]; unfold Row; rw [heap_alloc_new]
theorem rd_end {w : World} {D : Option Addr} {sz : Nat} : Rd w (.slice D 0 0) 0 sz [] := ⟨by simp, .inl ⟨⟨D, rfl⟩, rfl⟩⟩
set_option maxHeartbeats 16000000 in
theorem lawFoldSplit_walk (u1 u2 u3 : Value) (xs : List Int) (ns fl : List Bool) (cut pick : Int) (w : World) (hT : Tab w) (h1 : Rd w u1 xs.length 1 (i64s xs)) (h2 : Rd w u2 ns.length 1 (bools ns)) (h3 : Rd w u3 fl.length 1 (bools fl)) (hxI : ∀ x ∈ xs, okI x) (hpI : okI pick) :
    Calls Tryz.prog 5 #[u1, u2, u3, .int .i64 cut, .int .i64 pick] w fun e w' => e = .returned (.bool true) ∧ Below w.heap.size w w' := by
  have HIC := hid (fun (w2 : World) (h : Below w.heap.size w w2) => intCells_any u1 u2 xs ns w2 (h1.mono h) (h2.mono h))
  have hn1 : min xs.length 65536 ≤ 65536 := by omega
  generalize min xs.length 65536 = n at *
  have hcl := intC_len xs ns n
  have hco := intC_okZ xs ns n
  have hcI := intC_okIZ hxI ns n
  have hce := intC_empZ xs ns n
  generalize intC xs ns n = cs at *
  have HFD := hid (fun (cs2 : List C3) (fl2 : List Bool) (hsub : ∀ c ∈ cs2, c ∈ cs) (hl2 : cs2.length ≤ 65536) (pk : Nat) (w2 : World) (h : Below w.heap.size w w2) (u f : Value) (hu : Rd w2 u cs2.length 3 (cells3 cs2)) (hf : Rd w2 f fl2.length 1 (bools fl2)) =>
    folded_any pk u f cs2 fl2 w2 (hT.mono h hT.lt) hu hf hl2 (List.all_eq_true.2 fun x hx => hco x (hsub x hx)) (fun x hx => hcI x (hsub x hx)) (by rw [valsT_leZ _ (fun c hc => hce c (hsub c hc))]; omega))
  have H3 := hid (fun (w2 : World) (h : Below w.heap.size w w2) => h3.mono h)
  have HPI : Hid (pick < 9223372036854775808) := hid (by unfold okI at hpI; omega)
  have HCL := hid hcl; have HCI := hid hcI; have HCE := hid hce
  obtain ⟨A1, c1, rfl, _, _, _⟩ := h1.form
  obtain ⟨A2, c2, rfl, _, _, _⟩ := h2.form
  obtain ⟨A3, c3, rfl, hlc3, hcm3, _⟩ := h3.form
  clear h1 h2 h3 hT hxI hpI hco hcI hce hcl
  obtain ⟨fn, hfn⟩ : ∃ fn, fl.length = fn := ⟨_, rfl⟩
  have HFN := hid hfn
  simp only [hfn] at H3 hlc3 ⊢
  clear hfn
  generalize xs.length = xn at *
  generalize ns.length = nn at *
  go_enter Tryz.func5, Tryz.ntmps5
  go_upto_region 2 with (go_at_call 21; refine (HIC.out _ (brefl w)).mono ?_; rintro e w2 ⟨r2, rfl, ho2, hb2⟩; have HR2 := hid (owns3_rd ho2); have HB2 := hid hb2; obtain ⟨D2, d2, rfl⟩ := owns3_form ho2; clear ho2 hb2)
  clear HIC
  obtain ⟨D2', d2', hdd, hnd2, hdm2, _⟩ := HR2.out.form
  injection hdd with hd1 hd2 hd3
  subst hd1 hd3
  clear hd2
  obtain ⟨q, hq⟩ : ∃ q, decide (cut < 0 ∨ cut > (n : Int) ∨ cut > (fn : Int) ∨ pick < 0) = q := ⟨_, rfl⟩
  have HQ := hid hq
  clear hq
  go_cut [44] from 27 to 43 (fun s44 wc => s44 = .bool q ∧ wc = w2)
  case first =>
    by_cases g1 : cut < 0
    · obtain rfl : q = true := by rw [← HQ.out]; simp [g1]
      go_wp2_with fail
      go_meet
      exact ⟨rfl, rfl⟩
    · by_cases g2 : cut > (n : Int)
      · obtain rfl : q = true := by rw [← HQ.out]; simp [g2]
        go_wp2_with fail
        go_meet
        exact ⟨rfl, rfl⟩
      · by_cases g3 : cut > (fn : Int)
        · obtain rfl : q = true := by rw [← HQ.out]; simp [g3]
          go_wp2_with fail
          go_meet
          exact ⟨rfl, rfl⟩
        · by_cases g4 : pick < 0
          · obtain rfl : q = true := by rw [← HQ.out]; simp [g4]
            go_wp2_with fail
            go_meet
            exact ⟨rfl, rfl⟩
          · obtain rfl : q = false := by rw [← HQ.out]; simp [g1, g2, g3, g4]
            go_wp2_with fail
            go_meet
            exact ⟨rfl, rfl⟩
  case rest =>
  obtain ⟨rfl, hw⟩ := hcut
  replace hw := hw.symm
  subst hw
  go_upto_if 44 with fail
  go_cut [3, 4] from 44 to 44 (fun s3 s4 wc => (∃ k pk : Nat, s3 = .int .i64 k ∧ s4 = .int .i64 pk ∧ Hid (k ≤ n ∧ k ≤ fn ∧ pk < 9223372036854775808)) ∧ wc = w2)
  case first =>
    cases q
    · have hg := of_decide_eq_false HQ.out
      have hg0 : 0 ≤ cut := by omega
      have hg1 : 0 ≤ pick := by omega
      obtain ⟨k, rfl⟩ := Int.eq_ofNat_of_zero_le hg0
      obtain ⟨pk, rfl⟩ := Int.eq_ofNat_of_zero_le hg1
      have HG : Hid (k ≤ n ∧ k ≤ fn ∧ pk < 9223372036854775808) := hid ⟨by omega, by omega, by have := HPI.out; omega⟩
      clear hg hg0 hg1 HQ HPI
      go_wp2_with fail
      go_meet
      exact ⟨⟨k, pk, rfl, rfl, HG⟩, rfl⟩
    · go_wp2_with fail
      go_meet
      exact ⟨⟨0, 0, rfl, rfl, hid ⟨by omega, by omega, by omega⟩⟩, rfl⟩
  case rest =>
  obtain ⟨⟨k, pk, rfl, rfl, HK⟩, hw⟩ := hcut
  replace hw := hw.symm
  subst hw
  have hk1 : k ≤ n := HK.out.1
  have hk2 : k ≤ fn := HK.out.2.1
  have HM := split_merge cs fl k (by rw [HCL.out]; exact hk1) (by rw [HCL.out]; exact hn1) HCI.out
  have hpA := refP_part (pickV (cs.take k) (fun i => (fl.take k).getD i false))
  have hpB := refP_part (pickV (cs.drop k) (fun i => (fl.drop k).getD i false))
  have hloA := hpA.lo
  have hloB := hpB.lo
  clear hpA hpB
  obtain ⟨p4, hp4⟩ : ∃ p4, pk / 4 = p4 := ⟨_, rfl⟩
  obtain ⟨p16, hp16⟩ : ∃ p16, pk / 16 = p16 := ⟨_, rfl⟩
  have HW := hid (fun (w3 : World) (h : Below w.heap.size w w3) (hu : Rd w3 (.slice D2 n d2) n 3 (cells3 cs)) (hf : Rd w3 (.slice A3 fn c3) fn 1 (bools fl)) => HFD.out cs fl (fun c hc => hc) (by rw [HCL.out]; exact hn1) pk w3 h _ _ (by rw [HCL.out]; exact hu) (by rw [HFN.out]; exact hf))
  have HA := hid (fun (w3 : World) (h : Below w.heap.size w w3) (u f : Value) (hu : Rd w3 u k 3 (cells3 (cs.take k))) (hf : Rd w3 f k 1 (bools (fl.take k))) => HFD.out (cs.take k) (fl.take k) (fun c hc => List.mem_of_mem_take hc) (by rw [List.length_take, HCL.out]; omega) p4 w3 h u f (by rw [List.length_take, HCL.out, Nat.min_eq_left hk1]; exact hu) (by rw [List.length_take, HFN.out, Nat.min_eq_left hk2]; exact hf))
  have HB := hid (fun (w3 : World) (h : Below w.heap.size w w3) (u f : Value) (hu : Rd w3 u (n - k) 3 (cells3 (cs.drop k))) (hf : Rd w3 f (fn - k) 1 (bools (fl.drop k))) => HFD.out (cs.drop k) (fl.drop k) (fun c hc => List.mem_of_mem_drop hc) (by rw [List.length_drop, HCL.out]; omega) p16 w3 h u f (by rw [List.length_drop, HCL.out]; exact hu) (by rw [List.length_drop, HFN.out]; exact hf))
  have HFS : Hid (∀ ct lo sm gr, FsSt (pickT cs (fun i => fl.getD i false) n) ct lo sm gr → (refP (pickV cs (fun i => fl.getD i false))).ct = ct ∧ (refP (pickV cs (fun i => fl.getD i false))).lo = lo ∧ (refP (pickV cs (fun i => fl.getD i false))).mn = sm ∧ (refP (pickV cs (fun i => fl.getD i false))).mx = gr) := hid (by
    intro ct lo sm gr h
    rw [← HCL.out, pickT_full] at h
    exact h.done)
  obtain ⟨PW, hPW⟩ : ∃ PW, refP (pickV cs (fun i => fl.getD i false)) = PW := ⟨_, rfl⟩
  rw [hPW] at HM HW HFS
  clear hPW
  obtain ⟨PA, hPA⟩ : ∃ PA, refP (pickV (cs.take k) (fun i => (fl.take k).getD i false)) = PA := ⟨_, rfl⟩
  rw [hPA] at HM HA hloA
  clear hPA
  obtain ⟨PB, hPB⟩ : ∃ PB, refP (pickV (cs.drop k) (fun i => (fl.drop k).getD i false)) = PB := ⟨_, rfl⟩
  rw [hPB] at HM HB hloB
  clear hPB
  have HMG := hid (fun w3 : World => Merge_any PA PB w3 hloA hloB)
  rw [HM] at HMG
  clear HM hloA hloB HFD
  obtain ⟨mct, mhi, mlo, ⟨mnn, mni, mns⟩, ⟨mxn, mxi, mxs⟩⟩ := PW
  obtain ⟨act, ahi, alo, ⟨ann, ani, ans⟩, ⟨axn, axi, axs⟩⟩ := PA
  obtain ⟨bct, bhi, blo, ⟨bnn, bni, bns⟩, ⟨bxn, bxi, bxs⟩⟩ := PB
  unfold P9.v at HW HA HB HMG
  simp only at HW HA HB HMG HFS
  have hq4 : (pk : Int) / 4 = (p4 : Int) := by omega
  have hq16 : (pk : Int) / 16 = (p16 : Int) := by omega
  have hw4 : IntKind.i64.wrap (p4 : Int) = p4 := by rw [IntKind.wrap_i64]; have := HK.out.2.2; omega
  have hw16 : IntKind.i64.wrap (p16 : Int) = p16 := by rw [IntKind.wrap_i64]; have := HK.out.2.2; omega
  clear hp4 hp16
  go_upto_region 6 with (go_at_call 22; refine (HW.out w2 HB2.out HR2.out (H3.out w2 HB2.out)).mono ?_; rintro e w3 ⟨rfl, hb3⟩; have HB23 := hid hb3; clear hb3)
  have HA4 := hid ((brefl w3).alloc (Nat.le_refl _) (.cells #[.int .i64 mct, .int .i64 mhi, .int .u64 mlo, .bool mnn, .int .i64 mni, .string mns, .bool mxn, .int .i64 mxi, .string mxs] 44))
  have HRW4 : Hid (Row (w3.alloc (.cells #[.int .i64 mct, .int .i64 mhi, .int .u64 mlo, .bool mnn, .int .i64 mni, .string mns, .bool mxn, .int .i64 mxi, .string mxs] 44)) w3.heap.size 44 [.int .i64 mct, .int .i64 mhi, .int .u64 mlo, .bool mnn, .int .i64 mni, .string mns, .bool mxn, .int .i64 mxi, .string mxs]) := hid (by unfold Row; rw [heap_alloc_new])
  have HB24 := hid (bthen HB23.out HA4.out)
  have HR4 := hid (HR2.out.mono HB24.out)
  have HBW4 := hid (HB2.out.trans (HB24.out.mono HB2.out.size))
  clear HW HA4 HB23 HB24
  generalize w3.alloc (.cells #[.int .i64 mct, .int .i64 mhi, .int .u64 mlo, .bool mnn, .int .i64 mni, .string mns, .bool mxn, .int .i64 mxi, .string mxs] 44) = w4 at *
  generalize w3.heap.size = gw at *
  have hkd : (k : Int) ≤ (d2 : Int) := by omega
  have hkc : (k : Int) ≤ (c3 : Int) := by omega
  have hw4s : w.heap.size ≤ w4.heap.size := HBW4.out.size
  have HAX := hid (fun (w5 : World) (h : Below w4.heap.size w4 w5) => HA.out w5 (HBW4.out.trans (h.mono hw4s)) (.slice D2 k d2) (.slice A3 k c3)
    (by have := rd_front (HR4.out.mono h) k hk1; rw [take_cells3] at this; exact this)
    (by have := rd_front (H3.out w5 (HBW4.out.trans (h.mono hw4s))) k hk2; rw [Nat.mul_one, show (bools fl).take k = bools (fl.take k) by simp [bools, List.map_take]] at this; exact this))
  go_cut [14, 15] from 52 to 63 (fun s1 s2 wc => s2 = .bool true ∧ ∃ gp : Nat, s1 = .pointer (some ⟨gp, 0, none⟩) ∧ w4.heap.size ≤ gp ∧ Hid (Row wc gp 44 [.int .i64 act, .int .i64 ahi, .int .u64 alo, .bool ann, .int .i64 ani, .string ans, .bool axn, .int .i64 axi, .string axs]) ∧ Hid (Below w4.heap.size w4 wc))
  case first =>
    go_region_held3 (fun w' => True) (trivial)
      (first
        | (go_at_call 22; refine (HAX.out _ (bdrew (brefl w4) 1)).mono ?_; rintro e w5 ⟨rfl, hb5⟩; have HB5 : Hid (Below w4.heap.size w4 w5) := hid (bthen (bdrew (brefl w4) 1) hb5); clear hb5)
        | (go_at_call 22; refine (HAX.out _ (bdrew ((brefl w4).alloc (Nat.le_refl _) (.cells #[.int .i64 0, .int .i64 0, .int .u64 0, .bool false, .int .i64 0, .string ⟨#[]⟩, .bool false, .int .i64 0, .string ⟨#[]⟩] 44)) 1)).mono ?_; rintro e w5 ⟨rfl, hb5⟩; have HB5 : Hid (Below w4.heap.size w4 w5) := hid (bthen (bdrew ((brefl w4).alloc (Nat.le_refl _) (.cells #[.int .i64 0, .int .i64 0, .int .u64 0, .bool false, .int .i64 0, .string ⟨#[]⟩, .bool false, .int .i64 0, .string ⟨#[]⟩] 44)) 1) hb5); have HRY5 : Hid (Row w5 w4.heap.size 44 [.int .i64 0, .int .i64 0, .int .u64 0, .bool false, .int .i64 0, .string ⟨#[]⟩, .bool false, .int .i64 0, .string ⟨#[]⟩]) := hid (Row.mono (show Row (w4.alloc (.cells #[.int .i64 0, .int .i64 0, .int .u64 0, .bool false, .int .i64 0, .string ⟨#[]⟩, .bool false, .int .i64 0, .string ⟨#[]⟩] 44)).drew w4.heap.size 44 [.int .i64 0, .int .i64 0, .int .u64 0, .bool false, .int .i64 0, .string ⟨#[]⟩, .bool false, .int .i64 0, .string ⟨#[]⟩] by show Row (w4.alloc (.cells #[.int .i64 0, .int .i64 0, .int .u64 0, .bool false, .int .i64 0, .string ⟨#[]⟩, .bool false, .int .i64 0, .string ⟨#[]⟩] 44)) w4.heap.size 44 [.int .i64 0, .int .i64 0, .int .u64 0, .bool false, .int .i64 0, .string ⟨#[]⟩, .bool false, .int .i64 0, .string ⟨#[]⟩]; unfold Row; rw [heap_alloc_new]) hb5); obtain ⟨y0, y1, y2, y3, y4, y5, y6, y7, y8⟩ := row9 HRY5.out; obtain ⟨f0, f1, f2, f3, f4, f5, f6, f7, f8⟩ := frz9 HRY5.out; clear hb5))
    · go_wp2_with fail
      go_meet
      exact ⟨rfl, w5.heap.size, rfl, HB5.out.size, hid (by unfold Row; rw [heap_alloc_new]), hid (HB5.out.alloc HB5.out.size _)⟩
    · go_wp2_with fail
      go_meet
      exact ⟨rfl, w4.heap.size, rfl, Nat.le_refl _, hid (set9_row HRY5.out (.int .i64 act) (.int .i64 ahi) (.int .u64 alo) (.bool ann) (.int .i64 ani) (.string ans) (.bool axn) (.int .i64 axi) (.string axs)), hid (set9_below HB5.out w4.heap.size (Nat.le_refl _) (.int .i64 act) (.int .i64 ahi) (.int .u64 alo) (.bool ann) (.int .i64 ani) (.string ans) (.bool axn) (.int .i64 axi) (.string axs))⟩
  case rest =>
  obtain ⟨rfl, ga, rfl, hga, HRA6, HB46⟩ := hcut
  have HRW6 := hid (HRW4.out.mono HB46.out)
  have HR6 := hid (HR4.out.mono HB46.out)
  have HBW6 := hid (HBW4.out.trans (HB46.out.mono hw4s))
  have hw6s : w.heap.size ≤ wc.heap.size := HBW6.out.size
  clear HA HAX HRW4 HR4 HBW4 HB46 hga hw4s
  generalize wc = w6 at *
  have hkn : (k : Int) ≤ (n : Int) := by omega
  have hkf : (k : Int) ≤ (fn : Int) := by omega
  go_upto_region 7 with fail
  go_cut [16, 17] from 64 to 75 (fun s1 s2 wc => s2 = .bool true ∧ ∃ gp : Nat, s1 = .pointer (some ⟨gp, 0, none⟩) ∧ w6.heap.size ≤ gp ∧ Hid (Row wc gp 44 [.int .i64 bct, .int .i64 bhi, .int .u64 blo, .bool bnn, .int .i64 bni, .string bns, .bool bxn, .int .i64 bxi, .string bxs]) ∧ Hid (Below w6.heap.size w6 wc))
  case first =>
    by_cases e2 : d2 = k <;> by_cases e3 : c3 = k
    · have h1 : k = d2 := e2.symm
      have h2 : k = n := by omega
      subst h1
      subst h2
      have h3 : k = c3 := e3.symm
      have h4 : k = fn := by omega
      subst h3
      subst h4
      have HBX := hid (fun (w8 : World) (h : Below w6.heap.size w6 w8) => HB.out w8 (HBW6.out.trans (h.mono hw6s)) (.slice D2 0 0) (.slice A3 0 0) (by rw [List.drop_of_length_le (by rw [HCL.out]; exact Nat.le_refl _), Nat.sub_self]; exact rd_end) (by rw [List.drop_of_length_le (by rw [HFN.out]; exact Nat.le_refl _), Nat.sub_self]; exact rd_end))
      go_region_held3 (fun w' => True) (trivial)
        (first
          | (go_at_call 22; refine (HBX.out _ (bdrew (brefl w6) 1)).mono ?_; rintro e w7 ⟨rfl, hb5⟩; have HB5 : Hid (Below w6.heap.size w6 w7) := hid (bthen (bdrew (brefl w6) 1) hb5); clear hb5)
          | (go_at_call 22; refine (HBX.out _ (bdrew ((brefl w6).alloc (Nat.le_refl _) (.cells #[.int .i64 0, .int .i64 0, .int .u64 0, .bool false, .int .i64 0, .string ⟨#[]⟩, .bool false, .int .i64 0, .string ⟨#[]⟩] 44)) 1)).mono ?_; rintro e w7 ⟨rfl, hb5⟩; have HB5 : Hid (Below w6.heap.size w6 w7) := hid (bthen (bdrew ((brefl w6).alloc (Nat.le_refl _) (.cells #[.int .i64 0, .int .i64 0, .int .u64 0, .bool false, .int .i64 0, .string ⟨#[]⟩, .bool false, .int .i64 0, .string ⟨#[]⟩] 44)) 1) hb5); have HRY5 : Hid (Row w7 w6.heap.size 44 [.int .i64 0, .int .i64 0, .int .u64 0, .bool false, .int .i64 0, .string ⟨#[]⟩, .bool false, .int .i64 0, .string ⟨#[]⟩]) := hid (Row.mono (show Row (w6.alloc (.cells #[.int .i64 0, .int .i64 0, .int .u64 0, .bool false, .int .i64 0, .string ⟨#[]⟩, .bool false, .int .i64 0, .string ⟨#[]⟩] 44)).drew w6.heap.size 44 [.int .i64 0, .int .i64 0, .int .u64 0, .bool false, .int .i64 0, .string ⟨#[]⟩, .bool false, .int .i64 0, .string ⟨#[]⟩] by show Row (w6.alloc (.cells #[.int .i64 0, .int .i64 0, .int .u64 0, .bool false, .int .i64 0, .string ⟨#[]⟩, .bool false, .int .i64 0, .string ⟨#[]⟩] 44)) w6.heap.size 44 [.int .i64 0, .int .i64 0, .int .u64 0, .bool false, .int .i64 0, .string ⟨#[]⟩, .bool false, .int .i64 0, .string ⟨#[]⟩]; unfold Row; rw [heap_alloc_new]) hb5); obtain ⟨y0, y1, y2, y3, y4, y5, y6, y7, y8⟩ := row9 HRY5.out; obtain ⟨f0, f1, f2, f3, f4, f5, f6, f7, f8⟩ := frz9 HRY5.out; clear hb5))
      · go_wp2_with fail
        go_meet
        exact ⟨rfl, w7.heap.size, rfl, HB5.out.size, hid (by unfold Row; rw [heap_alloc_new]), hid (HB5.out.alloc HB5.out.size _)⟩
      · go_wp2_with fail
        go_meet
        exact ⟨rfl, w6.heap.size, rfl, Nat.le_refl _, hid (set9_row HRY5.out (.int .i64 bct) (.int .i64 bhi) (.int .u64 blo) (.bool bnn) (.int .i64 bni) (.string bns) (.bool bxn) (.int .i64 bxi) (.string bxs)), hid (set9_below HB5.out w6.heap.size (Nat.le_refl _) (.int .i64 bct) (.int .i64 bhi) (.int .u64 blo) (.bool bnn) (.int .i64 bni) (.string bns) (.bool bxn) (.int .i64 bxi) (.string bxs))⟩
    · have h1 : k = d2 := e2.symm
      have h2 : k = n := by omega
      subst h1
      subst h2
      have HBX := hid (fun (w8 : World) (h : Below w6.heap.size w6 w8) => HB.out w8 (HBW6.out.trans (h.mono hw6s)) (.slice D2 0 0) (.slice (A3.map fun x => x.add (k * 1)) (fn - k) (c3 - k)) (by rw [List.drop_of_length_le (by rw [HCL.out]; exact Nat.le_refl _), Nat.sub_self]; exact rd_end) (by have := rd_back (H3.out w8 (HBW6.out.trans (h.mono hw6s))) k hk2 e3; rw [show (bools fl).drop (k * 1) = bools (fl.drop k) by simp [bools, List.map_drop]] at this; exact this))
      rw [Nat.mul_one] at HBX
      go_region_held3 (fun w' => True) (trivial)
        (first
          | (go_at_call 22; refine (HBX.out _ (bdrew (brefl w6) 1)).mono ?_; rintro e w7 ⟨rfl, hb5⟩; have HB5 : Hid (Below w6.heap.size w6 w7) := hid (bthen (bdrew (brefl w6) 1) hb5); clear hb5)
          | (go_at_call 22; refine (HBX.out _ (bdrew ((brefl w6).alloc (Nat.le_refl _) (.cells #[.int .i64 0, .int .i64 0, .int .u64 0, .bool false, .int .i64 0, .string ⟨#[]⟩, .bool false, .int .i64 0, .string ⟨#[]⟩] 44)) 1)).mono ?_; rintro e w7 ⟨rfl, hb5⟩; have HB5 : Hid (Below w6.heap.size w6 w7) := hid (bthen (bdrew ((brefl w6).alloc (Nat.le_refl _) (.cells #[.int .i64 0, .int .i64 0, .int .u64 0, .bool false, .int .i64 0, .string ⟨#[]⟩, .bool false, .int .i64 0, .string ⟨#[]⟩] 44)) 1) hb5); have HRY5 : Hid (Row w7 w6.heap.size 44 [.int .i64 0, .int .i64 0, .int .u64 0, .bool false, .int .i64 0, .string ⟨#[]⟩, .bool false, .int .i64 0, .string ⟨#[]⟩]) := hid (Row.mono (show Row (w6.alloc (.cells #[.int .i64 0, .int .i64 0, .int .u64 0, .bool false, .int .i64 0, .string ⟨#[]⟩, .bool false, .int .i64 0, .string ⟨#[]⟩] 44)).drew w6.heap.size 44 [.int .i64 0, .int .i64 0, .int .u64 0, .bool false, .int .i64 0, .string ⟨#[]⟩, .bool false, .int .i64 0, .string ⟨#[]⟩] by show Row (w6.alloc (.cells #[.int .i64 0, .int .i64 0, .int .u64 0, .bool false, .int .i64 0, .string ⟨#[]⟩, .bool false, .int .i64 0, .string ⟨#[]⟩] 44)) w6.heap.size 44 [.int .i64 0, .int .i64 0, .int .u64 0, .bool false, .int .i64 0, .string ⟨#[]⟩, .bool false, .int .i64 0, .string ⟨#[]⟩]; unfold Row; rw [heap_alloc_new]) hb5); obtain ⟨y0, y1, y2, y3, y4, y5, y6, y7, y8⟩ := row9 HRY5.out; obtain ⟨f0, f1, f2, f3, f4, f5, f6, f7, f8⟩ := frz9 HRY5.out; clear hb5))
      · go_wp2_with fail
        go_meet
        exact ⟨rfl, w7.heap.size, rfl, HB5.out.size, hid (by unfold Row; rw [heap_alloc_new]), hid (HB5.out.alloc HB5.out.size _)⟩
      · go_wp2_with fail
        go_meet
        exact ⟨rfl, w6.heap.size, rfl, Nat.le_refl _, hid (set9_row HRY5.out (.int .i64 bct) (.int .i64 bhi) (.int .u64 blo) (.bool bnn) (.int .i64 bni) (.string bns) (.bool bxn) (.int .i64 bxi) (.string bxs)), hid (set9_below HB5.out w6.heap.size (Nat.le_refl _) (.int .i64 bct) (.int .i64 bhi) (.int .u64 blo) (.bool bnn) (.int .i64 bni) (.string bns) (.bool bxn) (.int .i64 bxi) (.string bxs))⟩
    · have h3 : k = c3 := e3.symm
      have h4 : k = fn := by omega
      subst h3
      subst h4
      have HBX := hid (fun (w8 : World) (h : Below w6.heap.size w6 w8) => HB.out w8 (HBW6.out.trans (h.mono hw6s)) (.slice (D2.map fun x => x.add (k * 3)) (n - k) (d2 - k)) (.slice A3 0 0) (by have := rd_back (HR6.out.mono h) k hk1 e2; rw [drop_cells3] at this; exact this) (by rw [List.drop_of_length_le (by rw [HFN.out]; exact Nat.le_refl _), Nat.sub_self]; exact rd_end))
      go_region_held3 (fun w' => True) (trivial)
        (first
          | (go_at_call 22; refine (HBX.out _ (bdrew (brefl w6) 1)).mono ?_; rintro e w7 ⟨rfl, hb5⟩; have HB5 : Hid (Below w6.heap.size w6 w7) := hid (bthen (bdrew (brefl w6) 1) hb5); clear hb5)
          | (go_at_call 22; refine (HBX.out _ (bdrew ((brefl w6).alloc (Nat.le_refl _) (.cells #[.int .i64 0, .int .i64 0, .int .u64 0, .bool false, .int .i64 0, .string ⟨#[]⟩, .bool false, .int .i64 0, .string ⟨#[]⟩] 44)) 1)).mono ?_; rintro e w7 ⟨rfl, hb5⟩; have HB5 : Hid (Below w6.heap.size w6 w7) := hid (bthen (bdrew ((brefl w6).alloc (Nat.le_refl _) (.cells #[.int .i64 0, .int .i64 0, .int .u64 0, .bool false, .int .i64 0, .string ⟨#[]⟩, .bool false, .int .i64 0, .string ⟨#[]⟩] 44)) 1) hb5); have HRY5 : Hid (Row w7 w6.heap.size 44 [.int .i64 0, .int .i64 0, .int .u64 0, .bool false, .int .i64 0, .string ⟨#[]⟩, .bool false, .int .i64 0, .string ⟨#[]⟩]) := hid (Row.mono (show Row (w6.alloc (.cells #[.int .i64 0, .int .i64 0, .int .u64 0, .bool false, .int .i64 0, .string ⟨#[]⟩, .bool false, .int .i64 0, .string ⟨#[]⟩] 44)).drew w6.heap.size 44 [.int .i64 0, .int .i64 0, .int .u64 0, .bool false, .int .i64 0, .string ⟨#[]⟩, .bool false, .int .i64 0, .string ⟨#[]⟩] by show Row (w6.alloc (.cells #[.int .i64 0, .int .i64 0, .int .u64 0, .bool false, .int .i64 0, .string ⟨#[]⟩, .bool false, .int .i64 0, .string ⟨#[]⟩] 44)) w6.heap.size 44 [.int .i64 0, .int .i64 0, .int .u64 0, .bool false, .int .i64 0, .string ⟨#[]⟩, .bool false, .int .i64 0, .string ⟨#[]⟩]; unfold Row; rw [heap_alloc_new]) hb5); obtain ⟨y0, y1, y2, y3, y4, y5, y6, y7, y8⟩ := row9 HRY5.out; obtain ⟨f0, f1, f2, f3, f4, f5, f6, f7, f8⟩ := frz9 HRY5.out; clear hb5))
      · go_wp2_with fail
        go_meet
        exact ⟨rfl, w7.heap.size, rfl, HB5.out.size, hid (by unfold Row; rw [heap_alloc_new]), hid (HB5.out.alloc HB5.out.size _)⟩
      · go_wp2_with fail
        go_meet
        exact ⟨rfl, w6.heap.size, rfl, Nat.le_refl _, hid (set9_row HRY5.out (.int .i64 bct) (.int .i64 bhi) (.int .u64 blo) (.bool bnn) (.int .i64 bni) (.string bns) (.bool bxn) (.int .i64 bxi) (.string bxs)), hid (set9_below HB5.out w6.heap.size (Nat.le_refl _) (.int .i64 bct) (.int .i64 bhi) (.int .u64 blo) (.bool bnn) (.int .i64 bni) (.string bns) (.bool bxn) (.int .i64 bxi) (.string bxs))⟩
    · have HBX := hid (fun (w8 : World) (h : Below w6.heap.size w6 w8) => HB.out w8 (HBW6.out.trans (h.mono hw6s)) (.slice (D2.map fun x => x.add (k * 3)) (n - k) (d2 - k)) (.slice (A3.map fun x => x.add (k * 1)) (fn - k) (c3 - k)) (by have := rd_back (HR6.out.mono h) k hk1 e2; rw [drop_cells3] at this; exact this) (by have := rd_back (H3.out w8 (HBW6.out.trans (h.mono hw6s))) k hk2 e3; rw [show (bools fl).drop (k * 1) = bools (fl.drop k) by simp [bools, List.map_drop]] at this; exact this))
      rw [Nat.mul_one] at HBX
      go_region_held3 (fun w' => True) (trivial)
        (first
          | (go_at_call 22; refine (HBX.out _ (bdrew (brefl w6) 1)).mono ?_; rintro e w7 ⟨rfl, hb5⟩; have HB5 : Hid (Below w6.heap.size w6 w7) := hid (bthen (bdrew (brefl w6) 1) hb5); clear hb5)
          | (go_at_call 22; refine (HBX.out _ (bdrew ((brefl w6).alloc (Nat.le_refl _) (.cells #[.int .i64 0, .int .i64 0, .int .u64 0, .bool false, .int .i64 0, .string ⟨#[]⟩, .bool false, .int .i64 0, .string ⟨#[]⟩] 44)) 1)).mono ?_; rintro e w7 ⟨rfl, hb5⟩; have HB5 : Hid (Below w6.heap.size w6 w7) := hid (bthen (bdrew ((brefl w6).alloc (Nat.le_refl _) (.cells #[.int .i64 0, .int .i64 0, .int .u64 0, .bool false, .int .i64 0, .string ⟨#[]⟩, .bool false, .int .i64 0, .string ⟨#[]⟩] 44)) 1) hb5); have HRY5 : Hid (Row w7 w6.heap.size 44 [.int .i64 0, .int .i64 0, .int .u64 0, .bool false, .int .i64 0, .string ⟨#[]⟩, .bool false, .int .i64 0, .string ⟨#[]⟩]) := hid (Row.mono (show Row (w6.alloc (.cells #[.int .i64 0, .int .i64 0, .int .u64 0, .bool false, .int .i64 0, .string ⟨#[]⟩, .bool false, .int .i64 0, .string ⟨#[]⟩] 44)).drew w6.heap.size 44 [.int .i64 0, .int .i64 0, .int .u64 0, .bool false, .int .i64 0, .string ⟨#[]⟩, .bool false, .int .i64 0, .string ⟨#[]⟩] by show Row (w6.alloc (.cells #[.int .i64 0, .int .i64 0, .int .u64 0, .bool false, .int .i64 0, .string ⟨#[]⟩, .bool false, .int .i64 0, .string ⟨#[]⟩] 44)) w6.heap.size 44 [.int .i64 0, .int .i64 0, .int .u64 0, .bool false, .int .i64 0, .string ⟨#[]⟩, .bool false, .int .i64 0, .string ⟨#[]⟩]; unfold Row; rw [heap_alloc_new]) hb5); obtain ⟨y0, y1, y2, y3, y4, y5, y6, y7, y8⟩ := row9 HRY5.out; obtain ⟨f0, f1, f2, f3, f4, f5, f6, f7, f8⟩ := frz9 HRY5.out; clear hb5))
      · go_wp2_with fail
        go_meet
        exact ⟨rfl, w7.heap.size, rfl, HB5.out.size, hid (by unfold Row; rw [heap_alloc_new]), hid (HB5.out.alloc HB5.out.size _)⟩
      · go_wp2_with fail
        go_meet
        exact ⟨rfl, w6.heap.size, rfl, Nat.le_refl _, hid (set9_row HRY5.out (.int .i64 bct) (.int .i64 bhi) (.int .u64 blo) (.bool bnn) (.int .i64 bni) (.string bns) (.bool bxn) (.int .i64 bxi) (.string bxs)), hid (set9_below HB5.out w6.heap.size (Nat.le_refl _) (.int .i64 bct) (.int .i64 bhi) (.int .u64 blo) (.bool bnn) (.int .i64 bni) (.string bns) (.bool bxn) (.int .i64 bxi) (.string bxs))⟩
  case rest =>
  obtain ⟨rfl, gb, rfl, hgb, HRB8, HB68⟩ := hcut
  have HRA8 := hid (HRA6.out.mono HB68.out)
  have HRW8 := hid (HRW6.out.mono HB68.out)
  have HR8 := hid (HR6.out.mono HB68.out)
  have HBW8 := hid (HBW6.out.trans (HB68.out.mono hw6s))
  have hw8s : w.heap.size ≤ wc.heap.size := HBW8.out.size
  clear HB HRA6 HRW6 HR6 HBW6 HB68 hgb hw6s
  generalize wc = w8 at *
  obtain ⟨a0, a1, a2, a3, a4, a5, a6, a7, a8⟩ := row9 HRA8.out
  obtain ⟨b0, b1, b2, b3, b4, b5, b6, b7, b8⟩ := row9 HRB8.out
  obtain ⟨p0, p1, p2, p3, p4', p5, p6, p7, p8⟩ := row9 HRW8.out
  go_upto_region 8 with fail
  go_region_held3 (fun w' => w'.cell? ⟨ga, 0, none⟩ = some (.int .i64 act) ∧ w'.cell? ⟨ga, 1, none⟩ = some (.int .i64 ahi) ∧ w'.cell? ⟨ga, 2, none⟩ = some (.int .u64 alo) ∧ w'.cell? ⟨ga, 3, none⟩ = some (.bool ann) ∧ w'.cell? ⟨ga, 4, none⟩ = some (.int .i64 ani) ∧ w'.cell? ⟨ga, 5, none⟩ = some (.string ans) ∧ w'.cell? ⟨ga, 6, none⟩ = some (.bool axn) ∧ w'.cell? ⟨ga, 7, none⟩ = some (.int .i64 axi) ∧ w'.cell? ⟨ga, 8, none⟩ = some (.string axs) ∧ w'.cell? ⟨gb, 0, none⟩ = some (.int .i64 bct) ∧ w'.cell? ⟨gb, 1, none⟩ = some (.int .i64 bhi) ∧ w'.cell? ⟨gb, 2, none⟩ = some (.int .u64 blo) ∧ w'.cell? ⟨gb, 3, none⟩ = some (.bool bnn) ∧ w'.cell? ⟨gb, 4, none⟩ = some (.int .i64 bni) ∧ w'.cell? ⟨gb, 5, none⟩ = some (.string bns) ∧ w'.cell? ⟨gb, 6, none⟩ = some (.bool bxn) ∧ w'.cell? ⟨gb, 7, none⟩ = some (.int .i64 bxi) ∧ w'.cell? ⟨gb, 8, none⟩ = some (.string bxs) ∧ w'.cell? ⟨gw, 0, none⟩ = some (.int .i64 mct) ∧ w'.cell? ⟨gw, 1, none⟩ = some (.int .i64 mhi) ∧ w'.cell? ⟨gw, 2, none⟩ = some (.int .u64 mlo) ∧ w'.cell? ⟨gw, 3, none⟩ = some (.bool mnn) ∧ w'.cell? ⟨gw, 4, none⟩ = some (.int .i64 mni) ∧ w'.cell? ⟨gw, 5, none⟩ = some (.string mns) ∧ w'.cell? ⟨gw, 6, none⟩ = some (.bool mxn) ∧ w'.cell? ⟨gw, 7, none⟩ = some (.int .i64 mxi) ∧ w'.cell? ⟨gw, 8, none⟩ = some (.string mxs)) (first | exact ⟨a0, a1, a2, a3, a4, a5, a6, a7, a8, b0, b1, b2, b3, b4, b5, b6, b7, b8, p0, p1, p2, p3, p4', p5, p6, p7, p8⟩ | exact ⟨x0, x1, x2, x3, x4, x5, x6, x7, x8, y0, y1, y2, y3, y4, y5, y6, y7, y8, z0, z1, z2, z3, z4, z5, z6, z7, z8⟩)
    (first
      | (go_at_call 23; refine (HMG.out _).mono ?_; rintro e w9 ⟨rfl, hb9⟩; have HB9 : Hid (Below w8.heap.size w8 w9) := hid (bthen (bdrew (brefl w8) 1) hb9); have HRW9 := hid (HRW8.out.mono HB9.out); have HRA9 := hid (HRA8.out.mono HB9.out); have HRB9 := hid (HRB8.out.mono HB9.out); clear hb9; obtain ⟨x0, x1, x2, x3, x4, x5, x6, x7, x8⟩ := row9 HRA9.out; obtain ⟨y0, y1, y2, y3, y4, y5, y6, y7, y8⟩ := row9 HRB9.out; obtain ⟨z0, z1, z2, z3, z4, z5, z6, z7, z8⟩ := row9 HRW9.out))
  have HR9 := hid (HR8.out.mono HB9.out)
  have HBW9 := hid (HBW8.out.trans (HB9.out.mono hw8s))
  have hgwl : gw < w9.heap.size := HRW9.out.lt
  clear a0 a1 a2 a3 a4 a5 a6 a7 a8 b0 b1 b2 b3 b4 b5 b6 b7 b8 p0 p1 p2 p3 p4' p5 p6 p7 p8 x0 x1 x2 x3 x4 x5 x6 x7 x8 y0 y1 y2 y3 y4 y5 y6 y7 y8 z0 z1 z2 z3 z4 z5 z6 z7 z8 HRA8 HRB8 HRW8 HR8 HBW8 HB9 HRA9 HRB9 HMG hq4 hq16 hw4 hw16 hkd hkc hkn hkf
  go_upto_region 13 with fail
  obtain ⟨q1, q2, q3⟩ := rows2z (u := w9) (X := #[.bool false, .int .i64 0, .string ⟨#[]⟩]) (Y := #[.bool false, .int .i64 0, .string ⟨#[]⟩]) (eX := 42) (eY := 42)
  have HS10 := hid q1; have HG10 := hid q2; have HB10 := hid q3
  clear q1 q2 q3
  generalize (w9.alloc (.cells #[.bool false, .int .i64 0, .string ⟨#[]⟩] 42)).alloc (.cells #[.bool false, .int .i64 0, .string ⟨#[]⟩] 42) = w10 at *
  have HW10 := hid (HRW9.out.mono HB10.out)
  generalize hgs : w9.heap.size = gs at *
  have HGS := hid hgs
  clear hgs
  obtain ⟨gg, hgg⟩ : ∃ gg, gs + 1 = gg := ⟨_, rfl⟩
  rw [hgg] at HG10 ⊢
  go_wp2_with fail
  go_loopw [18, 19, 95] (fun c l i wr => ∃ (t : Nat) (ct : Int) (lo : Nat) (sm gr : C3), t ≤ n ∧ i = .int .i64 t ∧ c = .int .i64 ct ∧ l = .int .u64 lo ∧ Hid (FsSt (pickT cs (fun i => fl.getD i false) t) ct lo sm gr) ∧ Hid (Row wr gs 42 [.bool sm.n, .int .i64 sm.i, .string sm.s]) ∧ Hid (Row wr gg 42 [.bool gr.n, .int .i64 gr.i, .string gr.s]) ∧ Hid (Row wr gw 44 [.int .i64 mct, .int .i64 mhi, .int .u64 mlo, .bool mnn, .int .i64 mni, .string mns, .bool mxn, .int .i64 mxi, .string mxs]) ∧ Hid (Below gs w9 wr)) (fun _ _ i _ => n - (intOf i).toNat)
  case atStart => exact ⟨0, 0, 0, C3.df, C3.df, by omega, rfl, rfl, rfl, hid FsSt.start, HS10, HG10, HW10, HB10⟩
  case round =>
    obtain ⟨t, ct, lo, sm, gr, ht, rfl, rfl, rfl, HF, HRS, HRG, HRW, HB⟩ := hrel
    have HBW : Hid (Below w9.heap.size w9 wr) := hid (by rw [HGS.out]; exact HB.out)
    have HBF := hid (HBW9.out.trans (HBW.out.mono HBW9.out.size))
    by_cases hlt : t < n
    · obtain ⟨b, o, rfl, hs⟩ := (HR9.out.mono HBW.out).at3 (by omega)
      have hltc : t < cs.length := by rw [HCL.out]; exact hlt
      obtain ⟨c0, c1', c2'⟩ := hs t hltc
      have HYE := hid (HCE.out _ (getD_mem hltc))
      have HEM := hid (pickT_emp HCE.out (fun i => fl.getD i false) t (Nat.le_of_lt hltc))
      have HCT := hid HF.out.ct
      have HLO := hid HF.out.lo
      have HLN : Hid ((pickT cs (fun i => fl.getD i false) t).length ≤ t) := hid (by unfold pickT; rw [List.length_map]; refine Nat.le_trans (List.length_filter_le _ _) ?_; rw [List.length_range]; exact Nat.le_refl _)
      have HNO : Hid (fl.getD t false = false ∨ (cs.getD t C3.df).n = true → pickT cs (fun i => fl.getD i false) (t + 1) = pickT cs (fun i => fl.getD i false) t) := hid (fun h => pickT_no h)
      have HYS : Hid (fl.getD t false = true → (cs.getD t C3.df).n = false → pickT cs (fun i => fl.getD i false) (t + 1) = pickT cs (fun i => fl.getD i false) t ++ [((cs.getD t C3.df).i, (cs.getD t C3.df).s)]) := hid (fun h1 h2 => pickT_yes h1 h2)
      clear hs
      generalize cs.getD t C3.df = x at *
      obtain ⟨yn, yi, ys⟩ := x
      simp only at c0 c1' c2' HYE HNO HYS
      go_upto_region 16 with fail
      have HBA := hid ((brefl wr).alloc (Nat.le_refl _) (.cells #[.bool yn, .int .i64 yi, .string ys] 42))
      have HRC1 : Hid (Row (wr.alloc (.cells #[.bool yn, .int .i64 yi, .string ys] 42)) wr.heap.size 42 [.bool yn, .int .i64 yi, .string ys]) := hid (by unfold Row; rw [heap_alloc_new])
      have HRS1 := hid (HRS.out.mono HBA.out)
      have HRG1 := hid (HRG.out.mono HBA.out)
      have HRW1 := hid (HRW.out.mono HBA.out)
      have hgl : gg < wr.heap.size := HRG.out.lt
      have HB1 : Hid (Below gs w9 (wr.alloc (.cells #[.bool yn, .int .i64 yi, .string ys] 42))) := hid (HB.out.alloc (by omega) _)
      have HBF1 := hid (bthen HBF.out HBA.out)
      clear HRS HRG HRW HB HBA HBW c0 c1' c2'
      generalize wr.alloc (.cells #[.bool yn, .int .i64 yi, .string ys] 42) = w11 at *
      generalize wr.heap.size = gc at *
      obtain ⟨k0, k1, k2⟩ := cell3 HRC1.out
      obtain ⟨s0, s1, s2⟩ := cell3 HRS1.out
      obtain ⟨g0, g1, g2⟩ := cell3 HRG1.out
      have sf0 := HRS1.out.frozen 0; have sf1 := HRS1.out.frozen 1; have sf2 := HRS1.out.frozen 2
      have gf0 := HRG1.out.frozen 0; have gf1 := HRG1.out.frozen 1; have gf2 := HRG1.out.frozen 2
      cases yn
      · by_cases htf : t < fn
        · obtain ⟨b2, o2, rfl, hs2⟩ := (H3.out w11 HBF1.out).atBool (by omega)
          have l1 := hs2 t (by rw [HFN.out]; exact htf)
          clear hs2
          generalize fl.getD t false = q2 at *
          cases q2
          · go_wp2_with fail
            go_roundw
            case rel => exact ⟨t + 1, ct, lo, sm, gr, by omega, by go_num, rfl, rfl, hid (by rw [HNO.out (.inl rfl)]; exact HF.out), HRS1, HRG1, HRW1, HB1⟩
            case measure => simp [intOf]; omega
          · obtain ⟨xu, hxu⟩ : ∃ xu, (yi % 18446744073709551616).toNat = xu := ⟨_, rfl⟩
            obtain ⟨lo2, hlo2⟩ : ∃ lo2, (lo + xu) % 18446744073709551616 = lo2 := ⟨_, rfl⟩
            have hcv : IntKind.u64.wrap yi = (xu : Int) := by rw [IntKind.wrap_u64]; omega
            have hsum : IntKind.u64.wrap ((lo : Int) + (xu : Int)) = (lo2 : Int) := by rw [IntKind.wrap_u64]; omega
            have hct : IntKind.i64.wrap (ct + 1) = ct + 1 := by rw [IntKind.wrap_i64]; have := HCT.out; have := HLN.out; omega
            have HST := hid (HF.out.step (yi, ys) HEM.out HYE.out)
            have hys := HYS.out rfl rfl
            have HST2 : Hid (FsSt (pickT cs (fun i => fl.getD i false) (t + 1)) (ct + 1) lo2 (if ct = 0 ∨ yi < sm.i then ⟨false, yi, ys⟩ else sm) (if ct = 0 ∨ gr.i < yi then ⟨false, yi, ys⟩ else gr)) := hid (by rw [hys, ← hlo2, ← hxu]; exact HST.out)
            clear HST hys hxu hlo2 HNO HYS HEM HYE HCT HLO HLN
            obtain ⟨smn, smi, sms⟩ := sm
            obtain ⟨grn, gri, grs⟩ := gr
            simp only at HST2 s0 s1 s2 g0 g1 g2
            by_cases hz : ct = 0
            · subst hz
              have HFN2 := HST2
              rw [if_pos (.inl rfl), if_pos (.inl rfl)] at HFN2
              go_upto_region 19 with fail
              change Code.wp _ _ _ _ (setc3 w11 gs [.bool false, .int .i64 yi, .string ys])
              have HRS2 := hid (row_setc3 HRS1.out (.bool false) (.int .i64 yi) (.string ys))
              have HRG2 := hid (setc3_other HRG1.out [.bool false, .int .i64 yi, .string ys] (show gg ≠ gs by omega))
              have HRW2 := hid (setc3_other HRW1.out [.bool false, .int .i64 yi, .string ys] (show gw ≠ gs by omega))
              have HRC2 := hid (setc3_other HRC1.out [.bool false, .int .i64 yi, .string ys] (show gc ≠ gs by omega))
              have HB2 := hid (below_setc3 HB1.out gs (Nat.le_refl _) [.bool false, .int .i64 yi, .string ys])
              clear k0 k1 k2 s0 s1 s2 g0 g1 g2 sf0 sf1 sf2 gf0 gf1 gf2
              generalize setc3 w11 gs [.bool false, .int .i64 yi, .string ys] = w12 at *
              obtain ⟨k0, k1, k2⟩ := cell3 HRC2.out
              obtain ⟨s0, s1, s2⟩ := cell3 HRS2.out
              obtain ⟨g0, g1, g2⟩ := cell3 HRG2.out
              have sf0 := HRS2.out.frozen 0; have sf1 := HRS2.out.frozen 1; have sf2 := HRS2.out.frozen 2
              have gf0 := HRG2.out.frozen 0; have gf1 := HRG2.out.frozen 1; have gf2 := HRG2.out.frozen 2
              go_upto_region 21 with fail
              change Code.wp _ _ _ _ (setc3 w12 gg [.bool false, .int .i64 yi, .string ys])
              have HRS3 := hid (setc3_other HRS2.out [.bool false, .int .i64 yi, .string ys] (show gs ≠ gg by omega))
              have HRG3 := hid (row_setc3 HRG2.out (.bool false) (.int .i64 yi) (.string ys))
              have HRW3 := hid (setc3_other HRW2.out [.bool false, .int .i64 yi, .string ys] (show gw ≠ gg by omega))
              have HRC3 := hid (setc3_other HRC2.out [.bool false, .int .i64 yi, .string ys] (show gc ≠ gg by omega))
              have HB3 := hid (below_setc3 HB2.out gg (by omega) [.bool false, .int .i64 yi, .string ys])
              clear k0 k1 k2 s0 s1 s2 g0 g1 g2 sf0 sf1 sf2 gf0 gf1 gf2
              generalize setc3 w12 gg [.bool false, .int .i64 yi, .string ys] = w13 at *
              obtain ⟨k0, k1, k2⟩ := cell3 HRC3.out
              obtain ⟨s0, s1, s2⟩ := cell3 HRS3.out
              obtain ⟨g0, g1, g2⟩ := cell3 HRG3.out
              have sf0 := HRS3.out.frozen 0; have sf1 := HRS3.out.frozen 1; have sf2 := HRS3.out.frozen 2
              have gf0 := HRG3.out.frozen 0; have gf1 := HRG3.out.frozen 1; have gf2 := HRG3.out.frozen 2
              go_wp2_with fail
              go_roundw
              case rel => exact ⟨t + 1, (0 + 1), lo2, ⟨false, yi, ys⟩, ⟨false, yi, ys⟩, by omega, by go_num, by go_num, by go_num, hid HFN2.out, HRS3, HRG3, HRW3, HB3⟩
              case measure => simp [intOf]; omega
            · have hzb : (ct == 0) = false := by simp [hz]
              by_cases ha : yi < smi
              · by_cases hb : yi > gri
                · have HFN2 := HST2
                  rw [if_pos (.inr ha), if_pos (.inr hb)] at HFN2
                  go_upto_region 19 with fail
                  change Code.wp _ _ _ _ (setc3 w11 gs [.bool false, .int .i64 yi, .string ys])
                  have HRS2 := hid (row_setc3 HRS1.out (.bool false) (.int .i64 yi) (.string ys))
                  have HRG2 := hid (setc3_other HRG1.out [.bool false, .int .i64 yi, .string ys] (show gg ≠ gs by omega))
                  have HRW2 := hid (setc3_other HRW1.out [.bool false, .int .i64 yi, .string ys] (show gw ≠ gs by omega))
                  have HRC2 := hid (setc3_other HRC1.out [.bool false, .int .i64 yi, .string ys] (show gc ≠ gs by omega))
                  have HB2 := hid (below_setc3 HB1.out gs (Nat.le_refl _) [.bool false, .int .i64 yi, .string ys])
                  clear k0 k1 k2 s0 s1 s2 g0 g1 g2 sf0 sf1 sf2 gf0 gf1 gf2
                  generalize setc3 w11 gs [.bool false, .int .i64 yi, .string ys] = w12 at *
                  obtain ⟨k0, k1, k2⟩ := cell3 HRC2.out
                  obtain ⟨s0, s1, s2⟩ := cell3 HRS2.out
                  obtain ⟨g0, g1, g2⟩ := cell3 HRG2.out
                  have sf0 := HRS2.out.frozen 0; have sf1 := HRS2.out.frozen 1; have sf2 := HRS2.out.frozen 2
                  have gf0 := HRG2.out.frozen 0; have gf1 := HRG2.out.frozen 1; have gf2 := HRG2.out.frozen 2
                  go_upto_region 21 with fail
                  change Code.wp _ _ _ _ (setc3 w12 gg [.bool false, .int .i64 yi, .string ys])
                  have HRS3 := hid (setc3_other HRS2.out [.bool false, .int .i64 yi, .string ys] (show gs ≠ gg by omega))
                  have HRG3 := hid (row_setc3 HRG2.out (.bool false) (.int .i64 yi) (.string ys))
                  have HRW3 := hid (setc3_other HRW2.out [.bool false, .int .i64 yi, .string ys] (show gw ≠ gg by omega))
                  have HRC3 := hid (setc3_other HRC2.out [.bool false, .int .i64 yi, .string ys] (show gc ≠ gg by omega))
                  have HB3 := hid (below_setc3 HB2.out gg (by omega) [.bool false, .int .i64 yi, .string ys])
                  clear k0 k1 k2 s0 s1 s2 g0 g1 g2 sf0 sf1 sf2 gf0 gf1 gf2
                  generalize setc3 w12 gg [.bool false, .int .i64 yi, .string ys] = w13 at *
                  obtain ⟨k0, k1, k2⟩ := cell3 HRC3.out
                  obtain ⟨s0, s1, s2⟩ := cell3 HRS3.out
                  obtain ⟨g0, g1, g2⟩ := cell3 HRG3.out
                  have sf0 := HRS3.out.frozen 0; have sf1 := HRS3.out.frozen 1; have sf2 := HRS3.out.frozen 2
                  have gf0 := HRG3.out.frozen 0; have gf1 := HRG3.out.frozen 1; have gf2 := HRG3.out.frozen 2
                  go_wp2_with fail
                  go_roundw
                  case rel => exact ⟨t + 1, (ct + 1), lo2, ⟨false, yi, ys⟩, ⟨false, yi, ys⟩, by omega, by go_num, by go_num, by go_num, hid HFN2.out, HRS3, HRG3, HRW3, HB3⟩
                  case measure => simp [intOf]; omega
                · have HFN2 := HST2
                  rw [if_pos (.inr ha), if_neg (by rintro (h | h) <;> omega)] at HFN2
                  go_upto_region 19 with fail
                  change Code.wp _ _ _ _ (setc3 w11 gs [.bool false, .int .i64 yi, .string ys])
                  have HRS2 := hid (row_setc3 HRS1.out (.bool false) (.int .i64 yi) (.string ys))
                  have HRG2 := hid (setc3_other HRG1.out [.bool false, .int .i64 yi, .string ys] (show gg ≠ gs by omega))
                  have HRW2 := hid (setc3_other HRW1.out [.bool false, .int .i64 yi, .string ys] (show gw ≠ gs by omega))
                  have HRC2 := hid (setc3_other HRC1.out [.bool false, .int .i64 yi, .string ys] (show gc ≠ gs by omega))
                  have HB2 := hid (below_setc3 HB1.out gs (Nat.le_refl _) [.bool false, .int .i64 yi, .string ys])
                  clear k0 k1 k2 s0 s1 s2 g0 g1 g2 sf0 sf1 sf2 gf0 gf1 gf2
                  generalize setc3 w11 gs [.bool false, .int .i64 yi, .string ys] = w12 at *
                  obtain ⟨k0, k1, k2⟩ := cell3 HRC2.out
                  obtain ⟨s0, s1, s2⟩ := cell3 HRS2.out
                  obtain ⟨g0, g1, g2⟩ := cell3 HRG2.out
                  have sf0 := HRS2.out.frozen 0; have sf1 := HRS2.out.frozen 1; have sf2 := HRS2.out.frozen 2
                  have gf0 := HRG2.out.frozen 0; have gf1 := HRG2.out.frozen 1; have gf2 := HRG2.out.frozen 2
                  go_wp2_with fail
                  go_roundw
                  case rel => exact ⟨t + 1, (ct + 1), lo2, ⟨false, yi, ys⟩, ⟨grn, gri, grs⟩, by omega, by go_num, by go_num, by go_num, hid HFN2.out, HRS2, HRG2, HRW2, HB2⟩
                  case measure => simp [intOf]; omega
              · by_cases hb : yi > gri
                · have HFN2 := HST2
                  rw [if_neg (by rintro (h | h) <;> omega), if_pos (.inr hb)] at HFN2
                  go_upto_region 21 with fail
                  change Code.wp _ _ _ _ (setc3 w11 gg [.bool false, .int .i64 yi, .string ys])
                  have HRS3 := hid (setc3_other HRS1.out [.bool false, .int .i64 yi, .string ys] (show gs ≠ gg by omega))
                  have HRG3 := hid (row_setc3 HRG1.out (.bool false) (.int .i64 yi) (.string ys))
                  have HRW3 := hid (setc3_other HRW1.out [.bool false, .int .i64 yi, .string ys] (show gw ≠ gg by omega))
                  have HRC3 := hid (setc3_other HRC1.out [.bool false, .int .i64 yi, .string ys] (show gc ≠ gg by omega))
                  have HB3 := hid (below_setc3 HB1.out gg (by omega) [.bool false, .int .i64 yi, .string ys])
                  clear k0 k1 k2 s0 s1 s2 g0 g1 g2 sf0 sf1 sf2 gf0 gf1 gf2
                  generalize setc3 w11 gg [.bool false, .int .i64 yi, .string ys] = w13 at *
                  obtain ⟨k0, k1, k2⟩ := cell3 HRC3.out
                  obtain ⟨s0, s1, s2⟩ := cell3 HRS3.out
                  obtain ⟨g0, g1, g2⟩ := cell3 HRG3.out
                  have sf0 := HRS3.out.frozen 0; have sf1 := HRS3.out.frozen 1; have sf2 := HRS3.out.frozen 2
                  have gf0 := HRG3.out.frozen 0; have gf1 := HRG3.out.frozen 1; have gf2 := HRG3.out.frozen 2
                  go_wp2_with fail
                  go_roundw
                  case rel => exact ⟨t + 1, (ct + 1), lo2, ⟨smn, smi, sms⟩, ⟨false, yi, ys⟩, by omega, by go_num, by go_num, by go_num, hid HFN2.out, HRS3, HRG3, HRW3, HB3⟩
                  case measure => simp [intOf]; omega
                · have HFN2 := HST2
                  rw [if_neg (by rintro (h | h) <;> omega), if_neg (by rintro (h | h) <;> omega)] at HFN2
                  go_wp2_with fail
                  go_roundw
                  case rel => exact ⟨t + 1, (ct + 1), lo2, ⟨smn, smi, sms⟩, ⟨grn, gri, grs⟩, by omega, by go_num, by go_num, by go_num, hid HFN2.out, HRS1, HRG1, HRW1, HB1⟩
                  case measure => simp [intOf]; omega
        · have hff : fl.getD t false = false := by simp [List.getD, List.getElem?_eq_none (show fl.length ≤ t by rw [HFN.out]; omega)]
          go_wp2_with fail
          go_roundw
          case rel => exact ⟨t + 1, ct, lo, sm, gr, by omega, by go_num, rfl, rfl, hid (by rw [HNO.out (.inl hff)]; exact HF.out), HRS1, HRG1, HRW1, HB1⟩
          case measure => simp [intOf]; omega
      · go_wp2_with fail
        go_roundw
        case rel => exact ⟨t + 1, ct, lo, sm, gr, by omega, by go_num, rfl, rfl, hid (by rw [HNO.out (.inr rfl)]; exact HF.out), HRS1, HRG1, HRW1, HB1⟩
        case measure => simp [intOf]; omega
    · obtain rfl : t = n := by omega
      obtain ⟨e1, e2', e3', e4⟩ := HFS.out ct lo sm gr HF.out
      subst e1 e2' e3' e4
      obtain ⟨p0, p1, p2, p3, p4', p5, p6, p7, p8⟩ := row9 HRW.out
      obtain ⟨s0, s1, s2⟩ := cell3 HRS.out
      obtain ⟨g0, g1, g2⟩ := cell3 HRG.out
      simp only at s0 s1 s2 g0 g1 g2
      go_wp2_with fail
      go_ret
      exact ⟨by simp, HBF.out⟩
end Go.Proofs.YthonbfojpbfmgaaGreatDoor

/- From the row's hypotheses to lists of words. -/
set_option maxRecDepth 512
set_option linter.unusedVariables false
set_option linter.unusedSimpArgs false
set_option linter.unnecessarySimpa false
namespace Go.Proofs.YthonbfojpbfmgaaGreatDoor
open Go.RowKit

end Go.Proofs.YthonbfojpbfmgaaGreatDoor

/- From the row's hypotheses to lists of strings and of bools. -/
set_option maxRecDepth 512
set_option linter.unusedVariables false
set_option linter.unusedSimpArgs false
set_option linter.unnecessarySimpa false
namespace Go.Proofs.YthonbfojpbfmgaaGreatDoor
open Go.RowKit

theorem spot_none {w : World} {y : Addr} {v : Value} (h : w.cell? (y.add 0) = some v) : y.spot = none := by
  simp only [Addr.add, if_true, World.cell?] at h
  split at h
  · split at h
    · cases h
    · rename_i hs; simpa using hs
  · cases h
/-- a slice of bools that came in, as the walks want it -/
theorem open_bools_rd {H : Type} {enc : TypeId × Value → H} {P : Program} {w : World} {base : Nat} {held : Bool} {t e : TypeId} {a : Option Addr} {len cap : Nat} {x : DataW H × List MemPlace}
    (ht : P.underlying t = some (.slice e)) (he : P.underlying e = some .bool) (hc : P.cellsOf e = 1) (h : ∃ fuel, DataW.trod enc P w base (fun _ => true) held fuel t (Value.slice a len cap).cells.toList = some x) :
    ∃ bl : List Bool, Rd w (.slice a len cap) bl.length 1 (bools bl) ∧ (bl = [] ∨ ∃ elems sp, x.1 = .slice elems sp ∧ elems.length = bl.length) := by
  obtain ⟨fuel, hf⟩ := h
  rcases Go.Deep.open_bools ht he hc hf with ⟨hcs, _⟩ | ⟨y, l, c, B, hcs, _, hl, hm, hx, hcell⟩
  · simp [Value.cells] at hcs
    obtain ⟨rfl, rfl, rfl⟩ := hcs
    exact ⟨[], ⟨rfl, .inl ⟨⟨_, rfl⟩, rfl⟩⟩, .inl rfl⟩
  · simp [Value.cells] at hcs
    obtain ⟨rfl, rfl, rfl⟩ := hcs
    have hlen : ((List.range len).map B).length = len := by simp
    refine ⟨(List.range len).map B, ?_, .inr ⟨(List.range len).map fun i => .lit (.bool (B i)), _, by rw [hx]; rfl, by simp⟩⟩
    rw [hlen]
    refine ⟨by simp [bools], ?_⟩
    by_cases hzc : cap = 0
    · have h0 : len = 0 := by omega
      subst h0 hzc
      exact .inl ⟨⟨_, rfl⟩, by simp [bools]⟩
    · have hsp := spot_none (hcell 0 (by omega))
      obtain ⟨b, o, s⟩ := y
      simp only at hsp
      subst hsp
      refine .inr ⟨b, o, cap, rfl, hl, hm, ?_⟩
      intro i v hv
      have hi : i < len := by
        rcases Nat.lt_or_ge i len with h | h
        · exact h
        · rw [List.getElem?_eq_none (by simp [bools]; omega)] at hv; cases hv
      have := hcell i (by omega)
      rw [addr_add] at this
      rw [this, ← hv]
      simp [bools, List.getElem?_map, hi]
end Go.Proofs.YthonbfojpbfmgaaGreatDoor
