/- The plain answer: dictionaries. -/
import Derived.Test.YtdlkdiaobbakiaaGreatDoorRefP
set_option linter.unusedVariables false
set_option linter.unusedSimpArgs false
set_option linter.unnecessarySimpa false
set_option maxRecDepth 100000
namespace Go.Proofs.YtdlkdiaobbakiaaGreatDoor
open Go.RowKit

abbrev PV := Int × ByteArray
/-- what a reading of a payload hands back: a list, and is it one -/
def PAns (w w' : World) (e : Ending) (r : Bool × List PV) : Prop :=
  ∃ u, e = .returned (.tuple #[u, .bool r.1]) ∧ (∃ A n c, u = Value.slice A n c) ∧ (r.1 = true → w'.ownsRow w.heap.size 38 3 u r.2.length (cellsP r.2)) ∧ Below w.heap.size w w'
def geP (a b : PV) : Bool := decide (0 ≤ ordP a b)
def eqP (a b : PV) : Bool := decide (ordP a b = 0)
def dN (p : Nat) (xs : List Nat) : Nat := if numOk 4 p xs.length = true then L.wordOf 8 ((xs.drop p).take 4) else 0
def dictR (kd wd k p : Nat) (xs : List Nat) : Bool × List PV :=
  if numOk 4 p xs.length = false ∨ 256 < dN p xs ∨ wd ≠ needN (dN p xs) then (false, [])
  else if listOk kd (dN p xs) (p + 4) xs = false ∨ noPair geP (listP kd (dN p xs) (p + 4) xs) = false then (false, [])
  else if ((lanesV wd k (listNx kd (dN p xs) (p + 4) xs) xs).all fun c => decide (c < dN p xs)) = false then (false, [])
  else (lanesOk wd k (listNx kd (dN p xs) (p + 4) xs) xs, (lanesV wd k (listNx kd (dN p xs) (p + 4) xs) xs).map fun c => (listP kd (dN p xs) (p + 4) xs).getD c dfP)
theorem pans_no {w w' : World} {r : Bool × List PV} (h : r = (false, [])) (hb : Below w.heap.size w w') : PAns w w' (.returned (.tuple #[.slice none 0 0, .bool false])) r := by
  subst h
  exact ⟨_, rfl, ⟨_, _, _, rfl⟩, (fun h => by simp at h), hb⟩
theorem listP_len (kd m p : Nat) (xs : List Nat) (h : listOk kd m p xs = true) (hkd : kd = 1 ∨ kd = 2) : (listP kd m p xs).length = m := by
  rcases hkd with rfl | rfl
  · unfold listOk at h; rw [if_pos rfl] at h
    unfold numsOk at h; simp only [decide_eq_true_eq] at h
    unfold listP; rw [if_pos rfl, List.length_map, List.length_map, numL_length]
    unfold tk; rw [if_pos (by rw [List.length_drop]; exact h.2), List.length_take, List.length_drop, Nat.min_eq_left (by omega)]
    omega
  · unfold listOk at h; rw [if_neg (by decide)] at h
    unfold listP; rw [if_neg (by decide), List.length_map]
    have h2 := h
    unfold strsOk at h2; simp only [Bool.and_eq_true] at h2
    unfold numsOk at h2; simp only [decide_eq_true_eq] at h2
    unfold strsV; rw [if_pos h, cutS_length, nI_length, numL_length]
    unfold tk; rw [if_pos (by rw [List.length_drop]; exact h2.1.2), List.length_take, List.length_drop, Nat.min_eq_left (by omega)]
    omega
theorem listNx_le (kd m p : Nat) (xs : List Nat) (hl : xs.length ≤ 1048576) : listNx kd m p xs ≤ 1048576 := by
  unfold listNx
  split
  · split
    · rename_i h
      unfold numsOk at h; simp only [decide_eq_true_eq] at h
      omega
    · omega
  · unfold strsNx
    split
    · rename_i h
      unfold strsOk at h; simp only [Bool.and_eq_true] at h
      obtain ⟨h1, h2⟩ := h
      unfold numsOk at h1; simp only [decide_eq_true_eq] at h1
      unfold tsz
      split at h2
      · cases h2
      · rename_i sz hsz
        simp only [decide_eq_true_eq] at h2
        rw [hsz]
        simp only [Option.getD_some]
        omega
    · omega
theorem Rd.atP {w : World} {D : Option Addr} {n m cd : Nat} {vs : List PV} (h : Rd w (.slice D n cd) m 3 (cellsP vs)) (h0 : 0 < m) : ∃ b o, D = some ⟨b, o, none⟩ ∧
    ∀ k, k < vs.length → w.cell? ⟨b, o + k * 3, none⟩ = some (.bool false) ∧ w.cell? ⟨b, o + k * 3 + 1, none⟩ = some (.int .i64 (vs.getD k dfP).1) ∧ w.cell? ⟨b, o + k * 3 + 2, none⟩ = some (.string (vs.getD k dfP).2) := by
  rcases h.2 with ⟨_, rfl⟩ | ⟨b, o, cap', he, _, _, hs⟩
  · exact absurd h0 (Nat.lt_irrefl 0)
  · injection he with e1 e2 e3
    refine ⟨b, o, e1, fun k hk => ?_⟩
    obtain ⟨g0, g1, g2⟩ := cellsP_get vs k hk
    exact ⟨hs _ _ g0, hs _ _ g1, hs _ _ g2⟩
theorem Rd.atW {w : World} {D : Option Addr} {n m cd : Nat} {xs : List Nat} (h : Rd w (.slice D n cd) m 1 (u64s xs)) (h0 : 0 < m) : ∃ b o, D = some ⟨b, o, none⟩ ∧
    ∀ k, k < xs.length → w.cell? ⟨b, o + k, none⟩ = some (.int .u64 ((xs.getD k 0 : Nat) : Int)) := by
  rcases h.2 with ⟨_, rfl⟩ | ⟨b, o, cap', he, _, _, hs⟩
  · exact absurd h0 (Nat.lt_irrefl 0)
  · injection he with e1 e2 e3
    exact ⟨b, o, e1, fun k hk => hs.word k hk⟩
set_option maxHeartbeats 8000000 in
theorem dictAt_any (kd : Nat) (hkd : kd = 1 ∨ kd = 2) (v : Value) (xs : List Nat) (p wd k : Nat) (w : World) (hx : Rd w v xs.length 1 (u8s xs)) (hb : ∀ x ∈ xs, x < 256) (hl : xs.length ≤ 1048576) (hp : p ≤ 1048576) (hk : k ≤ 65536) :
    Calls Tryz.prog 47 #[v, .int .i64 p, .int .i64 kd, .int .i64 wd, .int .i64 k] w fun e w' => PAns w w' e (dictR kd wd k p xs) := by
  have HNA := hid (numberAt_any v xs p 4 w hx hb hl (by omega) (by omega))
  have HND := hid (fun (d : Nat) (hd : d ≤ 256) (w2 : World) => need_any d w2 hd)
  have HLA := hid (fun (d : Nat) (hd : d ≤ 256) => by
    have h := listAt_any kd hkd v xs (p + 4) d w hx hb hl (by omega) (by omega)
    rw [show ((p + 4 : Nat) : Int) = (p : Int) + 4 by omega] at h
    exact h)
  have HLN := hid (fun (nx : Nat) (hn : nx ≤ 1048576) (w2 : World) (hbl : Below w.heap.size w w2) => lanesAt_any v xs nx wd k w2 (hx.mono hbl) hb hl (by omega))
  have HLL := hid (fun m => listP_len kd m (p + 4) xs)
  have HNX := hid (fun m => listNx_le kd m (p + 4) xs hl)
  obtain ⟨A, ca, rfl, _, _, _⟩ := hx.form
  clear hx
  obtain ⟨R, hR⟩ : ∃ R, dictR kd wd k p xs = R := ⟨_, rfl⟩
  rw [hR]
  unfold dictR dN at hR
  obtain ⟨ok, hok⟩ : ∃ ok, numOk 4 p xs.length = ok := ⟨_, rfl⟩
  rw [hok] at hR HNA
  have hwl : L.wordOf 8 ((xs.drop p).take 4) < 4294967296 := wordOf4_lt _ (fun x hx => hb x (List.mem_of_mem_drop (List.mem_of_mem_take hx))) (by rw [List.length_take]; omega)
  generalize L.wordOf 8 ((xs.drop p).take 4) = d0 at *
  have HR := hid hR
  clear hR hok
  cases ok
  · have HRN := hid (show R = (false, []) by rw [← HR.out]; simp)
    clear HR
    simp only [Bool.false_eq_true, if_false] at HNA
    go_enter Tryz.func47, Tryz.ntmps47
    go_wp2_with (go_at_call 46; refine HNA.out.mono ?_; rintro e w1 ⟨rfl, hw⟩; replace hw := hw.symm; subst hw)
    go_ret2
    exact pans_no HRN.out (brefl w)
  simp only [if_true] at HNA HR
  by_cases h256 : 256 < d0
  · have HRN := hid (show R = (false, []) by rw [← HR.out, if_pos (.inr (.inl h256))])
    clear HR
    have h256i : (d0 : Int) > 256 := by omega
    go_enter Tryz.func47, Tryz.ntmps47
    go_wp2_with (go_at_call 46; refine HNA.out.mono ?_; rintro e w1 ⟨rfl, hw⟩; replace hw := hw.symm; subst hw)
    go_ret2
    exact pans_no HRN.out (brefl w)
  have hd256 : d0 ≤ 256 := by omega
  have h256i : ¬ (d0 : Int) > 256 := by omega
  have HNDd := hid (HND.out d0 hd256)
  have HLAd := hid (HLA.out d0 hd256)
  by_cases hwd : wd = needN d0
  rotate_left
  · have HRN := hid (show R = (false, []) by rw [← HR.out, if_pos (.inr (.inr hwd))])
    clear HR HLAd
    generalize needN d0 = nd at *
    have hne : ((wd : Int) != (nd : Int)) = true := by simp; omega
    go_enter Tryz.func47, Tryz.ntmps47
    go_wp2_with (first
      | (go_at_call 46; refine HNA.out.mono ?_; rintro e w1 ⟨rfl, hw⟩; replace hw := hw.symm; subst hw)
      | (go_at_call 63; refine (HNDd.out _).mono ?_; rintro e w1 ⟨rfl, hw⟩; replace hw := hw.symm; subst hw))
    go_ret2
    exact pans_no HRN.out (brefl w)
  rw [if_neg (by simp; omega)] at HR
  rw [← hwd] at HNDd
  have HLLd := hid (HLL.out d0)
  have HNXd := hid (HNX.out d0)
  have hne : ((wd : Int) != (wd : Int)) = false := by simp
  clear HND HLA HLL HNX hwd
  obtain ⟨lo, hlo⟩ : ∃ lo, listOk kd d0 (p + 4) xs = lo := ⟨_, rfl⟩
  rw [hlo] at HR HLAd HLLd
  generalize listP kd d0 (p + 4) xs = dict at *
  generalize listNx kd d0 (p + 4) xs = nx at *
  go_enter Tryz.func47, Tryz.ntmps47
  cases lo
  · have HRN := hid (show R = (false, []) by rw [← HR.out]; simp)
    clear HR
    go_wp2_with (first
      | (go_at_call 46; refine HNA.out.mono ?_; rintro e w1 ⟨rfl, hw⟩; replace hw := hw.symm; subst hw)
      | (go_at_call 63; refine (HNDd.out _).mono ?_; rintro e w1 ⟨rfl, hw⟩; replace hw := hw.symm; subst hw)
      | (go_at_call 50; refine HLAd.out.mono ?_; rintro e w2 ⟨u, rfl, ho2, hb2⟩; have HB2 := hid hb2; clear ho2 hb2))
    go_ret2
    exact pans_no HRN.out HB2.out
  have hdl : dict.length = d0 := HLLd.out rfl hkd
  go_upto_region 7 with (first
      | (go_at_call 46; refine HNA.out.mono ?_; rintro e w1 ⟨rfl, hw⟩; replace hw := hw.symm; subst hw)
      | (go_at_call 63; refine (HNDd.out _).mono ?_; rintro e w1 ⟨rfl, hw⟩; replace hw := hw.symm; subst hw)
      | (go_at_call 50; refine HLAd.out.mono ?_; rintro e w2 ⟨u, rfl, ho2, hb2⟩; have HO2 := hid ho2; have HB2 := hid hb2; obtain ⟨D, cd, rfl⟩ := owns3_form ho2; clear ho2 hb2))
  rw [hdl] at HO2
  have HRD2 := hid (owns3_rd HO2.out)
  have hsz2 := HB2.out.size
  have HDL := hid hdl
  clear HO2 HNA HNDd HLAd HLLd hdl
  go_wp2_with fail
  go_loopw [55] (fun i wr => ∃ t : Nat, t ≤ d0 ∧ i = .int .i64 t ∧ Hid (∀ u, u + 1 < t → geP (dict.getD u dfP) (dict.getD (u + 1) dfP) = false) ∧ Hid (Below w2.heap.size w2 wr)) (fun i _ => d0 - (intOf i).toNat)
  case atStart => exact ⟨0, by omega, rfl, hid (fun u h => absurd h (by omega)), hid (brefl w2)⟩
  case round =>
    obtain ⟨t, ht, rfl, HALL, HBW⟩ := hrel
    by_cases hlt : t < d0
    · rcases Nat.eq_zero_or_pos t with rfl | ht0
      · go_upto_region 10 with fail
        go_quiet (fail)
        go_wp2_with fail
        go_roundw
        case rel => exact ⟨1, by omega, by go_num, hid (fun u h => absurd h (by omega)), hid (bdrew HBW.out _)⟩
        case measure => simp [intOf]; omega
      · obtain ⟨u, hu⟩ : ∃ u, t = u + 1 := ⟨t - 1, by omega⟩
        obtain ⟨b, o, rfl, hcells⟩ := (HRD2.out.mono HBW.out).atP (by omega)
        obtain ⟨m0, m1, m2⟩ := hcells u (by rw [HDL.out]; omega)
        obtain ⟨l0, l1, l2⟩ := hcells t (by rw [HDL.out]; omega)
        have HG : Hid (geP (dict.getD u dfP) (dict.getD t dfP) = decide (0 ≤ ordP (dict.getD u dfP) (dict.getD t dfP))) := hid rfl
        have HORD := hid (fun (w2 : World) => order_any (dict.getD u dfP) (dict.getD t dfP) w2)
        have HBAD : Hid (geP (dict.getD u dfP) (dict.getD t dfP) = true → noPair geP dict = false) := hid (fun h => by
          rw [← Bool.not_eq_true, noPair_iff geP dfP]
          intro h2
          have := h2 u (by rw [HDL.out]; omega)
          rw [← hu, h] at this; cases this)
        have HNEXT : Hid (geP (dict.getD u dfP) (dict.getD t dfP) = false → ∀ z, z + 1 < t + 1 → geP (dict.getD z dfP) (dict.getD (z + 1) dfP) = false) := hid (fun h z hz => by
          by_cases hzu : z = u
          · subst hzu; rw [← hu]; exact h
          · exact HALL.out z (by omega))
        clear hcells
        generalize dict.getD u dfP = X at *
        generalize dict.getD t dfP = Y at *
        obtain ⟨xi, xs'⟩ := X
        obtain ⟨yi, ys'⟩ := Y
        simp only at m1 m2 l1 l2 HORD
        generalize ordP (xi, xs') (yi, ys') = od at *
        generalize geP (xi, xs') (yi, ys') = ge at *
        have i0 : (0 : Int) ≤ (u : Int) := by omega
        have i1 : (u : Int) < (d0 : Int) := by omega
        have i2 : (t : Int) < (d0 : Int) := by omega
        have i3 : (t : Int) > 0 := by omega
        have ia : (t : Int) - 1 = (u : Int) := by omega
        have iw : IntKind.i64.wrap ((t : Int) - 1) = (u : Int) := by rw [ia, IntKind.wrap_i64]; omega
        have iw2 : IntKind.i64.wrap (u : Int) = (u : Int) := by rw [IntKind.wrap_i64]; omega
        have hbl : b < wr.heap.size := World.block_lt_of_cell? wr _ m0
        clear hu
        go_upto_region 10 with fail
        go_region_held3 (fun w' => w'.cell? ⟨b, o + u * 3, none⟩ = some (.bool false) ∧ w'.cell? ⟨b, o + u * 3 + 1, none⟩ = some (.int .i64 xi) ∧ w'.cell? ⟨b, o + u * 3 + 2, none⟩ = some (.string xs') ∧ w'.cell? ⟨b, o + t * 3, none⟩ = some (.bool false) ∧ w'.cell? ⟨b, o + t * 3 + 1, none⟩ = some (.int .i64 yi) ∧ w'.cell? ⟨b, o + t * 3 + 2, none⟩ = some (.string ys')) (go_keep)
          (first | (go_at_call 77; refine (HORD.out _).mono ?_; rintro e w3 ⟨rfl, hb3⟩; have HB3 := hid ((bdrew (brefl wr) 1).trans hb3); have q0 := (hb3.cell (p := ⟨b, o + u * 3, none⟩) hbl).trans m0; have q1 := (hb3.cell (p := ⟨b, o + u * 3 + 1, none⟩) hbl).trans m1; have q2 := (hb3.cell (p := ⟨b, o + u * 3 + 2, none⟩) hbl).trans m2; have q3 := (hb3.cell (p := ⟨b, o + t * 3, none⟩) hbl).trans l0; have q4 := (hb3.cell (p := ⟨b, o + t * 3 + 1, none⟩) hbl).trans l1; have q5 := (hb3.cell (p := ⟨b, o + t * 3 + 2, none⟩) hbl).trans l2; clear hb3))
        by_cases hod : 0 ≤ od
        · have HRN := hid (show R = (false, []) by rw [← HR.out, if_pos (.inr (HBAD.out (by rw [HG.out]; simp [hod])))])
          go_wp2_with fail
          go_ret2
          exact pans_no HRN.out (Below.then' HB2.out (Below.then' HBW.out HB3.out HBW.out.size) hsz2)
        · have HN2 := hid (HNEXT.out (by rw [HG.out]; simp; omega))
          go_wp2_with fail
          go_roundw
          case rel => exact ⟨t + 1, by omega, by go_num, HN2, hid (Below.then' HBW.out HB3.out HBW.out.size)⟩
          case measure => simp [intOf]; omega
    · obtain rfl : t = d0 := by omega
      have hnp : noPair geP dict = true := (noPair_iff geP dfP dict).2 (fun z hz => HALL.out z (by rw [← HDL.out]; exact hz))
      rw [if_neg (by rw [hnp]; simp)] at HR
      have HBWW := hid (Below.then' HB2.out HBW.out hsz2)
      have HLNw := hid (HLN.out nx HNXd wr HBWW.out)
      have hcl := lanesV_len wd k nx xs
      have hcv := lanesV_lt wd k nx xs
      have HDR := hid (HRD2.out.mono HBW.out)
      generalize lanesV wd k nx xs = CV at *
      generalize lanesOk wd k nx xs = lk at *
      clear HRD2 hnp HALL HLN HB2 HBW
      go_upto_region 15 with (go_at_call 78; refine HLNw.out.mono ?_; rintro e w3 ⟨cu, rfl, ho3, hb3⟩; have HO3 := hid (owns_rd ho3); have HB3 := hid hb3; obtain ⟨E, ce, rfl, hce1, hce2, _, _⟩ := owns_form ho3; clear ho3 hb3)
      have HDR3 := hid (HDR.out.mono HB3.out)
      have HBW3 := hid (Below.then' HBWW.out HB3.out HBWW.out.size)
      obtain ⟨cn, hcn⟩ : ∃ cn, CV.length = cn := ⟨_, rfl⟩
      have HCN := hid hcn
      rw [hcn] at HO3 hcl hce1 ⊢
      clear HDR HBWW HLNw hcn
      unfold maxLen at hce2
      go_wp2_with fail
      go_loopw [18, 84] (fun s i wz => ∃ z : Nat, z ≤ cn ∧ i = .int .i64 z ∧ Hid (∀ y, y < z → CV.getD y 0 < t) ∧ Hid (wz.ownsRow w3.heap.size 38 3 s z (cellsP ((CV.take z).map fun c => dict.getD c dfP))) ∧ Hid (Below w3.heap.size w3 wz)) (fun _ i _ => cn - (intOf i).toNat)
      case atStart => exact ⟨0, by omega, rfl, hid (fun y h => absurd h (Nat.not_lt_zero y)), hid ⟨by simp [cellsP], .inl ⟨rfl, rfl⟩⟩, hid (brefl w3)⟩
      case round =>
        obtain ⟨z, hz, rfl, HALL, HOWN, HBZ⟩ := hrel
        have hszz := HBZ.out.size
        obtain ⟨A2, c2, rfl⟩ := owns3_form HOWN.out
        have hBz : w.heap.size ≤ wr.heap.size := Nat.le_trans HBW3.out.size hszz
        have HBWZ := hid (Below.then' HBW3.out HBZ.out HBW3.out.size)
        by_cases hlt2 : z < cn
        · obtain ⟨b, o, rfl, hs⟩ := (HO3.out.mono HBZ.out).atW (by omega)
          have e1 := hs z (by rw [HCN.out]; exact hlt2)
          have hx64 := hcv (CV.getD z 0) (by simp [List.getD, List.getElem?_eq_getElem (show z < CV.length by rw [HCN.out]; exact hlt2)])
          have HSN := hid (take_map_snoc (fun c => dict.getD c dfP) 0 CV z (by rw [HCN.out]; exact hlt2))
          have HBAD : Hid (¬ CV.getD z 0 < t → (CV.all fun c => decide (c < t)) = false) := hid (fun h => by
            rw [← Bool.not_eq_true]
            intro h2
            simp only [List.all_eq_true, decide_eq_true_eq] at h2
            exact h (h2 _ (by simp [List.getD, List.getElem?_eq_getElem (show z < CV.length by rw [HCN.out]; exact hlt2)])))
          clear hs
          by_cases hbig : CV.getD z 0 < t
          · obtain ⟨b', o', rfl, hcells⟩ := (HDR3.out.mono HBZ.out).atP (by omega)
            obtain ⟨l0, l1, l2⟩ := hcells (CV.getD z 0) (by rw [HDL.out]; exact hbig)
            have HNX2 : Hid (∀ y, y < z + 1 → CV.getD y 0 < t) := hid (fun y hy => by
              by_cases hyz : y = z
              · subst hyz; exact hbig
              · exact HALL.out y (by omega))
            clear hcells HBAD
            generalize dict.getD (CV.getD z 0) dfP = X at *
            generalize CV.getD z 0 = x at *
            obtain ⟨xi, xs'⟩ := X
            simp only at l1 l2
            have i1 : ¬ (x : Int) ≥ (t : Int) := by omega
            go_wp2_with (at_builtin; refine wpList_append3 rfl (.tmp 91) (.tmp 96) rfl 38 [.bool false, .int .i64 0, .string ByteArray.empty] 32 Tryz.underlying26 Tryz.infoCell rfl rfl rfl HOWN.out hszz (by intro u hu; simp at hu; rcases hu with rfl | rfl | rfl <;> rfl) (by unfold maxLen; omega) (by omega) ?_; intro v' w' ho hb3)
            go_roundw
            case rel =>
              refine ⟨z + 1, by omega, by go_num, HNX2, hid ?_, hid (Below.trans HBZ.out hb3)⟩
              rw [HSN.out, cellsP_snoc]
              exact ho
            case measure => simp [intOf]; omega
          · have HRN := hid (show R = (false, []) by rw [← HR.out, if_pos (HBAD.out hbig)])
            generalize CV.getD z 0 = x at *
            have i1 : (x : Int) ≥ (t : Int) := by omega
            go_wp2_with fail
            go_ret2
            exact pans_no HRN.out HBWZ.out
        · obtain rfl : z = cn := by omega
          have hall : (CV.all fun c => decide (c < t)) = true := by
            simp only [List.all_eq_true, decide_eq_true_eq]
            intro x hx
            obtain ⟨y, hy, rfl⟩ := List.getElem_of_mem hx
            have := HALL.out y (by rw [← HCN.out]; exact hy)
            simpa [List.getD, List.getElem?_eq_getElem hy] using this
          have HRF := hid (show R = (lk, CV.map fun c => dict.getD c dfP) by rw [← HR.out, if_neg (by rw [hall]; simp)])
          have HOWN2 : Hid (wr.ownsRow w.heap.size 38 3 (.slice A2 z c2) (CV.map fun c => dict.getD c dfP).length (cellsP (CV.map fun c => dict.getD c dfP))) := hid (by
            have h := owns3_mono HOWN.out HBW3.out.size
            rw [← HCN.out, List.take_length] at h
            rw [List.length_map]
            rw [← HCN.out]
            exact h)
          go_wp2_with fail
          go_ret2
          rw [HRF.out]
          exact ⟨_, rfl, ⟨_, _, _, rfl⟩, fun _ => HOWN2.out, HBWZ.out⟩
end Go.Proofs.YtdlkdiaobbakiaaGreatDoor
