/- The plain answer: dictionaries. -/
import Derived.Test.YthonbfojpbfmgaaGreatDoorLawfolduptoB9
set_option linter.unusedVariables false
set_option linter.unusedSimpArgs false
set_option linter.unnecessarySimpa false
set_option maxRecDepth 100000
namespace Go.Proofs.YthonbfojpbfmgaaGreatDoor
open Go.RowKit

abbrev PV := Int × ByteArray
/-- what a reading of a payload hands back: a list, and is it one -/
def PAns (w w' : World) (e : Ending) (r : Bool × List PV) : Prop :=
  ∃ u, e = .returned (.tuple #[u, .bool r.1]) ∧ (∃ A n c, u = Value.slice A n c) ∧ (r.1 = true → w'.ownsRow w.heap.size 42 3 u r.2.length (cellsP r.2)) ∧ Below w.heap.size w w'
def geP (a b : PV) : Bool := decide (0 ≤ ordP a b)
def eqP (a b : PV) : Bool := decide (ordP a b = 0)
def dN (p : Nat) (xs : List Nat) : Nat := if numOk 4 p xs.length = true then L.wordOf 8 ((xs.drop p).take 4) else 0
def dictR (kd wd k p : Nat) (xs : List Nat) : Bool × List PV :=
  if numOk 4 p xs.length = false ∨ 256 < dN p xs ∨ wd ≠ needN (dN p xs) then (false, [])
  else if listOk kd (dN p xs) (p + 4) xs = false ∨ noPair geP (listP kd (dN p xs) (p + 4) xs) = false then (false, [])
  else if ((lanesV wd k (listNx kd (dN p xs) (p + 4) xs) xs).all fun c => decide (c < dN p xs)) = false then (false, [])
  else (lanesOk wd k (listNx kd (dN p xs) (p + 4) xs) xs, (lanesV wd k (listNx kd (dN p xs) (p + 4) xs) xs).map fun c => (listP kd (dN p xs) (p + 4) xs).getD c dfP)
theorem pans_no {w w' : World} {r : Bool × List PV} (h : r = (false, [])) (hb : Below w.heap.size w w') : PAns w w' (.returned (.tuple #[.slice none 0 0, .bool false])) r := by
  subst h
  exact ⟨_, rfl, ⟨_, _, _, rfl⟩, (fun h => by simp at h), hb⟩
theorem listP_len (kd m p : Nat) (xs : List Nat) (h : listOk kd m p xs = true) (hkd : kd = 1 ∨ kd = 2) : (listP kd m p xs).length = m := by
  rcases hkd with rfl | rfl
  · unfold listOk at h; rw [if_pos rfl] at h
    unfold numsOk at h; simp only [decide_eq_true_eq] at h
    unfold listP; rw [if_pos rfl, List.length_map, List.length_map, numL_length]
    unfold tk; rw [if_pos (by rw [List.length_drop]; exact h.2), List.length_take, List.length_drop, Nat.min_eq_left (by omega)]
    omega
  · unfold listOk at h; rw [if_neg (by decide)] at h
    unfold listP; rw [if_neg (by decide), List.length_map]
    have h2 := h
    unfold strsOk at h2; simp only [Bool.and_eq_true] at h2
    unfold numsOk at h2; simp only [decide_eq_true_eq] at h2
    unfold strsV; rw [if_pos h, cutS_length, nI_length, numL_length]
    unfold tk; rw [if_pos (by rw [List.length_drop]; exact h2.1.2), List.length_take, List.length_drop, Nat.min_eq_left (by omega)]
    omega
theorem listNx_le (kd m p : Nat) (xs : List Nat) (hl : xs.length ≤ 16777216) : listNx kd m p xs ≤ 16777216 := by
  unfold listNx
  split
  · split
    · rename_i h
      unfold numsOk at h; simp only [decide_eq_true_eq] at h
      omega
    · omega
  · unfold strsNx
    split
    · rename_i h
      unfold strsOk at h; simp only [Bool.and_eq_true] at h
      obtain ⟨h1, h2⟩ := h
      unfold numsOk at h1; simp only [decide_eq_true_eq] at h1
      unfold tsz
      split at h2
      · cases h2
      · rename_i sz hsz
        simp only [decide_eq_true_eq] at h2
        rw [hsz]
        simp only [Option.getD_some]
        omega
    · omega
theorem Rd.atP {w : World} {D : Option Addr} {n m cd : Nat} {vs : List PV} (h : Rd w (.slice D n cd) m 3 (cellsP vs)) (h0 : 0 < m) : ∃ b o, D = some ⟨b, o, none⟩ ∧
    ∀ k, k < vs.length → w.cell? ⟨b, o + k * 3, none⟩ = some (.bool false) ∧ w.cell? ⟨b, o + k * 3 + 1, none⟩ = some (.int .i64 (vs.getD k dfP).1) ∧ w.cell? ⟨b, o + k * 3 + 2, none⟩ = some (.string (vs.getD k dfP).2) := by
  rcases h.2 with ⟨_, rfl⟩ | ⟨b, o, cap', he, _, _, hs⟩
  · exact absurd h0 (Nat.lt_irrefl 0)
  · injection he with e1 e2 e3
    refine ⟨b, o, e1, fun k hk => ?_⟩
    obtain ⟨g0, g1, g2⟩ := cellsP_get vs k hk
    exact ⟨hs _ _ g0, hs _ _ g1, hs _ _ g2⟩
theorem Rd.atW {w : World} {D : Option Addr} {n m cd : Nat} {xs : List Nat} (h : Rd w (.slice D n cd) m 1 (u64s xs)) (h0 : 0 < m) : ∃ b o, D = some ⟨b, o, none⟩ ∧
    ∀ k, k < xs.length → w.cell? ⟨b, o + k, none⟩ = some (.int .u64 ((xs.getD k 0 : Nat) : Int)) := by
  rcases h.2 with ⟨_, rfl⟩ | ⟨b, o, cap', he, _, _, hs⟩
  · exact absurd h0 (Nat.lt_irrefl 0)
  · injection he with e1 e2 e3
    exact ⟨b, o, e1, fun k hk => hs.word k hk⟩
set_option maxHeartbeats 8000000 in
theorem dictAt_any (kd : Nat) (hkd : kd = 1 ∨ kd = 2) (v : Value) (xs : List Nat) (p wd k : Nat) (w : World) (hx : Rd w v xs.length 1 (u8s xs)) (hb : ∀ x ∈ xs, x < 256) (hl : xs.length ≤ 16777216) (hp : p ≤ 16777216) (hk : k ≤ 65536) :
    Calls Tryz.prog 112 #[v, .int .i64 p, .int .i64 kd, .int .i64 wd, .int .i64 k] w fun e w' => PAns w w' e (dictR kd wd k p xs) := by
  have HNA := hid (numberAt_any v xs p 4 w hx hb hl (by omega) (by omega))
  have HND := hid (fun (d : Nat) (hd : d ≤ 256) (w2 : World) => need_any d w2 hd)
  have HLA := hid (fun (d : Nat) (hd : d ≤ 256) => by
    have h := listAt_any kd hkd v xs (p + 4) d w hx hb hl (by omega) (by omega)
    rw [show ((p + 4 : Nat) : Int) = (p : Int) + 4 by omega] at h
    exact h)
  have HLN := hid (fun (nx : Nat) (hn : nx ≤ 16777216) (w2 : World) (hbl : Below w.heap.size w w2) => lanesAt_any v xs nx wd k w2 (hx.mono hbl) hb hl (by omega))
  have HLL := hid (fun m => listP_len kd m (p + 4) xs)
  have HNX := hid (fun m => listNx_le kd m (p + 4) xs hl)
  obtain ⟨A, ca, rfl, _, _, _⟩ := hx.form
  clear hx
  obtain ⟨R, hR⟩ : ∃ R, dictR kd wd k p xs = R := ⟨_, rfl⟩
  rw [hR]
  unfold dictR dN at hR
  obtain ⟨ok, hok⟩ : ∃ ok, numOk 4 p xs.length = ok := ⟨_, rfl⟩
  rw [hok] at hR HNA
  have hwl : L.wordOf 8 ((xs.drop p).take 4) < 4294967296 := wordOf4_lt _ (fun x hx => hb x (List.mem_of_mem_drop (List.mem_of_mem_take hx))) (by rw [List.length_take]; omega)
  generalize L.wordOf 8 ((xs.drop p).take 4) = d0 at *
  have HR := hid hR
  clear hR hok
  cases ok
  · have HRN := hid (show R = (false, []) by rw [← HR.out]; simp)
    clear HR
    simp only [Bool.false_eq_true, if_false] at HNA
    go_enter Tryz.func112, Tryz.ntmps112
    go_wp2_with (go_at_call 111; refine HNA.out.mono ?_; rintro e w1 ⟨rfl, hw⟩; replace hw := hw.symm; subst hw)
    go_ret2
    exact pans_no HRN.out (brefl w)
  simp only [if_true] at HNA HR
  by_cases h256 : 256 < d0
  · have HRN := hid (show R = (false, []) by rw [← HR.out, if_pos (.inr (.inl h256))])
    clear HR
    have h256i : (d0 : Int) > 256 := by omega
    go_enter Tryz.func112, Tryz.ntmps112
    go_wp2_with (go_at_call 111; refine HNA.out.mono ?_; rintro e w1 ⟨rfl, hw⟩; replace hw := hw.symm; subst hw)
    go_ret2
    exact pans_no HRN.out (brefl w)
  have hd256 : d0 ≤ 256 := by omega
  have h256i : ¬ (d0 : Int) > 256 := by omega
  have HNDd := hid (HND.out d0 hd256)
  have HLAd := hid (HLA.out d0 hd256)
  by_cases hwd : wd = needN d0
  rotate_left
  · have HRN := hid (show R = (false, []) by rw [← HR.out, if_pos (.inr (.inr hwd))])
    clear HR HLAd
    generalize needN d0 = nd at *
    have hne : ((wd : Int) != (nd : Int)) = true := by simp; omega
    go_enter Tryz.func112, Tryz.ntmps112
    go_wp2_with (first
      | (go_at_call 111; refine HNA.out.mono ?_; rintro e w1 ⟨rfl, hw⟩; replace hw := hw.symm; subst hw)
      | (go_at_call 163; refine (HNDd.out _).mono ?_; rintro e w1 ⟨rfl, hw⟩; replace hw := hw.symm; subst hw))
    go_ret2
    exact pans_no HRN.out (brefl w)
  rw [if_neg (by simp; omega)] at HR
  rw [← hwd] at HNDd
  have HLLd := hid (HLL.out d0)
  have HNXd := hid (HNX.out d0)
  have hne : ((wd : Int) != (wd : Int)) = false := by simp
  clear HND HLA HLL HNX hwd
  obtain ⟨lo, hlo⟩ : ∃ lo, listOk kd d0 (p + 4) xs = lo := ⟨_, rfl⟩
  rw [hlo] at HR HLAd HLLd
  generalize listP kd d0 (p + 4) xs = dict at *
  generalize listNx kd d0 (p + 4) xs = nx at *
  go_enter Tryz.func112, Tryz.ntmps112
  cases lo
  · have HRN := hid (show R = (false, []) by rw [← HR.out]; simp)
    clear HR
    go_wp2_with (first
      | (go_at_call 111; refine HNA.out.mono ?_; rintro e w1 ⟨rfl, hw⟩; replace hw := hw.symm; subst hw)
      | (go_at_call 163; refine (HNDd.out _).mono ?_; rintro e w1 ⟨rfl, hw⟩; replace hw := hw.symm; subst hw)
      | (go_at_call 115; refine HLAd.out.mono ?_; rintro e w2 ⟨u, rfl, ho2, hb2⟩; have HB2 := hid hb2; clear ho2 hb2))
    go_ret2
    exact pans_no HRN.out HB2.out
  have hdl : dict.length = d0 := HLLd.out rfl hkd
  go_upto_region 7 with (first
      | (go_at_call 111; refine HNA.out.mono ?_; rintro e w1 ⟨rfl, hw⟩; replace hw := hw.symm; subst hw)
      | (go_at_call 163; refine (HNDd.out _).mono ?_; rintro e w1 ⟨rfl, hw⟩; replace hw := hw.symm; subst hw)
      | (go_at_call 115; refine HLAd.out.mono ?_; rintro e w2 ⟨u, rfl, ho2, hb2⟩; have HO2 := hid ho2; have HB2 := hid hb2; obtain ⟨D, cd, rfl⟩ := owns3_form ho2; clear ho2 hb2))
  rw [hdl] at HO2
  have HRD2 := hid (owns3_rd HO2.out)
  have hsz2 := HB2.out.size
  have HDL := hid hdl
  clear HO2 HNA HNDd HLAd HLLd hdl
  go_wp2_with fail
  go_loopw [55] (fun i wr => ∃ t : Nat, t ≤ d0 ∧ i = .int .i64 t ∧ Hid (∀ u, u + 1 < t → geP (dict.getD u dfP) (dict.getD (u + 1) dfP) = false) ∧ Hid (Below w2.heap.size w2 wr)) (fun i _ => d0 - (intOf i).toNat)
  case atStart => exact ⟨0, by omega, rfl, hid (fun u h => absurd h (by omega)), hid (brefl w2)⟩
  case round =>
    obtain ⟨t, ht, rfl, HALL, HBW⟩ := hrel
    by_cases hlt : t < d0
    · rcases Nat.eq_zero_or_pos t with rfl | ht0
      · go_upto_region 10 with fail
        go_quiet (fail)
        go_wp2_with fail
        go_roundw
        case rel => exact ⟨1, by omega, by go_num, hid (fun u h => absurd h (by omega)), hid (bdrew HBW.out _)⟩
        case measure => simp [intOf]; omega
      · obtain ⟨u, hu⟩ : ∃ u, t = u + 1 := ⟨t - 1, by omega⟩
        obtain ⟨b, o, rfl, hcells⟩ := (HRD2.out.mono HBW.out).atP (by omega)
        obtain ⟨m0, m1, m2⟩ := hcells u (by rw [HDL.out]; omega)
        obtain ⟨l0, l1, l2⟩ := hcells t (by rw [HDL.out]; omega)
        have HG : Hid (geP (dict.getD u dfP) (dict.getD t dfP) = decide (0 ≤ ordP (dict.getD u dfP) (dict.getD t dfP))) := hid rfl
        have HORD := hid (fun (w2 : World) => order_any (dict.getD u dfP) (dict.getD t dfP) w2)
        have HBAD : Hid (geP (dict.getD u dfP) (dict.getD t dfP) = true → noPair geP dict = false) := hid (fun h => by
          rw [← Bool.not_eq_true, noPair_iff geP dfP]
          intro h2
          have := h2 u (by rw [HDL.out]; omega)
          rw [← hu, h] at this; cases this)
        have HNEXT : Hid (geP (dict.getD u dfP) (dict.getD t dfP) = false → ∀ z, z + 1 < t + 1 → geP (dict.getD z dfP) (dict.getD (z + 1) dfP) = false) := hid (fun h z hz => by
          by_cases hzu : z = u
          · subst hzu; rw [← hu]; exact h
          · exact HALL.out z (by omega))
        clear hcells
        generalize dict.getD u dfP = X at *
        generalize dict.getD t dfP = Y at *
        obtain ⟨xi, xs'⟩ := X
        obtain ⟨yi, ys'⟩ := Y
        simp only at m1 m2 l1 l2 HORD
        generalize ordP (xi, xs') (yi, ys') = od at *
        generalize geP (xi, xs') (yi, ys') = ge at *
        have i0 : (0 : Int) ≤ (u : Int) := by omega
        have i1 : (u : Int) < (d0 : Int) := by omega
        have i2 : (t : Int) < (d0 : Int) := by omega
        have i3 : (t : Int) > 0 := by omega
        have ia : (t : Int) - 1 = (u : Int) := by omega
        have iw : IntKind.i64.wrap ((t : Int) - 1) = (u : Int) := by rw [ia, IntKind.wrap_i64]; omega
        have iw2 : IntKind.i64.wrap (u : Int) = (u : Int) := by rw [IntKind.wrap_i64]; omega
        have hbl : b < wr.heap.size := World.block_lt_of_cell? wr _ m0
        clear hu
        go_upto_region 10 with fail
        go_region_held3 (fun w' => w'.cell? ⟨b, o + u * 3, none⟩ = some (.bool false) ∧ w'.cell? ⟨b, o + u * 3 + 1, none⟩ = some (.int .i64 xi) ∧ w'.cell? ⟨b, o + u * 3 + 2, none⟩ = some (.string xs') ∧ w'.cell? ⟨b, o + t * 3, none⟩ = some (.bool false) ∧ w'.cell? ⟨b, o + t * 3 + 1, none⟩ = some (.int .i64 yi) ∧ w'.cell? ⟨b, o + t * 3 + 2, none⟩ = some (.string ys')) (go_keep)
          (first | (go_at_call 64; refine (HORD.out _).mono ?_; rintro e w3 ⟨rfl, hb3⟩; have HB3 := hid ((bdrew (brefl wr) 1).trans hb3); have q0 := (hb3.cell (p := ⟨b, o + u * 3, none⟩) hbl).trans m0; have q1 := (hb3.cell (p := ⟨b, o + u * 3 + 1, none⟩) hbl).trans m1; have q2 := (hb3.cell (p := ⟨b, o + u * 3 + 2, none⟩) hbl).trans m2; have q3 := (hb3.cell (p := ⟨b, o + t * 3, none⟩) hbl).trans l0; have q4 := (hb3.cell (p := ⟨b, o + t * 3 + 1, none⟩) hbl).trans l1; have q5 := (hb3.cell (p := ⟨b, o + t * 3 + 2, none⟩) hbl).trans l2; clear hb3))
        by_cases hod : 0 ≤ od
        · have HRN := hid (show R = (false, []) by rw [← HR.out, if_pos (.inr (HBAD.out (by rw [HG.out]; simp [hod])))])
          go_wp2_with fail
          go_ret2
          exact pans_no HRN.out (Below.then' HB2.out (Below.then' HBW.out HB3.out HBW.out.size) hsz2)
        · have HN2 := hid (HNEXT.out (by rw [HG.out]; simp; omega))
          go_wp2_with fail
          go_roundw
          case rel => exact ⟨t + 1, by omega, by go_num, HN2, hid (Below.then' HBW.out HB3.out HBW.out.size)⟩
          case measure => simp [intOf]; omega
    · obtain rfl : t = d0 := by omega
      have hnp : noPair geP dict = true := (noPair_iff geP dfP dict).2 (fun z hz => HALL.out z (by rw [← HDL.out]; exact hz))
      rw [if_neg (by rw [hnp]; simp)] at HR
      have HBWW := hid (Below.then' HB2.out HBW.out hsz2)
      have HLNw := hid (HLN.out nx HNXd wr HBWW.out)
      have hcl := lanesV_len wd k nx xs
      have hcv := lanesV_lt wd k nx xs
      have HDR := hid (HRD2.out.mono HBW.out)
      generalize lanesV wd k nx xs = CV at *
      generalize lanesOk wd k nx xs = lk at *
      clear HRD2 hnp HALL HLN HB2 HBW
      go_upto_region 15 with (go_at_call 164; refine HLNw.out.mono ?_; rintro e w3 ⟨cu, rfl, ho3, hb3⟩; have HO3 := hid (owns_rd ho3); have HB3 := hid hb3; obtain ⟨E, ce, rfl, hce1, hce2, _, _⟩ := owns_form ho3; clear ho3 hb3)
      have HDR3 := hid (HDR.out.mono HB3.out)
      have HBW3 := hid (Below.then' HBWW.out HB3.out HBWW.out.size)
      obtain ⟨cn, hcn⟩ : ∃ cn, CV.length = cn := ⟨_, rfl⟩
      have HCN := hid hcn
      rw [hcn] at HO3 hcl hce1 ⊢
      clear HDR HBWW HLNw hcn
      unfold maxLen at hce2
      go_wp2_with fail
      go_loopw [18, 84] (fun s i wz => ∃ z : Nat, z ≤ cn ∧ i = .int .i64 z ∧ Hid (∀ y, y < z → CV.getD y 0 < t) ∧ Hid (wz.ownsRow w3.heap.size 42 3 s z (cellsP ((CV.take z).map fun c => dict.getD c dfP))) ∧ Hid (Below w3.heap.size w3 wz)) (fun _ i _ => cn - (intOf i).toNat)
      case atStart => exact ⟨0, by omega, rfl, hid (fun y h => absurd h (Nat.not_lt_zero y)), hid ⟨by simp [cellsP], .inl ⟨rfl, rfl⟩⟩, hid (brefl w3)⟩
      case round =>
        obtain ⟨z, hz, rfl, HALL, HOWN, HBZ⟩ := hrel
        have hszz := HBZ.out.size
        obtain ⟨A2, c2, rfl⟩ := owns3_form HOWN.out
        have hBz : w.heap.size ≤ wr.heap.size := Nat.le_trans HBW3.out.size hszz
        have HBWZ := hid (Below.then' HBW3.out HBZ.out HBW3.out.size)
        by_cases hlt2 : z < cn
        · obtain ⟨b, o, rfl, hs⟩ := (HO3.out.mono HBZ.out).atW (by omega)
          have e1 := hs z (by rw [HCN.out]; exact hlt2)
          have hx64 := hcv (CV.getD z 0) (by simp [List.getD, List.getElem?_eq_getElem (show z < CV.length by rw [HCN.out]; exact hlt2)])
          have HSN := hid (take_map_snoc (fun c => dict.getD c dfP) 0 CV z (by rw [HCN.out]; exact hlt2))
          have HBAD : Hid (¬ CV.getD z 0 < t → (CV.all fun c => decide (c < t)) = false) := hid (fun h => by
            rw [← Bool.not_eq_true]
            intro h2
            simp only [List.all_eq_true, decide_eq_true_eq] at h2
            exact h (h2 _ (by simp [List.getD, List.getElem?_eq_getElem (show z < CV.length by rw [HCN.out]; exact hlt2)])))
          clear hs
          by_cases hbig : CV.getD z 0 < t
          · obtain ⟨b', o', rfl, hcells⟩ := (HDR3.out.mono HBZ.out).atP (by omega)
            obtain ⟨l0, l1, l2⟩ := hcells (CV.getD z 0) (by rw [HDL.out]; exact hbig)
            have HNX2 : Hid (∀ y, y < z + 1 → CV.getD y 0 < t) := hid (fun y hy => by
              by_cases hyz : y = z
              · subst hyz; exact hbig
              · exact HALL.out y (by omega))
            clear hcells HBAD
            generalize dict.getD (CV.getD z 0) dfP = X at *
            generalize CV.getD z 0 = x at *
            obtain ⟨xi, xs'⟩ := X
            simp only at l1 l2
            have i1 : ¬ (x : Int) ≥ (t : Int) := by omega
            go_wp2_with (at_builtin; refine wpList_append3 rfl (.tmp 91) (.tmp 96) rfl 42 [.bool false, .int .i64 0, .string ByteArray.empty] 32 Tryz.underlying23 Tryz.infoCell rfl rfl rfl HOWN.out hszz (by intro u hu; simp at hu; rcases hu with rfl | rfl | rfl <;> rfl) (by unfold maxLen; omega) (by omega) ?_; intro v' w' ho hb3)
            go_roundw
            case rel =>
              refine ⟨z + 1, by omega, by go_num, HNX2, hid ?_, hid (Below.trans HBZ.out hb3)⟩
              rw [HSN.out, cellsP_snoc]
              exact ho
            case measure => simp [intOf]; omega
          · have HRN := hid (show R = (false, []) by rw [← HR.out, if_pos (HBAD.out hbig)])
            generalize CV.getD z 0 = x at *
            have i1 : (x : Int) ≥ (t : Int) := by omega
            go_wp2_with fail
            go_ret2
            exact pans_no HRN.out HBWZ.out
        · obtain rfl : z = cn := by omega
          have hall : (CV.all fun c => decide (c < t)) = true := by
            simp only [List.all_eq_true, decide_eq_true_eq]
            intro x hx
            obtain ⟨y, hy, rfl⟩ := List.getElem_of_mem hx
            have := HALL.out y (by rw [← HCN.out]; exact hy)
            simpa [List.getD, List.getElem?_eq_getElem hy] using this
          have HRF := hid (show R = (lk, CV.map fun c => dict.getD c dfP) by rw [← HR.out, if_neg (by rw [hall]; simp)])
          have HOWN2 : Hid (wr.ownsRow w.heap.size 42 3 (.slice A2 z c2) (CV.map fun c => dict.getD c dfP).length (cellsP (CV.map fun c => dict.getD c dfP))) := hid (by
            have h := owns3_mono HOWN.out HBW3.out.size
            rw [← HCN.out, List.take_length] at h
            rw [List.length_map]
            rw [← HCN.out]
            exact h)
          go_wp2_with fail
          go_ret2
          rw [HRF.out]
          exact ⟨_, rfl, ⟨_, _, _, rfl⟩, fun _ => HOWN2.out, HBWZ.out⟩
end Go.Proofs.YthonbfojpbfmgaaGreatDoor

/- The plain answer: runs. -/
set_option linter.unusedVariables false
set_option linter.unusedSimpArgs false
set_option linter.unnecessarySimpa false
set_option maxRecDepth 100000
namespace Go.Proofs.YthonbfojpbfmgaaGreatDoor
open Go.RowKit

/-- what the first i runs stand for -/
def fillP (heads : List PV) (ends : List Nat) : Nat → List PV
  | 0 => []
  | i + 1 => fillP heads ends i ++ List.replicate (ends.getD i 0 - (fillP heads ends i).length) (heads.getD i dfP)
theorem endsUp_app (es fs : List Int) : ∀ (l m : Int), endsUp l es = some m → endsUp l (es ++ fs) = endsUp m fs := by
  induction es with
  | nil => intro l m h; simp [endsUp] at h; subst h; rfl
  | cons a r ih =>
    intro l m h
    simp only [List.cons_append, endsUp] at h ⊢
    split at h
    · cases h
    · rename_i hc; rw [if_neg hc]; exact ih a m h
theorem endsUp_ge (es : List Int) : ∀ (l m : Int), endsUp l es = some m → l ≤ m := by
  induction es with
  | nil => intro l m h; simp [endsUp] at h; omega
  | cons a r ih =>
    intro l m h
    simp only [endsUp] at h
    split at h
    · cases h
    · have := ih a m h; omega
theorem nI_getD (xs : List Nat) (i : Nat) (h : i < xs.length) : (nI xs).getD i 0 = ((xs.getD i 0 : Nat) : Int) := by
  simp [nI, List.getD, List.getElem?_eq_getElem h]
theorem endsUp_step (ends : List Nat) (i l : Nat) (hi : i < ends.length) (h : endsUp 0 (nI (ends.take i)) = some (l : Int)) :
    endsUp 0 (nI (ends.take (i + 1))) = if ends.getD i 0 ≤ l then none else some ((ends.getD i 0 : Nat) : Int) := by
  have e : ends.take (i + 1) = ends.take i ++ [ends.getD i 0] := by
    rw [List.take_succ_eq_append_getElem hi]; simp [List.getD, List.getElem?_eq_getElem hi]
  rw [e, nI_append, show nI [ends.getD i 0] = [((ends.getD i 0 : Nat) : Int)] from rfl, endsUp_snoc, h]
  simp only [Option.bind_some]
  by_cases hc : ends.getD i 0 ≤ l
  · rw [if_pos hc, if_pos (by omega)]
  · rw [if_neg hc, if_neg (by omega)]
theorem runEnds_no1 (ends : List Nat) (i : Nat) (k : Int) (h : endsUp 0 (nI (ends.take i)) = none) : runEnds (nI ends) k = false := by
  have := endsUp_none (nI (ends.take i)) (nI (ends.drop i)) 0 h
  rw [← nI_append, List.take_append_drop] at this
  simp [runEnds, this]
theorem runEnds_no2 (ends : List Nat) (i : Nat) (k m : Int) (h : endsUp 0 (nI (ends.take i)) = some m) (hm : k < m) : runEnds (nI ends) k = false := by
  have h2 := endsUp_app (nI (ends.take i)) (nI (ends.drop i)) 0 m h
  rw [← nI_append, List.take_append_drop] at h2
  unfold runEnds
  rw [h2]
  cases he : endsUp m (nI (ends.drop i)) with
  | none => rfl
  | some x =>
    have := endsUp_ge _ _ _ he
    simp; omega
theorem fillP_len (heads : List PV) (ends : List Nat) : ∀ (i l : Nat), i ≤ ends.length → endsUp 0 (nI (ends.take i)) = some (l : Int) → (fillP heads ends i).length = l
  | 0, l, _, h => by simp [nI, endsUp] at h; simp [fillP]; omega
  | i + 1, l, hi, h => by
    cases h0 : endsUp 0 (nI (ends.take i)) with
    | none =>
      have e : ends.take (i + 1) = ends.take i ++ [ends.getD i 0] := by
        rw [List.take_succ_eq_append_getElem (by omega)]; simp [List.getD, List.getElem?_eq_getElem (show i < ends.length by omega)]
      rw [e, nI_append, endsUp_none _ _ _ h0] at h
      cases h
    | some m =>
      have hm := endsUp_ge _ _ _ h0
      obtain ⟨m, rfl⟩ := Int.eq_ofNat_of_zero_le hm
      have ih := fillP_len heads ends i m (by omega) h0
      rw [endsUp_step ends i m (by omega) h0] at h
      split at h
      · cases h
      · injection h with h
        simp only [fillP, List.length_append, List.length_replicate, ih]
        omega
def runsR (kd k p : Nat) (xs : List Nat) : Bool × List PV :=
  if numOk 4 p xs.length = false ∨ k < dN p xs then (false, [])
  else if numsOk 4 (dN p xs) (p + 4) xs.length = false then (false, [])
  else if listOk kd (dN p xs) (p + 4 + 4 * dN p xs) xs = false ∨ ¬ listNx kd (dN p xs) (p + 4 + 4 * dN p xs) xs = xs.length then (false, [])
  else if noPair eqP (listP kd (dN p xs) (p + 4 + 4 * dN p xs) xs) = false ∨ runEnds (nI (numL 4 (tk (4 * dN p xs) (xs.drop (p + 4))))) k = false then (false, [])
  else (true, fillP (listP kd (dN p xs) (p + 4 + 4 * dN p xs) xs) (numL 4 (tk (4 * dN p xs) (xs.drop (p + 4)))) (dN p xs))
end Go.Proofs.YthonbfojpbfmgaaGreatDoor

/- The plain answer: runs, the walk. -/
set_option linter.unusedVariables false
set_option linter.unusedSimpArgs false
set_option linter.unnecessarySimpa false
set_option maxRecDepth 100000
namespace Go.Proofs.YthonbfojpbfmgaaGreatDoor
open Go.RowKit

def lenV : Value → Nat
  | .slice _ n _ => n
  | _ => 0
theorem ends_len (m p : Nat) (xs : List Nat) (h : numsOk 4 m p xs.length = true) : (numL 4 (tk (4 * m) (xs.drop p))).length = m := by
  unfold numsOk at h; simp only [decide_eq_true_eq] at h
  rw [numL_length]; unfold tk; rw [if_pos (by rw [List.length_drop]; exact h.2), List.length_take, List.length_drop, Nat.min_eq_left (by omega)]
  omega
theorem replicate_snoc {α : Type} (n : Nat) (x : α) : List.replicate (n + 1) x = List.replicate n x ++ [x] := by
  rw [List.replicate_succ']
set_option maxHeartbeats 16000000 in
theorem runsAt_any (kd : Nat) (hkd : kd = 1 ∨ kd = 2) (v : Value) (xs : List Nat) (p k : Nat) (w : World) (hx : Rd w v xs.length 1 (u8s xs)) (hb : ∀ x ∈ xs, x < 256) (hl : xs.length ≤ 16777216) (hp : p ≤ 16777216) (hk : k ≤ 65536) :
    Calls Tryz.prog 113 #[v, .int .i64 p, .int .i64 kd, .int .i64 k] w fun e w' => PAns w w' e (runsR kd k p xs) := by
  have HNA := hid (numberAt_any v xs p 4 w hx hb hl (by omega) (by omega))
  have HNS := hid (fun (d : Nat) (hd : d ≤ 65536) => by
    have h := numbersAt_any v xs (p + 4) 4 d w hx hb hl (.inl rfl) (by omega) (by omega)
    rw [show ((p + 4 : Nat) : Int) = (p : Int) + 4 by omega] at h
    exact h)
  have HLA := hid (fun (d nx : Nat) (hd : d ≤ 65536) (hn : nx ≤ 33554432) (w2 : World) (hbl : Below w.heap.size w w2) => listAt_any kd hkd v xs nx d w2 (hx.mono hbl) hb hl (by omega) (by omega))
  have HLL := hid (fun m nx => listP_len kd m nx xs)
  obtain ⟨A, ca, rfl, _, _, _⟩ := hx.form
  clear hx
  obtain ⟨R, hR⟩ : ∃ R, runsR kd k p xs = R := ⟨_, rfl⟩
  rw [hR]
  unfold runsR dN at hR
  obtain ⟨ok, hok⟩ : ∃ ok, numOk 4 p xs.length = ok := ⟨_, rfl⟩
  rw [hok] at hR HNA
  have hwl : L.wordOf 8 ((xs.drop p).take 4) < 4294967296 := wordOf4_lt _ (fun x hx => hb x (List.mem_of_mem_drop (List.mem_of_mem_take hx))) (by rw [List.length_take]; omega)
  generalize L.wordOf 8 ((xs.drop p).take 4) = d0 at *
  have HR := hid hR
  clear hR hok
  cases ok
  · have HRN := hid (show R = (false, []) by rw [← HR.out]; simp)
    clear HR
    simp only [Bool.false_eq_true, if_false] at HNA
    go_enter Tryz.func113, Tryz.ntmps113
    go_wp2_with (go_at_call 111; refine HNA.out.mono ?_; rintro e w1 ⟨rfl, hw⟩; replace hw := hw.symm; subst hw)
    go_ret2
    exact pans_no HRN.out (brefl w)
  simp only [if_true] at HNA HR
  by_cases hdk : k < d0
  · have HRN := hid (show R = (false, []) by rw [← HR.out, if_pos (.inr hdk)])
    clear HR
    have hdi : (d0 : Int) > (k : Int) := by omega
    go_enter Tryz.func113, Tryz.ntmps113
    go_wp2_with (go_at_call 111; refine HNA.out.mono ?_; rintro e w1 ⟨rfl, hw⟩; replace hw := hw.symm; subst hw)
    go_ret2
    exact pans_no HRN.out (brefl w)
  have hd0 : d0 ≤ 65536 := by omega
  have hdi : ¬ (d0 : Int) > (k : Int) := by omega
  rw [if_neg (by simp; omega)] at HR
  have HNSd := hid (HNS.out d0 hd0)
  have HEL := hid (ends_len d0 (p + 4) xs)
  have hev : ∀ x ∈ numL 4 (tk (4 * d0) (xs.drop (p + 4))), x < 4294967296 := numL4_lt (tk_lt (fun x h => hb x (List.mem_of_mem_drop h)))
  have HEV := hid hev
  obtain ⟨nx, hnx⟩ : ∃ nx, p + 4 + 4 * d0 = nx := ⟨_, rfl⟩
  have hnl : nx ≤ 33554432 := by omega
  rw [hnx] at HR HNSd
  have HLAd := hid (HLA.out d0 nx hd0 hnl)
  have HLLd := hid (HLL.out d0 nx)
  obtain ⟨no, hno⟩ : ∃ no, numsOk 4 d0 (p + 4) xs.length = no := ⟨_, rfl⟩
  rw [hno] at HR HNSd HEL
  obtain ⟨lo, hlo⟩ : ∃ lo, listOk kd d0 nx xs = lo := ⟨_, rfl⟩
  rw [hlo] at HR HLAd HLLd
  clear HNS HLA HLL hno hlo hnx hev
  generalize numL 4 (tk (4 * d0) (xs.drop (p + 4))) = ends at *
  generalize listP kd d0 nx xs = heads at *
  generalize listNx kd d0 nx xs = nx2 at *
  go_enter Tryz.func113, Tryz.ntmps113
  cases no
  · have HRN := hid (show R = (false, []) by rw [← HR.out]; simp)
    clear HR
    simp only [Bool.false_eq_true, if_false] at HNSd
    go_wp2_with (first
      | (go_at_call 111; refine HNA.out.mono ?_; rintro e w1 ⟨rfl, hw⟩; replace hw := hw.symm; subst hw)
      | (go_at_call 59; refine HNSd.out.mono ?_; rintro e w1 ⟨u, rfl, ho1, hb1⟩; have HB1 := hid hb1; clear ho1 hb1))
    go_ret2
    exact pans_no HRN.out HB1.out
  simp only [Bool.true_eq_false, if_false, if_true] at HNSd HR
  have hel := HEL.out rfl
  cases lo
  · have HRN := hid (show R = (false, []) by rw [← HR.out]; simp)
    clear HR
    go_wp2_with (first
      | (go_at_call 111; refine HNA.out.mono ?_; rintro e w1 ⟨rfl, hw⟩; replace hw := hw.symm; subst hw)
      | (go_at_call 59; refine HNSd.out.mono ?_; rintro e w1 ⟨u, rfl, ho1, hb1⟩; have HB1 := hid hb1; clear ho1 hb1)
      | (go_at_call 115; refine (HLAd.out w1 HB1.out).mono ?_; rintro e w2 ⟨u2, rfl, ho2, hb2⟩; have HB2 := hid (bthen HB1.out hb2); clear ho2 hb2))
    go_ret2
    exact pans_no HRN.out HB2.out
  by_cases hn2 : nx2 = xs.length
  rotate_left
  · have HRN := hid (show R = (false, []) by rw [← HR.out, if_pos (.inr hn2)])
    clear HR
    have hne : ((nx2 : Int) != (xs.length : Int)) = true := by simp; omega
    go_wp2_with (first
      | (go_at_call 111; refine HNA.out.mono ?_; rintro e w1 ⟨rfl, hw⟩; replace hw := hw.symm; subst hw)
      | (go_at_call 59; refine HNSd.out.mono ?_; rintro e w1 ⟨u, rfl, ho1, hb1⟩; have HB1 := hid hb1; clear ho1 hb1)
      | (go_at_call 115; refine (HLAd.out w1 HB1.out).mono ?_; rintro e w2 ⟨u2, rfl, ho2, hb2⟩; have HB2 := hid (bthen HB1.out hb2); clear ho2 hb2))
    go_ret2
    exact pans_no HRN.out HB2.out
  rw [if_neg (by simp; exact hn2)] at HR
  have hne : ((nx2 : Int) != (xs.length : Int)) = false := by simp; omega
  have hdl : heads.length = d0 := HLLd.out rfl hkd
  clear hn2 HEL HLLd
  go_upto_region 10 with (first
      | (go_at_call 111; refine HNA.out.mono ?_; rintro e w1 ⟨rfl, hw⟩; replace hw := hw.symm; subst hw)
      | (go_at_call 59; refine HNSd.out.mono ?_; rintro e w1 ⟨u1, rfl, ho1, hb1⟩; have HB1 := hid hb1; have HO1 := hid (owns_rd ho1); obtain ⟨E, ce, rfl, hce1, hce2, _, _⟩ := owns_form ho1; clear ho1 hb1)
      | (go_at_call 115; refine (HLAd.out w1 HB1.out).mono ?_; rintro e w2 ⟨u2, rfl, ho2, hb2⟩; have HB2 := hid (bthen HB1.out hb2); have HRE := hid (HO1.out.mono hb2); have HRD := hid (owns3_rd ho2); obtain ⟨D, cd, rfl⟩ := owns3_form ho2; clear ho2 hb2))
  rw [hel] at HRE
  rw [hdl] at HRD
  have HDL := hid hdl
  have HEN := hid hel
  have hsz2 := HB2.out.size
  clear HNA HNSd HLAd HO1 HB1 hdl hel hce2 hne
  go_wp2_with fail
  go_loopw [16, 65] (fun s i wz => ∃ t l : Nat, t ≤ d0 ∧ i = .int .i64 t ∧ l ≤ k ∧ Hid (endsUp 0 (nI (ends.take t)) = some (l : Int)) ∧ Hid (∀ u, u + 1 < t → eqP (heads.getD u dfP) (heads.getD (u + 1) dfP) = false) ∧ Hid (wz.ownsRow w2.heap.size 42 3 s l (cellsP (fillP heads ends t))) ∧ Hid (Below w2.heap.size w2 wz)) (fun _ i _ => d0 - (intOf i).toNat)
  case atStart => exact ⟨0, 0, by omega, rfl, by omega, hid rfl, hid (fun u h => absurd h (by omega)), hid ⟨by simp [cellsP, fillP], .inl ⟨rfl, rfl⟩⟩, hid (brefl w2)⟩
  case round =>
    obtain ⟨t, l, ht, rfl, hlk, HUP, HALL, HOWN, HBW⟩ := hrel
    obtain ⟨A2, c2, rfl⟩ := owns3_form HOWN.out
    have hszw := HBW.out.size
    have HBWW := hid (Below.then' HB2.out HBW.out hsz2)
    by_cases hlt : t < d0
    · obtain ⟨eb, eo, rfl, hs⟩ := (HRE.out.mono HBW.out).atW (by omega)
      have e1 := hs t (by rw [HEN.out]; exact hlt)
      have hx32 := HEV.out (ends.getD t 0) (by simp [List.getD, List.getElem?_eq_getElem (show t < ends.length by rw [HEN.out]; exact hlt)])
      have HST := hid (endsUp_step ends t l (by rw [HEN.out]; exact hlt) HUP.out)
      have HFL := hid (fillP_len heads ends t l (by rw [HEN.out]; omega) HUP.out)
      have HF1 : Hid (fillP heads ends (t + 1) = fillP heads ends t ++ List.replicate (ends.getD t 0 - (fillP heads ends t).length) (heads.getD t dfP)) := hid rfl
      rw [HFL.out] at HF1
      have HN1 := hid (runEnds_no1 ends (t + 1) (k : Int))
      have HN2 := hid (runEnds_no2 ends (t + 1) (k : Int))
      clear hs
      generalize ends.getD t 0 = en at *
      by_cases hb1 : en ≤ l
      · have HRN := hid (show R = (false, []) by rw [← HR.out, if_pos (.inr (HN1.out (by rw [HST.out, if_pos hb1])))])
        have i1 : (en : Int) ≤ (l : Int) := by omega
        clear HST HN1 HN2 HF1 HFL
        go_upto_region 14 with fail
        go_quiet (fail)
        go_wp2_with fail
        go_ret2
        exact pans_no HRN.out (bdrew HBWW.out _)
      have i1 : ¬ (en : Int) ≤ (l : Int) := by omega
      have i1d : decide ((en : Int) ≤ (l : Int)) = false := decide_eq_false i1
      rw [if_neg hb1] at HST
      by_cases hb2 : k < en
      · have HRN := hid (show R = (false, []) by rw [← HR.out, if_pos (.inr (HN2.out _ HST.out (by omega)))])
        have i2 : (en : Int) > (k : Int) := by omega
        clear HST HN1 HN2 HF1 HFL
        go_upto_region 14 with fail
        go_quiet (fail)
        go_wp2_with fail
        go_ret2
        exact pans_no HRN.out (bdrew HBWW.out _)
      have i2 : ¬ (en : Int) > (k : Int) := by omega
      have i2d : decide ((en : Int) > (k : Int)) = false := decide_eq_false i2
      clear HN1 HN2
      -- the pair of this run and the one before
      have HPAIR : Hid (t = 0 ∨ eqP (heads.getD (t - 1) dfP) (heads.getD t dfP) = false → ∀ u, u + 1 < t + 1 → eqP (heads.getD u dfP) (heads.getD (u + 1) dfP) = false) := hid (fun h u hu => by
        by_cases hut : u + 1 = t
        · have h := h.resolve_left (by omega)
          rw [show t - 1 = u by omega] at h; rw [hut]; exact h
        · exact HALL.out u (by omega))
      have HBADP : Hid (0 < t → eqP (heads.getD (t - 1) dfP) (heads.getD t dfP) = true → R = (false, [])) := hid (fun h0 h => by
        have hnp : noPair eqP heads = false := by
          rw [← Bool.not_eq_true, noPair_iff eqP dfP]
          intro h2
          have := h2 (t - 1) (by rw [HDL.out]; omega)
          rw [show t - 1 + 1 = t by omega, h] at this; cases this
        rw [← HR.out, if_pos (.inl hnp)])
      have HXO := hid (fun (w2 : World) => fun a b => order_any a b w2)
      obtain ⟨X, hX⟩ : ∃ X, heads.getD t dfP = X := ⟨_, rfl⟩
      have HX := hid hX
      rw [hX] at HF1 HPAIR HBADP
      obtain ⟨xi, xs'⟩ := X
      clear hX
      rcases Nat.eq_zero_or_pos t with ht0 | ht0
      · subst ht0
        have HNXT := hid (HPAIR.out (.inl rfl))
        clear HPAIR HBADP HXO HFL
        obtain ⟨b, o, hDD, hcells⟩ := (HRD.out.mono HBW.out).atP (by omega)
        subst hDD
        clear hcells
        have i3d : decide ((0 : Int) > 0) = false := by decide
        rw [Nat.add_zero] at e1
        go_upto_region 14 with fail
        go_quiet (fail)
        have HBQ : Hid (Below wr.heap.size wr (wr.drewN nq)) := hid (bdrew (brefl wr) nq)
        generalize wr.drewN nq = wq at *
        go_wp2_with fail
        have HOWQ := hid (owns3_below HOWN.out HBQ.out)
        have HB2Q := hid (Below.then' HBW.out HBQ.out HBW.out.size)
        go_loopw [16] (fun s wz => ∃ c : Nat, l ≤ c ∧ c ≤ en ∧ Hid (wz.ownsRow w2.heap.size 42 3 s c (cellsP (fillP heads ends 0 ++ List.replicate (c - l) (xi, xs')))) ∧ Hid (Below w2.heap.size w2 wz)) (fun s _ => en - lenV s)
        case atStart => exact ⟨l, Nat.le_refl _, by omega, hid (by simpa using HOWQ.out), HB2Q⟩
        case round =>
          obtain ⟨c, hc1, hc2, HOC, HBC⟩ := hrel
          obtain ⟨A3, c3, rfl⟩ := owns3_form HOC.out
          have hszc := HBC.out.size
          by_cases hce : c < en
          · obtain ⟨b', o', he, hcells2⟩ := (HRD.out.mono HBC.out).atP (by omega)
            cases he
            obtain ⟨l0', l1', l2'⟩ := hcells2 0 (by rw [HDL.out]; omega)
            rw [HX.out] at l1' l2'
            clear hcells2
            simp only [Nat.zero_mul, Nat.add_zero] at l0' l1' l2'
            have i5 : (c : Int) < (en : Int) := by omega
            go_wp2_with (at_builtin; refine wpList_append3 rfl (.tmp 103) (.tmp 108) rfl 42 [.bool false, .int .i64 0, .string ByteArray.empty] 32 Tryz.underlying23 Tryz.infoCell rfl rfl rfl HOC.out hszc (by intro u hu; simp at hu; rcases hu with rfl | rfl | rfl <;> rfl) (by unfold maxLen; omega) (by omega) ?_; intro v' w' ho hb3)
            go_roundw
            case rel =>
              have HOC2 := hid ho
              rw [← cellsP_snoc _ (xi, xs'), List.append_assoc, ← replicate_snoc, show c - l + 1 = c + 1 - l by omega] at HOC2
              have h1 : l ≤ c + 1 := by omega
              have h2 : c + 1 ≤ en := by omega
              first | exact ⟨c + 1, h1, h2, HOC2, hid (Below.trans HBC.out hb3)⟩ | ((repeat apply Exists.intro); exact ⟨⟨c + 1, h1, h2, HOC2, hid (Below.trans HBC.out hb3)⟩, rfl⟩)
            case measure =>
              obtain ⟨A4, c4, rfl⟩ := owns3_form ho
              simp [lenV]; omega
          · obtain rfl : c = en := by omega
            have i5 : ¬ (c : Int) < (c : Int) := by omega
            go_wp2_with fail
            go_roundw
            case rel => exact ⟨0 + 1, c, by omega, by go_num, by omega, HST, HNXT, hid (by rw [HF1.out]; exact HOC.out), HBC⟩
            case measure => simp [intOf]; omega
      · obtain ⟨u, hu⟩ : ∃ u, t = u + 1 := ⟨t - 1, by omega⟩
        have hu1 : t - 1 = u := by omega
        rw [hu1] at HPAIR HBADP
        obtain ⟨b, o, hDD, hcells⟩ := (HRD.out.mono HBW.out).atP (by omega)
        subst hDD
        obtain ⟨m0, m1, m2⟩ := hcells u (by rw [HDL.out]; omega)
        obtain ⟨l0, l1, l2⟩ := hcells t (by rw [HDL.out]; omega)
        rw [HX.out] at l1 l2
        have HORD := hid (fun (w2 : World) => order_any (heads.getD u dfP) (xi, xs') w2)
        have HG : Hid (eqP (heads.getD u dfP) (xi, xs') = decide (ordP (heads.getD u dfP) (xi, xs') = 0)) := hid rfl
        clear hcells hu1 HXO HFL
        generalize heads.getD u dfP = Y at *
        obtain ⟨yi, ys'⟩ := Y
        simp only at m1 m2 l1 l2 HORD
        generalize ordP (yi, ys') (xi, xs') = od at *
        generalize eqP (yi, ys') (xi, xs') = ge at *
        have i0 : (0 : Int) ≤ (u : Int) := by omega
        have i1' : (u : Int) < (d0 : Int) := by omega
        have i2' : (t : Int) < (d0 : Int) := by omega
        have i3 : (t : Int) > 0 := by omega
        have ia : (t : Int) - 1 = (u : Int) := by omega
        have iw : IntKind.i64.wrap ((t : Int) - 1) = (u : Int) := by rw [ia, IntKind.wrap_i64]; omega
        have iw2 : IntKind.i64.wrap (u : Int) = (u : Int) := by rw [IntKind.wrap_i64]; omega
        have iwe : IntKind.i64.wrap (en : Int) = (en : Int) := by rw [IntKind.wrap_i64]; omega
        have hbl : b < wr.heap.size := World.block_lt_of_cell? wr _ m0
        clear hu
        go_upto_region 14 with fail
        go_region_held3 (fun w' => w'.cell? ⟨b, o + u * 3, none⟩ = some (.bool false) ∧ w'.cell? ⟨b, o + u * 3 + 1, none⟩ = some (.int .i64 yi) ∧ w'.cell? ⟨b, o + u * 3 + 2, none⟩ = some (.string ys') ∧ w'.cell? ⟨b, o + t * 3, none⟩ = some (.bool false) ∧ w'.cell? ⟨b, o + t * 3 + 1, none⟩ = some (.int .i64 xi) ∧ w'.cell? ⟨b, o + t * 3 + 2, none⟩ = some (.string xs')) (go_keep)
          (first | (go_at_call 64; refine (HORD.out _).mono ?_; rintro e w3 ⟨rfl, hb3⟩; have HBQ := hid ((bdrew (brefl wr) 1).trans hb3); have q0 := (hb3.cell (p := ⟨b, o + u * 3, none⟩) hbl).trans m0; have q1 := (hb3.cell (p := ⟨b, o + u * 3 + 1, none⟩) hbl).trans m1; have q2 := (hb3.cell (p := ⟨b, o + u * 3 + 2, none⟩) hbl).trans m2; have q3 := (hb3.cell (p := ⟨b, o + t * 3, none⟩) hbl).trans l0; have q4 := (hb3.cell (p := ⟨b, o + t * 3 + 1, none⟩) hbl).trans l1; have q5 := (hb3.cell (p := ⟨b, o + t * 3 + 2, none⟩) hbl).trans l2; clear hb3))
        by_cases hod : od = 0
        · have HRN := hid (HBADP.out ht0 (by rw [HG.out]; simp [hod]))
          have ho2 : (od == 0) = true := by simp [hod]
          go_wp2_with fail
          go_ret2
          exact pans_no HRN.out (Below.then' HB2.out (Below.then' HBW.out HBQ.out HBW.out.size) hsz2)
        have ho2 : (od == 0) = false := by simp [hod]
        have HNXT := hid (HPAIR.out (.inr (by rw [HG.out]; simp [hod])))
        clear m0 m1 m2 l0 l1 l2 q0 q1 q2 q3 q4 q5 HPAIR HBADP
        generalize w3 = wq at *
        rw [ho2]
        go_wp2_with fail
        have HOWQ := hid (owns3_below HOWN.out HBQ.out)
        have HB2Q := hid (Below.then' HBW.out HBQ.out HBW.out.size)
        go_loopw [16] (fun s wz => ∃ c : Nat, l ≤ c ∧ c ≤ en ∧ Hid (wz.ownsRow w2.heap.size 42 3 s c (cellsP (fillP heads ends t ++ List.replicate (c - l) (xi, xs')))) ∧ Hid (Below w2.heap.size w2 wz)) (fun s _ => en - lenV s)
        case atStart => exact ⟨l, Nat.le_refl _, by omega, hid (by simpa using HOWQ.out), HB2Q⟩
        case round =>
          obtain ⟨c, hc1, hc2, HOC, HBC⟩ := hrel
          obtain ⟨A3, c3, rfl⟩ := owns3_form HOC.out
          have hszc := HBC.out.size
          by_cases hce : c < en
          · obtain ⟨b', o', he, hcells2⟩ := (HRD.out.mono HBC.out).atP (by omega)
            cases he
            obtain ⟨l0', l1', l2'⟩ := hcells2 t (by rw [HDL.out]; omega)
            rw [HX.out] at l1' l2'
            clear hcells2
            simp only at l1' l2'
            have i5 : (c : Int) < (en : Int) := by omega
            go_wp2_with (at_builtin; refine wpList_append3 rfl (.tmp 103) (.tmp 108) rfl 42 [.bool false, .int .i64 0, .string ByteArray.empty] 32 Tryz.underlying23 Tryz.infoCell rfl rfl rfl HOC.out hszc (by intro u hu; simp at hu; rcases hu with rfl | rfl | rfl <;> rfl) (by unfold maxLen; omega) (by omega) ?_; intro v' w' ho hb3)
            go_roundw
            case rel =>
              have HOC2 := hid ho
              rw [← cellsP_snoc _ (xi, xs'), List.append_assoc, ← replicate_snoc, show c - l + 1 = c + 1 - l by omega] at HOC2
              have h1 : l ≤ c + 1 := by omega
              have h2 : c + 1 ≤ en := by omega
              first | exact ⟨c + 1, h1, h2, HOC2, hid (Below.trans HBC.out hb3)⟩ | ((repeat apply Exists.intro); exact ⟨⟨c + 1, h1, h2, HOC2, hid (Below.trans HBC.out hb3)⟩, rfl⟩)
            case measure =>
              obtain ⟨A4, c4, rfl⟩ := owns3_form ho
              simp [lenV]; omega
          · obtain rfl : c = en := by omega
            have i5 : ¬ (c : Int) < (c : Int) := by omega
            go_wp2_with fail
            go_roundw
            case rel => exact ⟨t + 1, c, by omega, by go_num, by omega, HST, HNXT, hid (by rw [HF1.out]; exact HOC.out), HBC⟩
            case measure => simp [intOf]; omega
    · obtain rfl : t = d0 := by omega
      have hup := HUP.out
      rw [show ends.take t = ends by rw [← HEN.out, List.take_length]] at hup
      have hnp : noPair eqP heads = true := (noPair_iff eqP dfP heads).2 (fun z hz => HALL.out z (by rw [← HDL.out]; exact hz))
      have HRR := hid (show R = if l = k then (true, fillP heads ends t) else (false, []) by
        rw [← HR.out, hnp]
        unfold runEnds
        rw [hup]
        by_cases hlk2 : l = k
        · subst hlk2; simp
        · rw [if_neg hlk2, if_pos]; simp; omega)
      have HFL := hid (fillP_len heads ends t l (by rw [HEN.out]; exact Nat.le_refl _) HUP.out)
      clear hup hnp HR
      by_cases hlk2 : l = k
      · subst hlk2
        rw [if_pos rfl] at HRR
        have he : ((l : Int) == (l : Int)) = true := by simp
        go_wp2_with fail
        go_ret2
        rw [HRR.out]
        refine ⟨_, rfl, ⟨_, _, _, rfl⟩, fun _ => ?_, HBWW.out⟩
        simp only
        rw [HFL.out]
        exact owns3_mono HOWN.out hsz2
      · rw [if_neg hlk2] at HRR
        have he : ((l : Int) == (k : Int)) = false := by simp; omega
        go_wp2_with fail
        go_ret2
        rw [HRR.out]
        exact ⟨_, rfl, ⟨_, _, _, rfl⟩, fun h => by simp at h, HBWW.out⟩
end Go.Proofs.YthonbfojpbfmgaaGreatDoor

/- The plain answer: whole payloads. -/
set_option linter.unusedVariables false
set_option linter.unusedSimpArgs false
set_option linter.unnecessarySimpa false
set_option maxRecDepth 100000
namespace Go.Proofs.YthonbfojpbfmgaaGreatDoor
open Go.RowKit

def payR (kd cd wd k p : Nat) (xs : List Nat) : Bool × List PV :=
  if cd = 2 then dictR kd wd k p xs
  else if cd = 3 then ((runsR kd k p xs).1 && decide (wd = 0), (runsR kd k p xs).2)
  else if cd = 4 then (if numOk 8 p xs.length = false ∨ 64 < wd ∨ ¬ kd = 1 then (false, []) else
    (fits (sgn64 (L.wordOf 8 ((xs.drop p).take 8))) (lanesV wd k (p + 8) xs) && lanesOk wd k (p + 8) xs, (sumsL (sgn64 (L.wordOf 8 ((xs.drop p).take 8))) (lanesV wd k (p + 8) xs)).map pI))
  else if cd = 5 then (if 64 < wd ∨ ¬ kd = 1 then (false, []) else (fits 0 (lanesV wd k p xs) && lanesOk wd k p xs, (sumsL 0 (lanesV wd k p xs)).map pI))
  else (listOk kd k p xs && decide (listNx kd k p xs = xs.length) && decide (cd = 1) && decide (wd = 0), listP kd k p xs)
set_option maxHeartbeats 8000000 in
theorem payloadAt_any (kd : Nat) (hkd : kd = 1 ∨ kd = 2) (v : Value) (xs : List Nat) (p cd wd k : Nat) (w : World) (hx : Rd w v xs.length 1 (u8s xs)) (hb : ∀ x ∈ xs, x < 256) (hl : xs.length ≤ 16777216) (hp : p ≤ 16777216) (hk : k ≤ 65536) (hcd : cd < 256) (hwd : wd < 256) :
    Calls Tryz.prog 61 #[v, .int .i64 p, .int .i64 kd, .int .i64 cd, .int .i64 wd, .int .i64 k] w fun e w' => PAns w w' e (payR kd cd wd k p xs) := by
  have HDA := hid (dictAt_any kd hkd v xs p wd k w hx hb hl hp hk)
  have HRA := hid (runsAt_any kd hkd v xs p k w hx hb hl hp hk)
  have HLA := hid (listAt_any kd hkd v xs p k w hx hb hl (by omega) (by omega))
  have HNA := hid (numberAt_any v xs p 8 w hx hb hl (by omega) (by omega))
  have HS5 := hid (sumsAt_any v xs p wd k 0 w hx hb hl (by omega) (by omega) (by omega))
  have HS4 := hid (by
    have h := sumsAt_any v xs (p + 8) wd k (sgn64 (L.wordOf 8 ((xs.drop p).take 8))) w hx hb hl (by omega) (sgn64_bd _).1 (sgn64_bd _).2
    rw [show ((p + 8 : Nat) : Int) = (p : Int) + 8 by omega] at h
    exact h)
  obtain ⟨A, ca, rfl, _, _, _⟩ := hx.form
  clear hx
  obtain ⟨R, hR⟩ : ∃ R, payR kd cd wd k p xs = R := ⟨_, rfl⟩
  rw [hR]
  unfold payR at hR
  have HR := hid hR
  clear hR
  by_cases h2 : cd = 2
  · subst h2
    rw [if_pos rfl] at HR
    rw [HR.out] at HDA
    go_enter Tryz.func61, Tryz.ntmps61
    go_wp2_with (go_at_call 112; refine HDA.out.mono ?_; rintro e w1 ⟨u, rfl, ⟨U, n, c, rfl⟩, h3, h4⟩; have H3 := hid h3; have H4 := hid h4; clear h3 h4)
    go_ret2
    exact ⟨_, rfl, ⟨_, _, _, rfl⟩, H3.out, H4.out⟩
  rw [if_neg h2] at HR
  have e2 : ((cd : Int) == 2) = false := by simp; omega
  by_cases h3 : cd = 3
  · subst h3
    rw [if_pos rfl] at HR
    obtain ⟨R3, hR3⟩ : ∃ R3, runsR kd k p xs = R3 := ⟨_, rfl⟩
    rw [hR3] at HR HRA
    obtain ⟨rb, rv⟩ := R3
    simp only at HR
    have ew : ((wd : Int) == 0) = decide (wd = 0) := by by_cases h : wd = 0 <;> simp [h]
    have HR2 := hid (show R = (rb && decide (wd = 0), rv) from HR.out.symm)
    clear HR hR3
    go_enter Tryz.func61, Tryz.ntmps61
    cases rb
    · go_wp2_with (go_at_call 113; refine HRA.out.mono ?_; rintro e w1 ⟨u, rfl, ⟨U, n, c, rfl⟩, h3, h4⟩; have H3 := hid h3; have H4 := hid h4; clear h3 h4)
      go_ret2
      rw [HR2.out]
      exact ⟨_, rfl, ⟨_, _, _, rfl⟩, (fun h => by simp at h), H4.out⟩
    · go_wp2_with (go_at_call 113; refine HRA.out.mono ?_; rintro e w1 ⟨u, rfl, ⟨U, n, c, rfl⟩, h3, h4⟩; have H3 := hid h3; have H4 := hid h4; clear h3 h4)
      go_ret2
      rw [HR2.out]
      exact ⟨.slice U n c, by simp, ⟨U, n, c, rfl⟩, (fun _ => by first | exact H3.out rfl | exact H3.out trivial | exact H3.out), H4.out⟩
  rw [if_neg h3] at HR
  have e3 : ((cd : Int) == 3) = false := by simp; omega
  have e1k : ((kd : Int) != 1) = !decide (kd = 1) := by rcases hkd with h | h <;> subst h <;> rfl
  by_cases h4 : cd = 4
  · subst h4
    rw [if_pos rfl] at HR
    have hX : L.wordOf 8 ((xs.drop p).take 8) < 18446744073709551616 := wordOf8_lt _ (fun x hx => hb x (List.mem_of_mem_drop (List.mem_of_mem_take hx))) (by rw [List.length_take]; omega)
    unfold sgn64 at HS4 HR
    obtain ⟨ok, hok⟩ : ∃ ok, numOk 8 p xs.length = ok := ⟨_, rfl⟩
    rw [hok] at HNA HR
    generalize L.wordOf 8 ((xs.drop p).take 8) = X at *
    clear HDA HRA HLA HS5 hok e2
    cases ok
    · have HRN := hid (show R = (false, []) by rw [← HR.out, if_pos (.inl rfl)])
      clear HR HS4
      simp only [Bool.false_eq_true, if_false] at HNA
      go_enter Tryz.func61, Tryz.ntmps61
      go_wp2_with (go_at_call 111; refine HNA.out.mono ?_; rintro e w1 ⟨rfl, hw⟩; replace hw := hw.symm; subst hw)
      go_ret2
      exact pans_no HRN.out (brefl w)
    simp only [if_true] at HNA
    by_cases h64 : 64 < wd
    · have HRN := hid (show R = (false, []) by rw [← HR.out, if_pos (.inr (.inl h64))])
      have i1 : (wd : Int) > 64 := by omega
      clear HR HS4
      go_enter Tryz.func61, Tryz.ntmps61
      go_wp2_with (go_at_call 111; refine HNA.out.mono ?_; rintro e w1 ⟨rfl, hw⟩; replace hw := hw.symm; subst hw)
      go_ret2
      exact pans_no HRN.out (brefl w)
    have i1 : ¬ (wd : Int) > 64 := by omega
    rcases hkd with hkd | hkd
    rotate_left
    · have HRN := hid (show R = (false, []) by rw [← HR.out, if_pos (.inr (.inr (by omega)))])
      clear HR HS4
      subst hkd
      go_enter Tryz.func61, Tryz.ntmps61
      go_wp2_with (go_at_call 111; refine HNA.out.mono ?_; rintro e w1 ⟨rfl, hw⟩; replace hw := hw.symm; subst hw)
      go_ret2
      exact pans_no HRN.out (brefl w)
    rw [if_neg (by simp; omega)] at HR
    subst hkd
    generalize (fits (wrap64 (X : Int)) (lanesV wd k (p + 8) xs) && lanesOk wd k (p + 8) xs) = F at *
    generalize sumsL (wrap64 (X : Int)) (lanesV wd k (p + 8) xs) = SL at *
    go_enter Tryz.func61, Tryz.ntmps61
    go_wp2_with (first
      | (go_at_call 111; refine HNA.out.mono ?_; rintro e w1 ⟨rfl, hw⟩; replace hw := hw.symm; subst hw)
      | (go_at_call 114; refine HS4.out.mono ?_; rintro e w1 ⟨u, rfl, ho1, hb1⟩; have HO1 := hid ho1; have HB1 := hid hb1; obtain ⟨D, cd, rfl⟩ := owns3_form ho1; clear ho1 hb1))
    go_ret2
    rw [← HR.out]
    exact ⟨_, rfl, ⟨_, _, _, rfl⟩, fun _ => by rw [List.length_map, ← cellsI_P]; exact HO1.out, HB1.out⟩
  rw [if_neg h4] at HR
  have e4 : ((cd : Int) == 4) = false := by simp; omega
  by_cases h5 : cd = 5
  · subst h5
    rw [if_pos rfl] at HR
    clear HDA HRA HLA HS4 HNA e2 e3 e4
    by_cases h64 : 64 < wd
    · have HRN := hid (show R = (false, []) by rw [← HR.out, if_pos (.inl h64)])
      have i1 : (wd : Int) > 64 := by omega
      clear HR HS5
      go_enter Tryz.func61, Tryz.ntmps61
      go_wp2
      go_ret2
      exact pans_no HRN.out (brefl w)
    have i1 : ¬ (wd : Int) > 64 := by omega
    rcases hkd with hkd | hkd
    rotate_left
    · have HRN := hid (show R = (false, []) by rw [← HR.out, if_pos (.inr (by omega))])
      clear HR HS5
      subst hkd
      go_enter Tryz.func61, Tryz.ntmps61
      go_wp2
      go_ret2
      exact pans_no HRN.out (brefl w)
    rw [if_neg (by omega)] at HR
    subst hkd
    generalize (fits 0 (lanesV wd k p xs) && lanesOk wd k p xs) = F at *
    generalize sumsL 0 (lanesV wd k p xs) = SL at *
    go_enter Tryz.func61, Tryz.ntmps61
    go_wp2_with (go_at_call 114; refine HS5.out.mono ?_; rintro e w1 ⟨u, rfl, ho1, hb1⟩; have HO1 := hid ho1; have HB1 := hid hb1; obtain ⟨D, cd, rfl⟩ := owns3_form ho1; clear ho1 hb1)
    go_ret2
    rw [← HR.out]
    exact ⟨_, rfl, ⟨_, _, _, rfl⟩, fun _ => by rw [List.length_map, ← cellsI_P]; exact HO1.out, HB1.out⟩
  rw [if_neg h5] at HR
  have e5 : ((cd : Int) == 5) = false := by simp; omega
  clear HDA HRA HS4 HS5 HNA
  generalize listP kd k p xs = LP at *
  generalize listNx kd k p xs = nx at *
  generalize listOk kd k p xs = lo at *
  have en : ((nx : Int) == (xs.length : Int)) = decide (nx = xs.length) := by by_cases h : nx = xs.length <;> simp [h]; omega
  have e1 : ((cd : Int) == 1) = decide (cd = 1) := by by_cases h : cd = 1 <;> simp [h]; omega
  have ew : ((wd : Int) == 0) = decide (wd = 0) := by by_cases h : wd = 0 <;> simp [h]
  generalize decide (nx = xs.length) = bn at *
  generalize decide (cd = 1) = b1 at *
  generalize decide (wd = 0) = bw at *
  go_enter Tryz.func61, Tryz.ntmps61
  cases lo <;> cases bn <;> cases b1 <;> cases bw
  all_goals
    go_wp2_with (go_at_call 115; refine HLA.out.mono ?_; rintro e w1 ⟨u, rfl, ho1, hb1⟩; have HO1 := hid ho1; have HB1 := hid hb1; obtain ⟨D, cD, rfl⟩ := owns3_form ho1; clear ho1 hb1)
    go_ret2
    rw [← HR.out]
    exact ⟨_, rfl, ⟨_, _, _, rfl⟩, fun _ => HO1.out, HB1.out⟩
end Go.Proofs.YthonbfojpbfmgaaGreatDoor
