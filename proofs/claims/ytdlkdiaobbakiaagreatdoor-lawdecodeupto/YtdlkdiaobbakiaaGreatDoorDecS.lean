/- Package codec: decode and gather of one kind. -/
import Derived.Test.YtdlkdiaobbakiaaGreatDoorLookS
import Derived.Test.YtdlkdiaobbakiaaGreatDoorVl
set_option linter.unusedVariables false
set_option linter.unusedSimpArgs false
set_option linter.unnecessarySimpa false
set_option maxRecDepth 100000
namespace Go.Proofs.YtdlkdiaobbakiaaGreatDoor
open Go.RowKit

/-- value number j of a body -/
def vAt_S (rows : Nat) (xs : List Nat) (j : Nat) : ByteArray := vl_S (headOf rows xs).codec (headOf rows xs).wd (lkOut_S rows xs).list (lkOut_S rows xs).ends (lkBase_S rows xs) (lkOut_S rows xs).lanes j
/-- the cell of a row, by its fields -/
def cellA_S (rows : Nat) (xs : List Nat) (r : Nat) : Bool := bitOf (headOf rows xs).nulls r
def cellB_S (rows : Nat) (xs : List Nat) (r : Nat) : Int := if bitOf (headOf rows xs).nulls r = true then 0 else cB_S (vAt_S rows xs (r - rankN (headOf rows xs).nulls (r + 1)))
def cellC_S (rows : Nat) (xs : List Nat) (r : Nat) : ByteArray := if bitOf (headOf rows xs).nulls r = true then ByteArray.empty else cC_S (vAt_S rows xs (r - rankN (headOf rows xs).nulls (r + 1)))
/-- what a body that is valid has -/
structure Valid_S (rows : Nat) (xs : List Nat) : Prop where
  nl : (headOf rows xs).nulls.length = (rows + 63) / 64
  nv : ∀ x ∈ (headOf rows xs).nulls, x < 18446744073709551616
  ll : (lkOut_S rows xs).list.length ≤ 1048576
  el : (lkOut_S rows xs).ends.length ≤ 1048576
  lv : ∀ x ∈ (lkOut_S rows xs).lanes, x < 18446744073709551616
  ok : ∀ j, j < cntOf rows (headOf rows xs).nulls → okv_S (headOf rows xs).codec (headOf rows xs).wd (lkOut_S rows xs).list (lkOut_S rows xs).ends (lkOut_S rows xs).lanes j

set_option maxHeartbeats 2000000 in
theorem cell_S (w : World) (g : Nat) (xs : List Nat) (rows : Nat) (hrr : rows ≤ 65536) (hval : Valid_S rows xs) (r : Nat) (hr : r < rows)
    (h : Ck_S w g rows (headOf rows xs).codec (headOf rows xs).wd (headOf rows xs).nulls (cntOf rows (headOf rows xs).nulls) (lkOut_S rows xs).list (lkOut_S rows xs).ends (lkBase_S rows xs) (lkOut_S rows xs).lanes) :
    Calls Tryz.prog 74 #[.pointer (some ⟨g, 0, none⟩), .int .i64 r] w fun e w' => e = .returned (.agg #[.bool (cellA_S rows xs r), .int .i64 (cellB_S rows xs r), .string (cellC_S rows xs r)]) ∧ Below w.heap.size w w' := by
  have hc := Cell_S w g rows _ _ _ _ _ _ _ _ r (vAt_S rows xs (r - rankN (headOf rows xs).nulls (r + 1))) h hval.nl hval.nv hrr hr (fun hb w2 hb2 => by
    have hlt := rank_lt (rows := rows) _ r hr hb
    exact ValueAll_S w2 g rows _ _ _ _ _ _ _ _ _ (h.mono hb2) hval.el hval.ll hval.lv (by omega) (hval.ok _ hlt))
  refine hc.mono ?_
  rintro e w' ⟨rfl, hb⟩
  refine ⟨?_, hb⟩
  unfold cellA_S cellB_S cellC_S
  cases hbt : bitOf (headOf rows xs).nulls r <;> rfl

/-- a chunk laid in memory -/
theorem ck_laid_S {w : World} {rows : Nat} {xs : List Nat} {nu lv ev nv bef : Value} (h1 : Rd w nu (headOf rows xs).nulls.length 1 (u64s (headOf rows xs).nulls)) (h2 : Rd w lv (lkOut_S rows xs).list.length 1 (lstS (lkOut_S rows xs).list))
    (h3 : Rd w ev (lkOut_S rows xs).ends.length 1 (nIs (lkOut_S rows xs).ends)) (h4 : Rd w nv (lkOut_S rows xs).lanes.length 1 (u64s (lkOut_S rows xs).lanes)) (h5 : Rd w bef (headOf rows xs).nulls.length 1 (i64s (befL (headOf rows xs).nulls))) :
    Ck_S (w.alloc (.cells (ck_S rows (headOf rows xs).codec (headOf rows xs).wd nu (cntOf rows (headOf rows xs).nulls) lv ev (lkBase_S rows xs) nv kind_S bef).toArray 74)) w.heap.size rows (headOf rows xs).codec (headOf rows xs).wd (headOf rows xs).nulls
      (cntOf rows (headOf rows xs).nulls) (lkOut_S rows xs).list (lkOut_S rows xs).ends (lkBase_S rows xs) (lkOut_S rows xs).lanes := by
  have hb : Below w.heap.size w (w.alloc (.cells (ck_S rows (headOf rows xs).codec (headOf rows xs).wd nu (cntOf rows (headOf rows xs).nulls) lv ev (lkBase_S rows xs) nv kind_S bef).toArray 74)) := (brefl w).alloc (Nat.le_refl _) _
  exact ⟨⟨nu, lv, ev, nv, bef, by unfold Row; rw [heap_alloc_new]; rfl, h1.mono hb, h2.mono hb, h3.mono hb, h4.mono hb, h5.mono hb⟩⟩

/-- the cells of the rows -/
def rowsL_S (rows : Nat) (xs : List Nat) : List Value := cellsUp (cellA_S rows xs) (cellB_S rows xs) (cellC_S rows xs) rows

set_option maxHeartbeats 8000000 in
theorem decode_S (w : World) (v : Value) (xs : List Nat) (rows : Nat) (hT : Tab w) (hv : Rd w v xs.length 1 (u8s xs)) (hb : ∀ x ∈ xs, x < 256) (hl : xs.length ≤ 1048576) (hrr : rows ≤ 65536) (hval : lkOk_S rows xs = true → Valid_S rows xs) :
    Calls Tryz.prog 20 #[.iface 44 (.agg #[]), .int .i64 rows, v] w fun e w' => Below w.heap.size w w' ∧
      ((lkOk_S rows xs = false ∧ e = .returned (.tuple #[.slice none 0 0, .int .i64 1])) ∨
       (lkOk_S rows xs = true ∧ ∃ p, w.heap.size ≤ p ∧ e = .returned (.tuple #[.slice (some ⟨p, 0, none⟩) rows rows, .int .i64 0]) ∧ Row w' p 38 (rowsL_S rows xs))) := by
  have HLK := hid (Look_S w v xs rows hT hv hb hl hrr)
  have HVAL := hid hval
  have HCELLS := hid (fun (w2 : World) (g : Nat) (hh : lkOk_S rows xs = true) (h : Ck_S w2 g rows (headOf rows xs).codec (headOf rows xs).wd (headOf rows xs).nulls (cntOf rows (headOf rows xs).nulls) (lkOut_S rows xs).list (lkOut_S rows xs).ends (lkBase_S rows xs) (lkOut_S rows xs).lanes) =>
    Cells_S w2 g rows (cellA_S rows xs) (cellB_S rows xs) (cellC_S rows xs) (by obtain ⟨nu, lv, ev, nv, bef, h1, _⟩ := h.ex; rw [h1.cell]; rfl) hrr (fun r hr w3 hb3 => cell_S w3 g xs rows hrr (hval hh) r hr (h.mono hb3)))
  obtain ⟨A0, c0, rfl, _, _, _⟩ := hv.form
  have HLAY := hid (fun (w2 : World) (nu lv ev nv bef : Value) => @ck_laid_S w2 rows xs nu lv ev nv bef)
  unfold rowsL_S
  generalize lkOk_S rows xs = OK at *
  generalize cellA_S rows xs = fA at *
  generalize cellB_S rows xs = fB at *
  generalize cellC_S rows xs = fC at *
  generalize lkOut_S rows xs = O at *
  generalize lkBase_S rows xs = bs at *
  generalize headOf rows xs = H at *
  clear hT hv hval
  go_enter Tryz.func20, Tryz.ntmps20
  go_wp2_with fail
  refine HLK.out.mono ?_
  rintro e w1 ⟨hb1, ⟨rfl, rfl⟩ | ⟨rfl, nu, lv, ev, nv, bef, rfl, h1, h2, h3, h4, h5⟩⟩
  · have HB1 := hid hb1
    clear hb1
    unfold zeroCk_S i64 nilS
    go_wp2_with fail
    go_ret2
    exact ⟨HB1.out.alloc HB1.out.size _, by first | exact .inl ⟨rfl, rfl⟩ | rfl⟩
  · have HB1 := hid hb1
    have HCK := hid (HLAY.out w1 nu lv ev nv bef h1 h2 h3 h4 h5)
    obtain ⟨A1, c1, rfl, _, _, _⟩ := h1.form
    obtain ⟨A2, c2, rfl, _, _, _⟩ := h2.form
    obtain ⟨A3, c3, rfl, _, _, _⟩ := h3.form
    obtain ⟨A4, c4, rfl, _, _, _⟩ := h4.form
    obtain ⟨A5, c5, rfl, _, _, _⟩ := h5.form
    have HC2 := hid (HCELLS.out _ _ rfl HCK.out)
    have HB2 : Hid (Below w.heap.size w (w1.alloc (.cells (ck_S rows H.codec H.wd (.slice A1 H.nulls.length c1) (cntOf rows H.nulls) (.slice A2 O.list.length c2) (.slice A3 O.ends.length c3) bs (.slice A4 O.lanes.length c4) kind_S (.slice A5 H.nulls.length c5)).toArray 74))) := hid (HB1.out.alloc HB1.out.size _)
    clear h1 h2 h3 h4 h5 hb1 HLK HLAY HCELLS HVAL HCK
    generalize cntOf rows H.nulls = kk at *
    unfold ck_S i64 kind_S at *
    go_wp2_with fail
    refine HC2.out.mono ?_
    rintro e w3 ⟨p, hp, rfl, hrow, hb3⟩
    have HROW := hid hrow
    have hsz : w.heap.size ≤ (w1.alloc (.cells [.int .i64 rows, .int .i64 H.codec, .int .i64 H.wd, .slice A1 H.nulls.length c1, .int .i64 kk, .slice A2 O.list.length c2, .slice A3 O.ends.length c3, .int .i64 bs, .slice A4 O.lanes.length c4, .iface 44 (.agg #[]), .slice A5 H.nulls.length c5].toArray 74)).heap.size := HB2.out.size
    have HB3 := hid (HB2.out.trans (hb3.mono hsz))
    have HP := hid (Nat.le_trans hsz hp)
    clear hrow hb3 HC2 hp hsz
    go_wp2_with fail
    go_ret2
    exact ⟨HB3.out, by first | exact .inr ⟨rfl, p, HP.out, rfl, HROW.out⟩ | exact ⟨p, HP.out, rfl, HROW.out⟩⟩
/-- the cells at the places -/
def gathL_S (rows : Nat) (xs : List Nat) (ps : List Int) : List Value := cellsUp (fun i => cellA_S rows xs (ps.getD i 0).toNat) (fun i => cellB_S rows xs (ps.getD i 0).toNat) (fun i => cellC_S rows xs (ps.getD i 0).toNat) ps.length

set_option maxHeartbeats 8000000 in
theorem gather_S (w : World) (v u : Value) (xs : List Nat) (ps : List Int) (rows : Nat) (hu : Rd w u ps.length 1 (i64s ps)) (hpl : ps.length ≤ 65536) (hps : ∀ p ∈ ps, 0 ≤ p ∧ p < rows) (hT : Tab w) (hv : Rd w v xs.length 1 (u8s xs)) (hb : ∀ x ∈ xs, x < 256) (hl : xs.length ≤ 1048576) (hrr : rows ≤ 65536) (hval : lkOk_S rows xs = true → Valid_S rows xs) :
    Calls Tryz.prog 29 #[.iface 44 (.agg #[]), .int .i64 rows, v, u] w fun e w' => Below w.heap.size w w' ∧
      ((lkOk_S rows xs = false ∧ e = .returned (.tuple #[.slice none 0 0, .int .i64 1])) ∨
       (lkOk_S rows xs = true ∧ ∃ p, w.heap.size ≤ p ∧ e = .returned (.tuple #[.slice (some ⟨p, 0, none⟩) ps.length ps.length, .int .i64 0]) ∧ Row w' p 38 (gathL_S rows xs ps))) := by
  have HLK := hid (Look_S w v xs rows hT hv hb hl hrr)
  have HVAL := hid hval
  have HCELLS := hid (fun (w2 : World) (g : Nat) (hbw : Below w.heap.size w w2) (hh : lkOk_S rows xs = true) (h : Ck_S w2 g rows (headOf rows xs).codec (headOf rows xs).wd (headOf rows xs).nulls (cntOf rows (headOf rows xs).nulls) (lkOut_S rows xs).list (lkOut_S rows xs).ends (lkBase_S rows xs) (lkOut_S rows xs).lanes) =>
    Gather_S w2 g u ps (fun i => cellA_S rows xs (ps.getD i 0).toNat) (fun i => cellB_S rows xs (ps.getD i 0).toNat) (fun i => cellC_S rows xs (ps.getD i 0).toNat) (hu.mono hbw) hpl (fun r hr w3 hb3 => by
      have hp := hps (ps.getD r 0) (by simp [List.getD, List.getElem?_eq_getElem hr])
      have := cell_S w3 g xs rows hrr (hval hh) (ps.getD r 0).toNat (by omega) (h.mono hb3)
      rwa [Int.toNat_of_nonneg hp.1] at this))
  obtain ⟨B0, d0, rfl, _, _, _⟩ := hu.form
  obtain ⟨A0, c0, rfl, _, _, _⟩ := hv.form
  have HLAY := hid (fun (w2 : World) (nu lv ev nv bef : Value) => @ck_laid_S w2 rows xs nu lv ev nv bef)
  unfold gathL_S
  generalize lkOk_S rows xs = OK at *
  generalize (fun i => cellA_S rows xs (ps.getD i 0).toNat) = fA at *
  generalize (fun i => cellB_S rows xs (ps.getD i 0).toNat) = fB at *
  generalize (fun i => cellC_S rows xs (ps.getD i 0).toNat) = fC at *
  generalize lkOut_S rows xs = O at *
  generalize lkBase_S rows xs = bs at *
  generalize headOf rows xs = H at *
  clear hT hv hval hu hps
  go_enter Tryz.func29, Tryz.ntmps29
  go_wp2_with fail
  refine HLK.out.mono ?_
  rintro e w1 ⟨hb1, ⟨rfl, rfl⟩ | ⟨rfl, nu, lv, ev, nv, bef, rfl, h1, h2, h3, h4, h5⟩⟩
  · have HB1 := hid hb1
    clear hb1
    unfold zeroCk_S i64 nilS
    go_wp2_with fail
    go_ret2
    exact ⟨HB1.out.alloc HB1.out.size _, by first | exact .inl ⟨rfl, rfl⟩ | rfl⟩
  · have HB1 := hid hb1
    have HCK := hid (HLAY.out w1 nu lv ev nv bef h1 h2 h3 h4 h5)
    obtain ⟨A1, c1, rfl, _, _, _⟩ := h1.form
    obtain ⟨A2, c2, rfl, _, _, _⟩ := h2.form
    obtain ⟨A3, c3, rfl, _, _, _⟩ := h3.form
    obtain ⟨A4, c4, rfl, _, _, _⟩ := h4.form
    obtain ⟨A5, c5, rfl, _, _, _⟩ := h5.form
    have HC2 := hid (HCELLS.out _ _ (HB1.out.alloc HB1.out.size _) rfl HCK.out)
    have HB2 : Hid (Below w.heap.size w (w1.alloc (.cells (ck_S rows H.codec H.wd (.slice A1 H.nulls.length c1) (cntOf rows H.nulls) (.slice A2 O.list.length c2) (.slice A3 O.ends.length c3) bs (.slice A4 O.lanes.length c4) kind_S (.slice A5 H.nulls.length c5)).toArray 74))) := hid (HB1.out.alloc HB1.out.size _)
    clear h1 h2 h3 h4 h5 hb1 HLK HLAY HCELLS HVAL HCK
    generalize cntOf rows H.nulls = kk at *
    unfold ck_S i64 kind_S at *
    go_wp2_with fail
    refine HC2.out.mono ?_
    rintro e w3 ⟨p, hp, rfl, hrow, hb3⟩
    have HROW := hid hrow
    have hsz : w.heap.size ≤ (w1.alloc (.cells [.int .i64 rows, .int .i64 H.codec, .int .i64 H.wd, .slice A1 H.nulls.length c1, .int .i64 kk, .slice A2 O.list.length c2, .slice A3 O.ends.length c3, .int .i64 bs, .slice A4 O.lanes.length c4, .iface 44 (.agg #[]), .slice A5 H.nulls.length c5].toArray 74)).heap.size := HB2.out.size
    have HB3 := hid (HB2.out.trans (hb3.mono hsz))
    have HP := hid (Nat.le_trans hsz hp)
    clear hrow hb3 HC2 hp hsz
    go_wp2_with fail
    go_ret2
    exact ⟨HB3.out, by first | exact .inr ⟨rfl, p, HP.out, rfl, HROW.out⟩ | exact ⟨p, HP.out, rfl, HROW.out⟩⟩
end Go.Proofs.YtdlkdiaobbakiaaGreatDoor
