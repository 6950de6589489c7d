/- Package chunk: offsets and whole payloads of integers off the reader. -/
import Derived.Test.YtdlkdiaobbakiaaGreatDoorPay3I
set_option linter.unusedVariables false
set_option linter.unusedSimpArgs false
set_option linter.unnecessarySimpa false
set_option maxRecDepth 100000
namespace Go.Proofs.YtdlkdiaobbakiaaGreatDoor
open Go.RowKit

def roomN (base : Int) : Nat := (9223372036854775807 - base).toNat
def outOff (wd base : Int) (k : Nat) (xs : List Nat) (s : Bool) : Out_I :=
  { b := lanesB wd k 5 (restW xs) (roomN base), left := tkL (8 * (xs.length / 8)) xs, short := tkS (8 * (xs.length / 8)) xs s, list := [], ends := [], lanes := restW xs }
theorem room_u64 (b : Int) (h1 : -9223372036854775808 ≤ b) (h2 : b ≤ 9223372036854775807) : IntKind.u64.wrap (9223372036854775807 - IntKind.u64.wrap b) = ((roomN b : Nat) : Int) := by
  unfold roomN
  rw [IntKind.wrap_u64, IntKind.wrap_u64]
  omega
theorem sgn64_bd (x : Nat) : -9223372036854775808 ≤ sgn64 x ∧ sgn64 x ≤ 9223372036854775807 := by unfold sgn64 wrap64; omega

set_option maxHeartbeats 4000000 in
theorem readOffsets_any (w0 w : World) (g gr : Nat) (xs : List Nat) (s : Bool) (rows codec wd : Int) (k : Nat) (nulls bef : Value) (base : Int) (hT : Tab w0)
    (hc : Row w g 82 (ck_I rows codec wd nulls k nilS nilS base nilS kind_I bef)) (hr : RdrAt w0 w gr xs s) (hne : g ≠ gr) (hg0 : w0.heap.size ≤ g) (hgs : gr < w.heap.size)
    (hv : ∀ x ∈ xs, x < 256) (hl : xs.length ≤ 1048576) (hb1 : -9223372036854775808 ≤ base) (hb2 : base ≤ 9223372036854775807) :
    Calls Tryz.prog 107 #[.pointer (some ⟨g, 0, none⟩), .pointer (some ⟨gr, 0, none⟩)] w fun e w' =>
      e = .returned (.bool (outOff wd base k xs s).b) ∧ OutAt_I w0 w w' w.heap.size g gr rows codec wd k nulls kind_I bef base (outOff wd base k xs s) := by
  have hroom := room_u64 base hb1 hb2
  have hrl : roomN base < 18446744073709551616 := by unfold roomN; omega
  have HLN := hid (readLanes_I w0 w g gr xs s rows codec wd k nulls nilS nilS nilS kind_I bef base 5 (roomN base) hT hc hr hne hg0 hgs hv hl hrl)
  have e7 : w.cell? ⟨g, 0 + 7, none⟩ = some (.int .i64 base) := by rw [hc.cell]; rfl
  unfold outOff
  generalize roomN base = rm at *
  generalize lanesB wd k 5 (restW xs) rm = lb at *
  clear hc hr hv hT
  go_enter Tryz.func107, Tryz.ntmps107
  go_wp2_with fail
  refine HLN.out.mono ?_
  rintro e w1 ⟨rfl, v, h1, h2, h3, h4⟩
  have H1 := hid h1; have H2 := hid h2; have H3 := hid h3; have H4 := hid h4
  clear h1 h2 h3 h4
  go_wp2_with fail
  go_ret
  exact ⟨rfl, ⟨_, _, _, H1.out, World.ownsRow_nil _ _ _ _, World.ownsRow_nil _ _ _ _, H2.out⟩, H3.out, H4.out⟩

def basePay (codec : Nat) (xs : List Nat) : Int := if codec = 4 then sgn64 (L.wordOf 8 (tk 8 xs)) else 0
def outPay_I (codec : Nat) (wd : Int) (k : Nat) (xs : List Nat) (s : Bool) : Out_I :=
  if codec = 1 then outPlain_I wd k xs s else if codec = 2 then outDict_I wd k xs s else if codec = 3 then outRuns_I wd k xs s
  else if codec = 4 then outOff wd (basePay 4 xs) k (tkL 8 xs) (tkS 8 xs s) else outOff wd 0 k xs s

set_option maxHeartbeats 8000000 in
theorem readPayload_I (w0 w : World) (g gr : Nat) (xs : List Nat) (s : Bool) (rows wd : Int) (codec k : Nat) (nulls bef : Value) (hT : Tab w0)
    (hc : Row w g 82 (ck_I rows codec wd nulls k nilS nilS 0 nilS kind_I bef)) (hr : RdrAt w0 w gr xs s) (hne : g ≠ gr) (hg0 : w0.heap.size ≤ g) (hgs : gr < w.heap.size)
    (hv : ∀ x ∈ xs, x < 256) (hl : xs.length ≤ 1048576) (hk : k ≤ 65536) (hcd : 1 ≤ codec ∧ codec ≤ 5) :
    Calls Tryz.prog 75 #[.pointer (some ⟨g, 0, none⟩), .pointer (some ⟨gr, 0, none⟩)] w fun e w' =>
      e = .returned (.bool (outPay_I codec wd k xs s).b) ∧ OutAt_I w0 w w' w.heap.size g gr rows codec wd k nulls kind_I bef (basePay codec xs) (outPay_I codec wd k xs s) := by
  have c1 : w.cell? ⟨g, 0 + 1, none⟩ = some (.int .i64 codec) := by rw [hc.cell]; rfl
  obtain ⟨O, hO⟩ : ∃ O, outPay_I codec wd k xs s = O := ⟨_, rfl⟩
  obtain ⟨bs, hbs⟩ : ∃ bs, basePay codec xs = bs := ⟨_, rfl⟩
  rw [hO, hbs]
  have HO := hid hO
  have HBS := hid hbs
  have HC := hid hc
  clear hO hbs
  by_cases h1 : codec = 1
  · subst h1
    obtain rfl : outPlain_I wd k xs s = O := by rw [← HO.out]; rfl
    obtain rfl : (0 : Int) = bs := by rw [← HBS.out]; rfl
    have HP := hid (readPlain_I w0 w g gr xs s rows _ wd k nulls bef 0 hc hr hne hg0 hgs hv hl hk)
    generalize outPlain_I wd k xs s = O at *
    clear hc hr hv hT
    go_enter Tryz.func75, Tryz.ntmps75
    go_wp2_with (go_at_call 104; refine HP.out.mono ?_; rintro e w1 ⟨rfl, h⟩; have H := hid h; clear h)
    go_ret
    exact ⟨rfl, H.out⟩
  by_cases h2 : codec = 2
  · subst h2
    obtain rfl : outDict_I wd k xs s = O := by rw [← HO.out]; rfl
    obtain rfl : (0 : Int) = bs := by rw [← HBS.out]; rfl
    have HP := hid (readDict_I w0 w g gr xs s rows _ wd k nulls bef 0 hT hc hr hne hg0 hgs hv hl hk)
    generalize outDict_I wd k xs s = O at *
    clear hc hr hv hT
    go_enter Tryz.func75, Tryz.ntmps75
    go_wp2_with (go_at_call 105; refine HP.out.mono ?_; rintro e w1 ⟨rfl, h⟩; have H := hid h; clear h)
    go_ret
    exact ⟨rfl, H.out⟩
  by_cases h3 : codec = 3
  · subst h3
    obtain rfl : outRuns_I wd k xs s = O := by rw [← HO.out]; rfl
    obtain rfl : (0 : Int) = bs := by rw [← HBS.out]; rfl
    have HP := hid (readRuns_I w0 w g gr xs s rows _ wd k nulls bef 0 hc hr hne hg0 hgs hv hl hk)
    generalize outRuns_I wd k xs s = O at *
    clear hc hr hv hT
    go_enter Tryz.func75, Tryz.ntmps75
    go_wp2_with (go_at_call 106; refine HP.out.mono ?_; rintro e w1 ⟨rfl, h⟩; have H := hid h; clear h)
    go_ret
    exact ⟨rfl, H.out⟩
  by_cases h4 : codec = 4
  · subst h4
    obtain rfl : outOff wd (basePay 4 xs) k (tkL 8 xs) (tkS 8 xs s) = O := by rw [← HO.out]; rfl
    obtain rfl : basePay 4 xs = bs := HBS.out
    obtain ⟨xs1, hx1⟩ : ∃ xs1, tkL 8 xs = xs1 := ⟨_, rfl⟩
    obtain ⟨s1, hs1⟩ : ∃ s1, tkS 8 xs s = s1 := ⟨_, rfl⟩
    have hxl1 : xs1.length ≤ 1048576 := by rw [← hx1]; exact Nat.le_trans (tkL_le _ _) hl
    have hxv1 : ∀ x ∈ xs1, x < 256 := by rw [← hx1]; exact tkL_lt hv
    obtain ⟨x, hx⟩ : ∃ x, L.wordOf 8 (tk 8 xs) = x := ⟨_, rfl⟩
    have hx64 : x < 18446744073709551616 := by rw [← hx]; exact wordOf8_lt _ (tk_lt hv) (tk_le 8 xs)
    have hbp : basePay 4 xs = sgn64 x := by unfold basePay; rw [if_pos rfl, hx]
    have hU := U64_any w0 w gr xs s hr hv hl
    rw [hx, hx1, hs1] at hU
    rw [hx1, hs1, hbp]
    have HU := hid hU
    have HT := hid hT
    have c7 : w.cell? ⟨g, 0 + 7, none⟩ = some (.int .i64 0) := by rw [hc.cell]; rfl
    have hgw : g < w.heap.size := hc.lt
    have HOFF := hid (fun (w2 : World) (h1 : Row w2 g 82 (ck_I rows (4 : Nat) wd nulls k nilS nilS (sgn64 x) nilS kind_I bef)) (h2 : RdrAt w0 w2 gr xs1 s1) (h3 : gr < w2.heap.size) =>
      readOffsets_any w0 w2 g gr xs1 s1 rows (4 : Nat) wd k nulls bef (sgn64 x) hT h1 h2 hne hg0 h3 hxv1 hxl1 (sgn64_bd x).1 (sgn64_bd x).2)
    obtain ⟨B, hB⟩ : ∃ B, w.heap.size = B := ⟨_, rfl⟩
    have HB := hid hB
    rw [hB]
    generalize outOff wd (sgn64 x) k xs1 s1 = O at *
    clear hc hr hv hT hU hx1 hs1 hx hbp HO HBS hB hxv1
    go_enter Tryz.func75, Tryz.ntmps75
    go_wp2_with fail
    refine HU.out.mono ?_
    rintro e w1 ⟨rfl, h1, h2⟩
    have HCK1 := hid (h2.row HC.out hne hne)
    have d7 : w1.cell? ⟨g, 0 + 7, none⟩ = some (.int .i64 0) := by rw [HCK1.out.cell]; rfl
    have f7 := HCK1.out.frozen (0 + 7)
    have hch := (Chg.refl g g w1).setCell g 7 (.int .i64 (sgn64 x)) (.inl rfl)
    have HCK2 : Hid (Row (w1.setCell ⟨g, 7, none⟩ (.int .i64 (sgn64 x))) g 82 (ck_I rows (4 : Nat) wd nulls k nilS nilS (sgn64 x) nilS kind_I bef)) := hid (HCK1.out.set 7 _)
    have HA2 := hid (h1.chg hch (Ne.symm hne) (Ne.symm hne) hg0 hg0)
    have HC2 := hid ((Chg.wide' (a := g) h2).setCell g 7 (.int .i64 (sgn64 x)) (.inl rfl))
    have hgr2 : gr < (w1.setCell ⟨g, 7, none⟩ (.int .i64 (sgn64 x))).heap.size := Nat.lt_of_lt_of_le hgs HC2.out.size
    have hB2 : B ≤ (w1.setCell ⟨g, 7, none⟩ (.int .i64 (sgn64 x))).heap.size := by have := HB.out; have := HC2.out.size; omega
    have esg : wrap64 (x : Int) = sgn64 x := rfl
    clear h1 h2 hch HC HCK1 c7 HU
    go_wp2_with fail
    rw [esg]
    clear d7 f7 esg
    generalize w1.setCell ⟨g, 7, none⟩ (.int .i64 (sgn64 x)) = w2 at *
    refine (HOFF.out w2 HCK2.out HA2.out hgr2).mono ?_
    rintro e w3 ⟨rfl, h⟩
    have H := hid h
    clear h
    go_wp2_with fail
    go_ret
    obtain ⟨⟨lv, ev, nv, h1, h2, h3, h4⟩, h5, h6⟩ := H.out
    exact ⟨rfl, ⟨lv, ev, nv, h1, owns_mono_I h2 hB2, owns_mono_I h3 hB2, owns_mono_I h4 hB2⟩, h5, HC2.out.trans h6⟩
  · obtain rfl : codec = 5 := by omega
    obtain rfl : outOff wd 0 k xs s = O := by rw [← HO.out]; rfl
    obtain rfl : (0 : Int) = bs := by rw [← HBS.out]; rfl
    have HP := hid (readOffsets_any w0 w g gr xs s rows _ wd k nulls bef 0 hT hc hr hne hg0 hgs hv hl (by omega) (by omega))
    generalize outOff wd 0 k xs s = O at *
    clear hc hr hv hT
    go_enter Tryz.func75, Tryz.ntmps75
    go_wp2_with (go_at_call 107; refine HP.out.mono ?_; rintro e w1 ⟨rfl, h⟩; have H := hid h; clear h)
    go_ret
    exact ⟨rfl, H.out⟩
end Go.Proofs.YtdlkdiaobbakiaaGreatDoor
