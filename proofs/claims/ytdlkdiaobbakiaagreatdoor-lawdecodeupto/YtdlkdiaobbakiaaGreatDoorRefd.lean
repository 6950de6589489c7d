/- The plain answer's Compare, and the bitmaps that it makes. -/
import Derived.Test.YtdlkdiaobbakiaaGreatDoorCmpm
import Derived.Test.YtdlkdiaobbakiaaGreatDoorRefc
set_option linter.unusedVariables false
set_option linter.unusedSimpArgs false
set_option linter.unnecessarySimpa false
set_option maxRecDepth 20000
namespace Go.Proofs.YtdlkdiaobbakiaaGreatDoor
open Go.RowKit

def standsS (op sign : Int) : Bool :=
  if op = 1 then decide (sign = 0) else if op = 2 then decide (sign ≠ 0) else if op = 3 then decide (sign < 0) else if op = 4 then decide (sign ≤ 0) else if op = 5 then decide (0 < sign) else decide (op = 6) && decide (0 ≤ sign)
def sgn (v c : Nat) : Int := if v < c then -1 else if c < v then 1 else 0
theorem standsS_sgn (op : Int) (v c : Nat) (h : 1 ≤ op ∧ op ≤ 6) : standsS op (sgn v c) = standsB op v c := by
  have ho : op = 1 ∨ op = 2 ∨ op = 3 ∨ op = 4 ∨ op = 5 ∨ op = 6 := by omega
  clear h
  rcases Nat.lt_trichotomy v c with h1 | h1 | h1
  · have h2 : ¬ v = c := by omega
    have h3 : v ≤ c := by omega
    have h4 : ¬ c < v := by omega
    have h5 : ¬ c ≤ v := by omega
    rcases ho with rfl | rfl | rfl | rfl | rfl | rfl <;> simp [standsS, standsB, sgn, h1, h2, h3, h4, h5]
  · subst h1
    rcases ho with rfl | rfl | rfl | rfl | rfl | rfl <;> simp [standsS, standsB, sgn]
  · have h2 : ¬ v = c := by omega
    have h3 : ¬ v ≤ c := by omega
    have h4 : ¬ v < c := by omega
    have h5 : c ≤ v := by omega
    rcases ho with rfl | rfl | rfl | rfl | rfl | rfl <;> simp [standsS, standsB, sgn, h1, h2, h3, h4, h5]

def bools (fl : List Bool) : List Value := fl.map Value.bool
theorem bools_get (fl : List Bool) (i : Nat) (h : i < fl.length) : (bools fl)[i]? = some (.bool (fl.getD i false)) := by
  simp [bools, List.getElem?_eq_getElem h, List.getD]

theorem Tryz.infoBool : (Tryz.prog.info? 4).map (fun i => (i.zero, i.size, i.bytes)) = some (some (.bool false), 1, 1) := by kernel_rfl
theorem bmL_snoc (fl : List Bool) (b : Bool) : bmL (fl ++ [b]) = L.packL 1 (fl.map Bool.toNat ++ [b.toNat]) := by simp [bmL]
theorem bmL_zero (fl : List Bool) : upTo 1 (fl.map Bool.toNat) 1 0 = bmL fl := upTo_zero _ _ _

set_option maxHeartbeats 2000000 in
theorem bitmapOf_any (v : Value) (fl : List Bool) (w : World) (hx : Rd w v fl.length 1 (bools fl)) (hl : fl.length ≤ 65536) :
    Calls Tryz.prog 40 #[v] w fun e w' => ∃ r, e = .returned r ∧ w'.ownsRow w.heap.size 68 1 r (bmL fl).length (u64s (bmL fl)) ∧ Below w.heap.size w w' := by
  obtain ⟨A, ca, rfl, hlc, hcm, hA⟩ := hx.form
  clear hx hlc hcm
  go_enter Tryz.func40, Tryz.ntmps40
  go_wp2
  go_loopw [3, 8] (fun v3 i wr => ∃ j : Nat, j ≤ fl.length ∧ i = .int .i64 j ∧ wr.ownsRow w.heap.size 68 1 v3 (bmL (fl.take j)).length (u64s (bmL (fl.take j))) ∧ Below w.heap.size w wr) (fun _ i _ => fl.length - (intOf i).toNat)
  case atStart => exact ⟨0, by omega, rfl, by simpa [bmL, L.packL_nil, u64s] using World.ownsRow_nil _ _ _ _, Below.refl _ _⟩
  case round =>
    obtain ⟨j, hj, rfl, hown, hb⟩ := hrel
    have HOWN := hid hown
    by_cases hlt : j < fl.length
    · obtain ⟨b, o, rfl, hs⟩ := hA (by omega)
      have c1 : wr.cell? ⟨b, o + j, none⟩ = some (.bool (fl.getD j false)) := (hs.mono (hb.mono (Nat.le_refl _))) j _ (bools_get fl j hlt)
      have HTK : Hid (fl.take (j + 1) = fl.take j ++ [fl.getD j false]) := by
        refine hid ?_; rw [List.take_succ_eq_append_getElem hlt]; simp [List.getD, List.getElem?_eq_getElem hlt]
      have hll : ((fl.take j).map Bool.toNat).length = j := by simp; omega
      have hlv := toNat_lt (fl.take j)
      obtain ⟨d, hd⟩ : ∃ d, j / 64 = d := ⟨_, rfl⟩
      obtain ⟨s, hss⟩ : ∃ s, j % 64 = s := ⟨_, rfl⟩
      have hd' : (j : Int) / 64 = (d : Int) := by omega
      have hs' : (j : Int) % 64 = (s : Int) := by omega
      have hs64 : s < 64 := by omega
      have hlen : (bmL (fl.take j)).length = d + if s = 0 then 0 else 1 := by
        rw [bmL_len, L.nWords_cases (by omega) (by omega), List.length_take, Nat.min_eq_left hj]
        simp [hd, hss]
      have HLEN := hid hlen
      -- the words with room for bit j
      have hsh := upTo_short (wd := 1) (by omega) (by omega) ((fl.take j).map Bool.toNat) 1 0
      have hlo := upTo_long (wd := 1) (by omega) (by omega) ((fl.take j).map Bool.toNat) 1 0
      have hbi := (upTo_bit (wd := 1) (by omega) (by omega) ((fl.take j).map Bool.toNat) hlv 1 0).2 (by decide)
      have hfl := L.packL_snoc_length (w := 1) (by omega) (by omega) ((fl.take j).map Bool.toNat) 0
      have hup := upTo_all 1 (by omega) ((fl.take j).map Bool.toNat) 1 (by decide)
      rw [bmL_zero, hll, Nat.pow_zero, Nat.mod_one, show (64 / 1 : Nat) = 64 from rfl, hd] at hsh hlo
      rw [hll, Nat.pow_zero, Nat.mod_one, show (64 / 1 : Nat) = 64 from rfl, hd, hss, Nat.mul_one, Nat.add_zero, show (0 + 1 : Nat) = 1 from rfl, hup] at hbi
      rw [hll, show (64 / 1 : Nat) = 64 from rfl, hd] at hfl
      have ht : bmL (fl.take j ++ [true]) = L.packL 1 ((fl.take j).map Bool.toNat ++ [1]) := bmL_snoc _ _
      have hf : bmL (fl.take j ++ [false]) = L.packL 1 ((fl.take j).map Bool.toNat ++ [0]) := bmL_snoc _ _
      rw [← ht] at hbi
      rw [← hf] at hsh hlo hbi hfl
      have HFV : Hid (∀ x ∈ bmL (fl.take j ++ [false]), x < 18446744073709551616) := (bmL_isBm _).2.1
      have HSH := hid hsh; have HLO := hid hlo; have HBI := hid hbi; have HFL := hid hfl
      clear hsh hlo hbi hfl ht hf hup hll hlv hs hd hss hA hlen
      generalize hF : bmL (fl.take j ++ [false]) = F at *
      have hFe := hid hF
      generalize hE : bmL (fl.take j) = E at *
      have hEe := hid hE
      generalize hfb : fl.getD j false = fb at *
      have HT1 : Hid (fb = true → bmL (fl.take (j + 1)) = F.set d (F.getD d 0 ||| 2 ^ s)) := by
        intro h; rw [HTK.out, h]; exact HBI.out.symm
      have HT0 : Hid (fb = false → bmL (fl.take (j + 1)) = F) := by
        intro h; rw [HTK.out, h]; exact hFe.out
      clear hF hE hfb hown HTK HBI
      have hFd : d < F.length := by have := HFL.out; omega
      have HFY := hid (HFV.out (F.getD d 0) (by simp [List.getD, List.getElem?_eq_getElem hFd]))
      have HOB := hid (or_u64_bit (F.getD d 0) s HFY.out hs64)
      obtain ⟨f0, hf0⟩ : ∃ f0, F.getD d 0 = f0 := ⟨_, rfl⟩
      rw [hf0] at HT1 HOB HFY
      have HF0 := hid hf0
      clear hf0
      by_cases hs0 : s = 0
      · have hsz : ((s : Int) == 0) = true := by simpa using hs0
        have HS0 := hid hs0
        rw [if_pos hs0] at HLEN
        clear hs0
        have hEF : E ++ [0] = F := HSH.out (by have := HLEN.out; omega)
        have HEF := hid hEF
        have HLF : Hid (F.length = E.length + 1) := by refine hid ?_; rw [← hEF]; simp
        clear hEF
        cases fb
        · go_wp2_with (at_builtin; refine wpList_append1 rfl (.tmp 16) (.tmp 17) rfl 68 (.int .u64 0) 8 Tryz.underlying47 Tryz.info45 rfl rfl rfl HOWN.out hb.size (by rfl) (by have := HLEN.out; unfold maxLen; omega) (by have := HLEN.out; omega) ?_; intro v' w' ho hb3 _)
          go_roundw
          case rel =>
            refine ⟨j + 1, by omega, by go_num, ?_, hb.trans hb3⟩
            rw [HT0.out rfl, HLF.out, ← HEF.out, u64s_append]
            exact ho
          case measure => simp [intOf]; omega
        · go_wp2_with (at_builtin; refine wpList_append1 rfl (.tmp 16) (.tmp 17) rfl 68 (.int .u64 0) 8 Tryz.underlying47 Tryz.info45 rfl rfl rfl HOWN.out hb.size (by rfl) (by have := HLEN.out; unfold maxLen; omega) (by have := HLEN.out; omega) ?_; intro v' w' ho hb3 _; (have ho2 : w'.ownsRow w.heap.size 68 1 v' F.length (u64s F) := (by rw [HLF.out, ← HEF.out, u64s_append]; exact ho)); obtain ⟨g, cap, rfl, hBg, hnc, hcm, hcell, hfr, _⟩ := owns_at ho2 d hFd; rw [HF0.out] at hcell; unfold maxLen at hcm; (have HO2 := hid ho2); clear ho ho2)
          go_roundw
          case rel =>
            refine ⟨j + 1, by omega, by go_num, ?_, below_set (hb.trans hb3) _ _ _ hBg⟩
            rw [HT1.out rfl, List.length_set, ← u64s_set, HOB.out]
            exact owns_set HO2.out d _
          case measure => simp [intOf]; omega
      · have hEF : E = F := HLO.out (by have := HLEN.out; rw [if_neg hs0] at this; omega)
        subst hEF
        have hsn : ((s : Int) == 0) = false := by simpa using hs0
        obtain ⟨g, cap, rfl, hBg, hnc, hcm, hcell, hfr, _⟩ := owns_at HOWN.out d hFd
        rw [HF0.out] at hcell
        unfold maxLen at hcm
        cases fb
        · go_wp2
          go_roundw
          case rel => exact ⟨j + 1, by omega, by go_num, by rw [HT0.out rfl]; exact HOWN.out, hb⟩
          case measure => simp [intOf]; omega
        · go_wp2
          go_roundw
          case rel =>
            refine ⟨j + 1, by omega, by go_num, ?_, below_set hb _ _ _ hBg⟩
            rw [HT1.out rfl, List.length_set, ← u64s_set, HOB.out]
            exact owns_set HOWN.out d _
          case measure => simp [intOf]; omega
    · go_wp2
      go_ret
      rw [show j = fl.length from by omega, List.take_length] at hown
      exact ⟨_, rfl, hown, hb⟩
end Go.Proofs.YtdlkdiaobbakiaaGreatDoor
