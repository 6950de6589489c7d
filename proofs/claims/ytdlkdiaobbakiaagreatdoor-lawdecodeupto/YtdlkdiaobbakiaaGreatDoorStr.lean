/- Strings out of bytes. -/
import Derived.Test.YtdlkdiaobbakiaaGreatDoorRdl
import Derived.Laws.BytesString
import Derived.Laws.DeepStrings4
set_option linter.unusedVariables false
set_option linter.unusedSimpArgs false
set_option linter.unnecessarySimpa false
set_option maxRecDepth 20000
namespace Go.Proofs.YtdlkdiaobbakiaaGreatDoor
open Go.RowKit

def ofBytes (bs : List Nat) : ByteArray := ⟨(bs.map UInt8.ofNat).toArray⟩
theorem ofBytes_size (bs : List Nat) : (ofBytes bs).size = bs.length := by simp [ofBytes, ByteArray.size]
theorem ofBytes_fold (bs : List Nat) : ∀ s : ByteArray, (bs.map (fun n : Nat => (n : Int))).foldl (fun r n => r.push (UInt8.ofNat n.toNat)) s = ⟨s.data ++ (bs.map UInt8.ofNat).toArray⟩ := by
  induction bs with
  | nil => intro s; simp
  | cons b r ih =>
    intro s
    simp only [List.map_cons, List.foldl_cons, Int.toNat_natCast]
    rw [ih]
    congr 1
    simp [ByteArray.push]
theorem ofBytes_extract (bs : List Nat) (i j : Nat) (hj : j ≤ bs.length) : (ofBytes bs).extract i j = ofBytes ((bs.drop i).take (j - i)) := by
  apply ByteArray.ext
  rw [ByteArray.data_extract]
  unfold ofBytes
  simp [List.extract_eq_take_drop, List.map_take, List.map_drop]
theorem run_str {w : World} {v : Value} {xs : List Nat} (h : Rd w v xs.length 1 (u8s xs)) : (convert 22 9 v).run Tryz.prog w = .ok (.string (ofBytes xs)) w := by
  obtain ⟨A, ca, rfl, _, _, hA⟩ := h.form
  rw [run_convert_bytes_string w _ _ 5 A xs.length ca Tryz.underlying22 (by kernel_rfl) (by kernel_rfl)]
  cases A with
  | none =>
    have : xs = [] := by
      rcases Nat.eq_zero_or_pos xs.length with h0 | h0
      · exact List.eq_nil_of_length_eq_zero h0
      · obtain ⟨b, o, e, _⟩ := hA h0; cases e
    subst this
    simp [Conv.bytesToString, Sem.run_pure, ofBytes]
    rfl
  | some a =>
    rw [run_bytesToString w a xs.length ca (xs.map fun n : Nat => (n : Int))]
    · rw [ofBytes_fold]; simp [ofBytes]
    · have hl := run_loadCells_list (P := Tryz.prog) w a (u8s xs) (fun j v hv => by
        have hj : j < xs.length := by
          have := (List.getElem?_eq_some_iff.1 hv).1
          rwa [u8s_length] at this
        obtain ⟨b, o, e, hs⟩ := hA (by omega)
        cases e
        rw [addr_add]
        exact hs j v hv)
      rw [u8s_length] at hl
      rw [hl]
      simp [u8s, u8]
end Go.Proofs.YtdlkdiaobbakiaaGreatDoor
