/- Package chunk: offsets and whole payloads of integers off the reader. -/
import Derived.Test.YtdlkdiaobbakiaaGreatDoorPay3S
set_option linter.unusedVariables false
set_option linter.unusedSimpArgs false
set_option linter.unnecessarySimpa false
set_option maxRecDepth 100000
namespace Go.Proofs.YtdlkdiaobbakiaaGreatDoor
open Go.RowKit

def outPay_S (codec : Nat) (wd : Int) (k : Nat) (xs : List Nat) (s : Bool) : Out_S :=
  if codec = 1 then outPlain_S wd k xs s else if codec = 2 then outDict_S wd k xs s else outRuns_S wd k xs s

set_option maxHeartbeats 8000000 in
theorem readPayload_S (w0 w : World) (g gr : Nat) (xs : List Nat) (s : Bool) (rows wd : Int) (codec k : Nat) (nulls bef : Value) (hT : Tab w0)
    (hc : Row w g 74 (ck_S rows codec wd nulls k nilS nilS 0 nilS kind_S bef)) (hr : RdrAt w0 w gr xs s) (hne : g ≠ gr) (hg0 : w0.heap.size ≤ g) (hgs : gr < w.heap.size)
    (hv : ∀ x ∈ xs, x < 256) (hl : xs.length ≤ 1048576) (hk : k ≤ 65536) (hcd : 1 ≤ codec ∧ codec ≤ 3) :
    Calls Tryz.prog 71 #[.pointer (some ⟨g, 0, none⟩), .pointer (some ⟨gr, 0, none⟩)] w fun e w' =>
      e = .returned (.bool (outPay_S codec wd k xs s).b) ∧ OutAt_S w0 w w' w.heap.size g gr rows codec wd k nulls kind_S bef 0 (outPay_S codec wd k xs s) := by
  have c1 : w.cell? ⟨g, 0 + 1, none⟩ = some (.int .i64 codec) := by rw [hc.cell]; rfl
  obtain ⟨O, hO⟩ : ∃ O, outPay_S codec wd k xs s = O := ⟨_, rfl⟩
  rw [hO]
  have HO := hid hO
  have HC := hid hc
  clear hO
  by_cases h1 : codec = 1
  · subst h1
    obtain rfl : outPlain_S wd k xs s = O := by rw [← HO.out]; rfl
    have HP := hid (readPlain_S w0 w g gr xs s rows _ wd k nulls bef 0 hc hr hne hg0 hgs hv hl hk)
    generalize outPlain_S wd k xs s = O at *
    clear hc hr hv hT
    go_enter Tryz.func71, Tryz.ntmps71
    go_wp2_with (go_at_call 97; refine HP.out.mono ?_; rintro e w1 ⟨rfl, h⟩; have H := hid h; clear h)
    go_ret
    exact ⟨rfl, H.out⟩
  by_cases h2 : codec = 2
  · subst h2
    obtain rfl : outDict_S wd k xs s = O := by rw [← HO.out]; rfl
    have HP := hid (readDict_S w0 w g gr xs s rows _ wd k nulls bef 0 hT hc hr hne hg0 hgs hv hl hk)
    generalize outDict_S wd k xs s = O at *
    clear hc hr hv hT
    go_enter Tryz.func71, Tryz.ntmps71
    go_wp2_with (go_at_call 98; refine HP.out.mono ?_; rintro e w1 ⟨rfl, h⟩; have H := hid h; clear h)
    go_ret
    exact ⟨rfl, H.out⟩
  · obtain rfl : codec = 3 := by omega
    obtain rfl : outRuns_S wd k xs s = O := by rw [← HO.out]; rfl
    have HP := hid (readRuns_S w0 w g gr xs s rows _ wd k nulls bef 0 hc hr hne hg0 hgs hv hl hk)
    generalize outRuns_S wd k xs s = O at *
    clear hc hr hv hT
    go_enter Tryz.func71, Tryz.ntmps71
    go_wp2_with (go_at_call 99; refine HP.out.mono ?_; rintro e w1 ⟨rfl, h⟩; have H := hid h; clear h)
    go_ret
    exact ⟨rfl, H.out⟩
end Go.Proofs.YtdlkdiaobbakiaaGreatDoor
