/- The plain answer: numbers put behind bytes; strings as bytes. -/
import Derived.Test.YtgobcaianpmbiaaCel3
import Derived.Test.YtgobcaianpmbiaaWire
import Derived.Lib.ConvBytes
set_option linter.unusedVariables false
set_option linter.unusedSimpArgs false
set_option linter.unnecessarySimpa false
set_option maxRecDepth 20000
namespace Go.Proofs.Ytgobcaianpmbiaa
open Go.RowKit

/-- the lowest bytes of a number, the lowest first -/
def leN (k n : Nat) : List Nat := (List.range k).map fun i => n / 2 ^ (8 * i) % 256
theorem leN_length (k n : Nat) : (leN k n).length = k := by simp [leN]
theorem leN_succ (k n : Nat) : leN (k + 1) n = leN k n ++ [n / 2 ^ (8 * k) % 256] := by simp [leN, List.range_succ]
theorem leN_lt (k n : Nat) : ∀ x ∈ leN k n, x < 256 := by
  intro x hx; simp only [leN, List.mem_map] at hx; obtain ⟨i, _, rfl⟩ := hx; exact Nat.mod_lt _ (by decide)
def toU (i : Int) : Nat := (i % 18446744073709551616).toNat
theorem toU_lt (i : Int) : toU i < 18446744073709551616 := by unfold toU; omega
theorem wrap_toU (i : Int) : IntKind.u64.wrap i = (toU i : Int) := by rw [IntKind.wrap_u64]; unfold toU; omega
def sbs (s : ByteArray) : List Nat := s.data.toList.map UInt8.toNat
theorem sbs_length (s : ByteArray) : (sbs s).length = s.size := by rw [sbs, List.length_map, Array.length_toList]; rfl
theorem sbs_get (s : ByteArray) (k : Nat) (h : k < s.size) : (sbs s)[k]? = some s[k].toNat := by
  rw [sbs, List.getElem?_map, List.getElem?_eq_getElem (by rw [Array.length_toList]; exact h)]; rfl
theorem sbs_lt (s : ByteArray) : ∀ x ∈ sbs s, x < 256 := by
  intro x hx; obtain ⟨b, _, rfl⟩ := List.mem_map.1 hx; exact b.toNat_lt
theorem Try.infoU8 : (Try.prog.info? 5).map (fun i => (i.zero, i.size, i.bytes)) = some (some (.int .u8 0), 1, 1) := by kernel_rfl
theorem u8s_snoc (xs : List Nat) (n : Nat) : u8s (xs ++ [n]) = u8s xs ++ [.int .u8 (n : Int)] := by simp [u8s, u8]

set_option maxHeartbeats 1000000 in
theorem putNumber_any (B : Nat) (v : Value) (bs : List Nat) (x k : Nat) (w : World) (hown : w.ownsRow B 5 1 v bs.length (u8s bs)) (hB : B ≤ w.heap.size) (hx : x < 18446744073709551616) (hk : k ≤ 8) (hl : bs.length ≤ 17592186044416) :
    Calls Try.prog 51 #[v, .int .u64 x, .int .i64 k] w fun e w' => ∃ r, e = .returned r ∧ w'.ownsRow B 5 1 r (bs ++ leN k x).length (u8s (bs ++ leN k x)) ∧ Below B w w' ∧ w.heap.size ≤ w'.heap.size := by
  obtain ⟨n, hn⟩ : ∃ n, bs.length = n := ⟨_, rfl⟩
  have HN := hid hn
  have HOWN := hid hown
  rw [hn] at hl
  clear hown hn
  go_enter Try.func51, Try.ntmps51
  go_wp2
  go_loopw [0, 7] (fun v0 i wr => ∃ t : Nat, t ≤ k ∧ i = .int .i64 t ∧ Hid (wr.ownsRow B 5 1 v0 (bs ++ leN t x).length (u8s (bs ++ leN t x))) ∧ Hid (Below B w wr) ∧ Hid (w.heap.size ≤ wr.heap.size)) (fun _ i _ => k - (intOf i).toNat)
  case atStart => exact ⟨0, by omega, rfl, by simpa [leN] using HOWN, hid (Below.refl _ _), hid (Nat.le_refl _)⟩
  case round =>
    obtain ⟨t, ht, rfl, hown, hb, hs⟩ := hrel
    by_cases hlt : t < k
    · obtain ⟨y, hy⟩ : ∃ y, x / 2 ^ (8 * t) % 256 = y := ⟨_, rfl⟩
      obtain ⟨e, he⟩ : ∃ e, 8 * t = e := ⟨_, rfl⟩
      have hy2 : ((x : Int) / 2 ^ e) % 256 = (y : Int) := by rw [← hy, ← he]; simp
      have he1 : (8 : Int) * (t : Int) = (e : Int) := by omega
      have he2 : e < 64 := by omega
      have HS : Hid (bs ++ leN (t + 1) x = (bs ++ leN t x) ++ [y]) := hid (by rw [leN_succ, hy, List.append_assoc])
      have HL : Hid ((bs ++ leN t x).length = n + t) := hid (by rw [List.length_append, leN_length, HN.out])
      have HBS : Hid (B ≤ wr.heap.size) := hid (Nat.le_trans hB hs.out)
      clear hy he
      generalize bs ++ leN t x = cs at *
      go_wp2_with (at_builtin; refine wpList_append1 rfl (.tmp 13) (.tmp 20) rfl 5 (.int .u8 0) 1 Try.underlying73 Try.infoU8 rfl rfl rfl hown.out HBS.out (by rfl) (by have := HL.out; unfold maxLen; omega) (by have := HL.out; omega) ?_; intro v' w' ho hb3 _)
      have HO := hid ho
      have HB3 := hid hb3
      clear ho hb3
      go_roundw
      case rel =>
        refine ⟨t + 1, by omega, by go_num, hid ?_, hid (hb.out.trans HB3.out), hid (Nat.le_trans hs.out HB3.out.size)⟩
        rw [HS.out, List.length_append, u8s_snoc]
        exact HO.out
      case measure => simp [intOf]; omega
    · obtain rfl : t = k := by omega
      go_wp2
      go_ret
      exact ⟨_, rfl, hown.out, hb.out, hs.out⟩
theorem rd_bytesWorld (w : World) (s : ByteArray) (hs : s.size ≤ maxLen) :
    Rd (Lib.bytesWorld w 5 s) (.slice (some ⟨w.heap.size, 0, none⟩) s.size (grownCap w s.size 0 5)) (sbs s).length 1 (u8s (sbs s)) ∧ Below w.heap.size w (Lib.bytesWorld w 5 s) := by
  refine ⟨⟨by rw [u8s_length, Nat.mul_one], .inr ⟨w.heap.size, 0, _, by rw [sbs_length], by rw [sbs_length]; exact grownCap_ge w _ _ _, grownCap_le_maxLen w _ _ _ hs, ?_⟩⟩, ?_⟩
  · intro i v hv
    have hi : i < (sbs s).length := by
      rcases Nat.lt_or_ge i (sbs s).length with h | h
      · exact h
      · rw [List.getElem?_eq_none (by rw [u8s_length]; exact h)] at hv; cases hv
    rw [u8s_get _ i hi] at hv
    have hi2 : i < s.size := by rw [← sbs_length]; exact hi
    rw [Nat.zero_add, Lib.bytesWorld_cell w 5 s i hi2, ← Option.some.inj hv]
    have hi3 : i < s.data.toList.length := by rw [Array.length_toList]; exact hi2
    simp only [sbs, List.getD, List.getElem?_map, List.getElem?_eq_getElem hi3, Option.map_some, Option.getD_some]
  · exact ⟨rfl, rfl, rfl, by rw [Lib.bytesWorld_size]; omega, fun k hk => Lib.bytesWorld_at_old w 5 s k hk⟩
/-- the bytes of a value, as they are hashed -/
def bytesC (k : Int) (c : C3) : List Nat := if k = 2 then sbs c.s else leN 8 (toU c.i)
theorem bytesC_lt (k : Int) (c : C3) : ∀ x ∈ bytesC k c, x < 256 := by
  unfold bytesC; split
  · exact sbs_lt _
  · exact leN_lt _ _
set_option maxHeartbeats 1000000 in
theorem bytesOf_any (k : Int) (c : C3) (w : World) (hk : k = 1 ∨ k = 2) (hs : c.s.size ≤ maxLen) :
    Calls Try.prog 45 #[c.v, .int .i64 k] w fun e w' => ∃ r, e = .returned r ∧ Rd w' r (bytesC k c).length 1 (u8s (bytesC k c)) ∧ Below w.heap.size w w' := by
  obtain ⟨b, i, s⟩ := c
  unfold C3.v bytesC
  simp only at *
  have HW := wrap_toU i
  have HP := hid (fun w2 : World => fun hB : w.heap.size ≤ w2.heap.size => putNumber_any w.heap.size (.slice none 0 0) [] (toU i) 8 w2 (World.ownsRow_nil _ _ _ _) hB (toU_lt i) (by omega) (by simp))
  have HC := hid (fun w2 : World => Lib.run_convert_string_bytes (P := Try.prog) w2 9 73 5 s Try.underlying9 Try.underlying73 Try.underlying5)
  rcases hk with rfl | rfl
  · simp only [show ¬ ((1 : Int) = 2) by decide, if_false]
    rw [List.nil_append] at HP
    go_enter Try.func45, Try.ntmps45
    go_wp2_with (go_at_call 51; refine (HP.out _ (by simp)).mono ?_; rintro e w1 ⟨r, rfl, ho, hb, hsz⟩; have HO := hid ho; have HB := hid hb; clear ho hb hsz)
    go_ret
    exact ⟨_, rfl, owns_rd HO.out, Below.trans ((brefl w).alloc (Nat.le_refl _) _) HB.out⟩
  · simp only [if_true]
    have hc := HC.out
    clear HC
    go_enter Try.func45, Try.ntmps45
    have hrd := rd_bytesWorld (w.alloc (.cells #[.bool b, .int .i64 i, .string s] 25)) s hs
    have hsz : (w.alloc (.cells #[.bool b, .int .i64 i, .string s] 25)).heap.size = w.heap.size + 1 := by simp
    rw [hsz] at hrd
    have HRD := hid hrd
    clear hrd hsz
    go_wp2_with fail
    go_ret
    exact ⟨_, rfl, HRD.out.1, Below.trans ((brefl w).alloc (Nat.le_refl _) _) (HRD.out.2.mono (by omega))⟩
end Go.Proofs.Ytgobcaianpmbiaa
