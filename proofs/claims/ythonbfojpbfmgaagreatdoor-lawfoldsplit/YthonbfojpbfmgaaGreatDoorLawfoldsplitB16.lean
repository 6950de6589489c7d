/- Package chunk: lists of values put behind bytes. -/
import Derived.Test.YthonbfojpbfmgaaGreatDoorLawfoldsplitB15
import Derived.Lib.AppendStr
import Derived.Test.YthonbfojpbfmgaaGreatDoorLawfoldsplitB2
import Derived.WalkLawsBesides
import Derived.Laws.StructEq
set_option linter.unusedVariables false
set_option linter.unusedSimpArgs false
set_option linter.unnecessarySimpa false
set_option maxRecDepth 100000
namespace Go.Proofs.YthonbfojpbfmgaaGreatDoor
open Go.RowKit

theorem OwnB.below {B : Nat} {w w' : World} {v : Value} {bs : List Nat} (h : OwnB B w v bs) (hb : Below w.heap.size w w') : OwnB B w' v bs := owns_below h hb
theorem Rd.atS {w : World} {D : Option Addr} {n m cd : Nat} {xs : List ByteArray} (h : Rd w (.slice D n cd) m 1 (strs xs)) (h0 : 0 < m) : ∃ b o, D = some ⟨b, o, none⟩ ∧
    ∀ k, k < xs.length → w.cell? ⟨b, o + k, none⟩ = some (.string (xs.getD k default)) := by
  rcases h.2 with ⟨_, rfl⟩ | ⟨b, o, cap', he, _, _, hs⟩
  · exact absurd h0 (Nat.lt_irrefl 0)
  · injection he with e1 e2 e3
    exact ⟨b, o, e1, fun k hk => hs.str k hk⟩
def le8I (xs : List Int) : List Nat := le8 (xs.map toU)
theorem le8I_snoc (xs : List Int) (x : Int) : le8I (xs ++ [x]) = le8I xs ++ leN 8 (toU x) := by simp [le8I, le8_snoc]
theorem le8I_len (xs : List Int) : (le8I xs).length = 8 * xs.length := by simp [le8I, le8_len]
set_option maxHeartbeats 1000000 in
theorem AppendListI_any (B : Nat) (v u : Value) (bs : List Nat) (xs : List Int) (w : World) (hown : OwnB B w v bs) (hu : Stay B v w u xs.length 1 (i64s xs)) (hB : B ≤ w.heap.size) (hl : bs.length ≤ 1099511627776) (hl2 : xs.length ≤ 1048576) :
    Calls Tryz.prog 270 #[.agg #[], v, u] w fun e w' => PutAns B v w w' e (bs ++ le8I xs) := by
  have HU := hid hu
  obtain ⟨A, c, rfl⟩ := hown.form
  obtain ⟨A1, c1, rfl, _, _, _⟩ := hu.now.form
  have HOWN := hid hown
  obtain ⟨b0, hb0⟩ : ∃ b0, bs.length = b0 := ⟨_, rfl⟩
  have HB0 := hid hb0
  rw [hb0] at hl
  have hba : Below w.heap.size w (w.alloc (.cells #[] 68)) := (brefl w).alloc (Nat.le_refl _) _
  have HBA := hid hba
  clear hown hu hb0 hba
  go_enter Tryz.func270, Tryz.ntmps270
  go_wp2_with fail
  generalize w.alloc (.cells #[] 68) = w0 at *
  have hsz0 := HBA.out.size
  go_loopw [1, 11] (fun r i wr => ∃ t : Nat, t ≤ xs.length ∧ i = .int .i64 t ∧ Hid (OwnB B wr r (bs ++ le8I (xs.take t))) ∧ Hid (Below B w wr) ∧ Hid (w.heap.size ≤ wr.heap.size) ∧ Hid (Kp (.slice A bs.length c) w wr r)) (fun _ i _ => xs.length - (intOf i).toNat)
  case atStart => exact ⟨0, by omega, rfl, hid (by simpa [le8I, le8] using HOWN.out.below HBA.out), hid (HBA.out.mono hB), hid hsz0, hid (Kp.below HBA.out)⟩
  case round =>
    obtain ⟨t, ht, rfl, HOW, HB1, HS, HK⟩ := hrel
    by_cases hlt : t < xs.length
    · have HLEN : Hid ((bs ++ le8I (xs.take t)).length = b0 + 8 * t) := hid (by rw [List.length_append, le8I_len, List.length_take, Nat.min_eq_left ht, HB0.out])
      obtain ⟨A2, c2, rfl⟩ := HOW.out.form
      obtain ⟨b, o, rfl, hs⟩ := (HU.out wr _ HB1.out HK.out).atI (by omega)
      have e1 := hs t hlt
      have HST : Hid (bs ++ le8I (xs.take (t + 1)) = (bs ++ le8I (xs.take t)) ++ leN 8 (toU (xs.getD t 0))) := hid (by
        rw [List.take_succ_eq_append_getElem hlt, le8I_snoc, List.append_assoc]
        simp [List.getD, List.getElem?_eq_getElem hlt])
      have hwu := wrap_toU (xs.getD t 0)
      have hxu := toU_lt (xs.getD t 0)
      clear hs
      generalize xs.getD t 0 = x at *
      generalize toU x = y at *
      generalize bs ++ le8I (xs.take t) = cs at *
      have HN := hid (AppendU64_any B _ cs y wr HOW.out (Nat.le_trans hB HS.out) hxu (by have := HLEN.out; omega))
      generalize cs ++ leN 8 y = R at *
      go_wp2_with (go_at_call 179; refine HN.out.mono ?_; rintro e w1 ⟨r, rfl, h1, h2, h3, h4⟩; obtain ⟨A3, c3, rfl⟩ := h1.form; have H1 := hid h1; have H2 := hid h2; have H3 := hid h3; have H4 := hid h4; clear h1 h2 h3 h4)
      go_roundw
      case rel => exact ⟨t + 1, by omega, by go_num, hid (by rw [HST.out]; exact H1.out), hid (Below.trans HB1.out H2.out), hid (Nat.le_trans HS.out H3.out), hid (HK.out.trans H4.out HS.out)⟩
      case measure => simp [intOf]; omega
    · obtain rfl : t = xs.length := by omega
      rw [List.take_length] at HOW
      obtain ⟨A2, c2, rfl⟩ := HOW.out.form
      go_wp2_with fail
      go_ret
      exact ⟨_, rfl, HOW.out, HB1.out, HS.out, HK.out⟩

/-- the ends of strings one behind the other, and their text -/
def sumS (ss : List ByteArray) : Nat := (ss.map ByteArray.size).sum
def endsL (ss : List ByteArray) : List Nat := (List.range ss.length).map fun i => sumS (ss.take (i + 1))
def le4N (es : List Nat) : List Nat := es.flatMap fun x => leN 4 x
def textB (ss : List ByteArray) : List Nat := ss.flatMap sbs
def strsB (ss : List ByteArray) : List Nat := le4N (endsL ss) ++ textB ss
theorem sumS_snoc (ss : List ByteArray) (s : ByteArray) : sumS (ss ++ [s]) = sumS ss + s.size := by simp [sumS]
theorem sumS_take_le (ss : List ByteArray) (t : Nat) : sumS (ss.take t) ≤ sumS ss := by
  have h : sumS ss = sumS (ss.take t) + sumS (ss.drop t) := by
    unfold sumS; rw [← List.sum_append, ← List.map_append, List.take_append_drop]
  omega
theorem endsL_take (ss : List ByteArray) (t : Nat) (ht : t < ss.length) : endsL (ss.take (t + 1)) = endsL (ss.take t) ++ [sumS (ss.take (t + 1))] := by
  unfold endsL
  rw [List.length_take, List.length_take, Nat.min_eq_left (by omega), Nat.min_eq_left (by omega), List.range_succ, List.map_append]
  congr 1
  · apply List.map_congr_left
    intro i hi
    have := List.mem_range.1 hi
    rw [List.take_take, List.take_take, Nat.min_eq_left (by omega), Nat.min_eq_left (by omega)]
  · simp [List.take_take]
theorem le4N_snoc (es : List Nat) (x : Nat) : le4N (es ++ [x]) = le4N es ++ leN 4 x := by simp [le4N]
theorem le4N_len (es : List Nat) : (le4N es).length = 4 * es.length := flatMap_len _ 4 (fun _ => leN_length _ _) es
theorem endsL_len (ss : List ByteArray) : (endsL ss).length = ss.length := by simp [endsL]
theorem textB_snoc (ss : List ByteArray) (s : ByteArray) : textB (ss ++ [s]) = textB ss ++ sbs s := by simp [textB]
theorem textB_len (ss : List ByteArray) : (textB ss).length = sumS ss := by
  induction ss with
  | nil => rfl
  | cons s r ih => simp only [textB, sumS, List.flatMap_cons, List.length_append, List.map_cons, List.sum_cons] at ih ⊢; rw [ih, sbs_length]
theorem strCells_sbs (s : ByteArray) : Lib.strCells s = u8s (sbs s) := by
  unfold Lib.strCells u8s u8 sbs
  rw [List.map_map]
  rfl
/-- append of a string's bytes, and where the answer lies -/
theorem append_own_string_where {P : Program} (w : World) (base : Nat) (t u ty e : TypeId) (i : TypeInfo) (ht : P.underlying t = some (.slice e)) (hu : P.underlying u = some .string) (hi : P.info? e = some i) (hz : i.zero = some (.int .u8 0))
    (hsize : i.size = 1) (hby : i.bytes = 1) (v : Value) (n : Nat) (xs : List Value) (hown : w.ownsRow base e 1 v n xs) (s : ByteArray) (h63 : n + s.size ≤ maxLen) (hbytes : n + s.size ≤ 140737488355328) (hbase : base ≤ w.heap.size) :
    ∃ v' w', (Builtin.append_ #[t, u] ty #[v, .string s]).run P w = .ok v' w' ∧ w'.ownsRow base e 1 v' (n + s.size) (xs ++ Lib.strCells s) ∧ w.grownBy w' v.ownBlock ∧ (∀ k, v'.ownBlock = some k → some k = v.ownBlock ∨ w.heap.size ≤ k) := by
  obtain ⟨v', w', hr, h1, h2, h3⟩ := Lib.run_append_own_string (P := P) (w := w) base t u ty e i ht hu hi hz hsize hby v n xs hown s h63 hbytes hbase
  refine ⟨v', w', hr, h1, h2, ?_⟩
  have hxl : xs.length = n := by simpa using hown.1
  rcases hown.2 with ⟨rfl, rfl⟩ | ⟨g, cap, cur, rfl, hbg, hg, hnc, hcm, hcs, htake⟩
  · by_cases hm : s.size = 0
    · have := h3.2 ⟨rfl, hm⟩
      subst this
      intro k hk; cases hk
    · have hr2 := run_append_nil_string (P := P) w t u ty e i (.int .u8 0) ht hu hi hz s (by unfold maxLen at h63; omega) (by unfold maxLen at h63; omega) (by rw [hby]; omega)
      rw [hr] at hr2
      injection hr2 with e1 e2
      subst e1
      intro k hk
      simp [Value.ownBlock] at hk
      exact .inr (by omega)
  · have hsmall : n + s.size ≤ 9223372036854775807 := by unfold maxLen at h63; omega
    by_cases hroom : n + s.size ≤ cap
    · have hcs2 : cur.size = cap := by simpa using hcs
      have hr2 := Lib.run_append_room_string (P := P) (w := w) t u ty e i ht hu hi hsize g n cap cur hg s hroom (by omega)
      rw [hr] at hr2
      injection hr2 with e1 e2
      subst e1
      intro k hk
      exact .inl (by simpa [Value.ownBlock] using hk.symm)
    · have holds : ∀ j u, xs[j]? = some u → w.cell? ((⟨g, 0, none⟩ : Addr).add j) = some u := hown.cells (g := g) rfl
      have hr2 := Lib.run_append_grow_string (P := P) (w := w) t u ty e i (.int .u8 0) ht hu hi hz ⟨g, 0, none⟩ n cap xs (by rw [hsize]; simpa using hxl) holds s (by omega) (by omega) (by rw [hby]; exact growslice_fits (by omega) (by omega))
      rw [hr] at hr2
      injection hr2 with e1 e2
      subst e1
      intro k hk
      simp [Value.ownBlock] at hk
      exact .inr (by omega)
theorem wpList_appendS {w : World} {ops : Array Oper} {rest : List Oper} {o : Oper} {a : Act} {Q : Exit → Act → World → Prop} {v : Value} {B : Nat} {bs : List Nat} {x : ByteArray}
    (hgd : o.guard = none) (sl r : Operand) (ho : o.op = .call { callee := .builtin .append, args := #[sl, r], argTypes := #[22, 9] })
    (hs : a.eval sl = v) (hx : a.eval r = .string x) (hown : OwnB B w v bs) (hm : bs.length + x.size ≤ 17592186044416) (hB : B ≤ w.heap.size)
    (hK : ∀ v' w', OwnB B w' v' (bs ++ sbs x) → Below B w w' → w.heap.size ≤ w'.heap.size → Kp v w w' v' → wpList Tryz.prog ops Q rest (a.put o.dst v') w') : wpList Tryz.prog ops Q (o :: rest) a w := by
  obtain ⟨iu, hiu, hz0, hz1, hz2⟩ := info_parts Tryz.infoU8
  have hlt := World.ownsRow.lt hown
  refine wpList_plain hgd fun K hK2 => ?_
  obtain ⟨v', w', hr, h1, h2, hw⟩ := append_own_string_where (P := Tryz.prog) w B 22 9 o.type 5 iu Tryz.underlying22 Tryz.underlying9 hiu hz0 hz1 hz2 v bs.length (u8s bs) hown x (by unfold maxLen; omega) (by omega) hB
  unfold Oper.wp execOp
  simp only [ho, resolve, invoke, builtin, Sem.run_bind, Sem.run_pure, Result.andThen_ok, List.map_toArray, List.map_cons, List.map_nil, hs, hx, hr]
  refine hK2 _ _ (hK v' w' ?_ ((Below.refl B w).grown h2 (by omega) (fun k hk => (hlt k hk).1)) h2.size ⟨h2.block, hw⟩)
  unfold OwnB
  rw [List.length_append, sbs_length, u8s_append, ← strCells_sbs]
  exact h1
set_option maxHeartbeats 2000000 in
theorem AppendListS_any (B : Nat) (v u : Value) (bs : List Nat) (xs : List ByteArray) (w : World) (hown : OwnB B w v bs) (hu : Stay B v w u xs.length 1 (strs xs)) (hB : B ≤ w.heap.size) (hl : bs.length ≤ 1099511627776) (hl2 : xs.length ≤ 1048576) (hl3 : sumS xs ≤ 67108864) :
    Calls Tryz.prog 264 #[.agg #[], v, u] w fun e w' => PutAns B v w w' e (bs ++ strsB xs) := by
  have HU := hid hu
  obtain ⟨A, c, rfl⟩ := hown.form
  obtain ⟨A1, c1, rfl, _, _, _⟩ := hu.now.form
  have HOWN := hid hown
  obtain ⟨b0, hb0⟩ : ∃ b0, bs.length = b0 := ⟨_, rfl⟩
  have HB0 := hid hb0
  rw [hb0] at hl
  have hba : Below w.heap.size w (w.alloc (.cells #[] 66)) := (brefl w).alloc (Nat.le_refl _) _
  have HBA := hid hba
  obtain ⟨R, hR⟩ : ∃ R, bs ++ strsB xs = R := ⟨_, rfl⟩
  have HRR := hid hR
  rw [hR]
  clear hown hu hb0 hba hR
  go_enter Tryz.func264, Tryz.ntmps264
  go_wp2_with fail
  generalize w.alloc (.cells #[] 66) = w0 at *
  have hsz0 := HBA.out.size
  go_loopw [1, 7, 14] (fun r s i wr => ∃ t : Nat, t ≤ xs.length ∧ i = .int .i64 t ∧ s = .int .i64 (sumS (xs.take t) : Nat) ∧ Hid (OwnB B wr r (bs ++ le4N (endsL (xs.take t)))) ∧ Hid (Below B w wr) ∧ Hid (w.heap.size ≤ wr.heap.size) ∧ Hid (Kp (.slice A bs.length c) w wr r)) (fun _ _ i _ => xs.length - (intOf i).toNat)
  case atStart => exact ⟨0, by omega, rfl, rfl, hid (by simpa [le4N, endsL] using HOWN.out.below HBA.out), hid (HBA.out.mono hB), hid hsz0, hid (Kp.below HBA.out)⟩
  case round =>
    obtain ⟨t, ht, rfl, rfl, HOW, HB1, HS, HK⟩ := hrel
    by_cases hlt : t < xs.length
    · have HLEN : Hid ((bs ++ le4N (endsL (xs.take t))).length = b0 + 4 * t) := hid (by rw [List.length_append, le4N_len, endsL_len, List.length_take, Nat.min_eq_left ht, HB0.out])
      obtain ⟨A2, c2, rfl⟩ := HOW.out.form
      obtain ⟨b, o, rfl, hs⟩ := (HU.out wr _ HB1.out HK.out).atS (by omega)
      have e1 := hs t hlt
      have hsum : sumS (xs.take (t + 1)) = sumS (xs.take t) + (xs.getD t default).size := by
        rw [List.take_succ_eq_append_getElem hlt, sumS_snoc]; simp [List.getD, List.getElem?_eq_getElem hlt]
      have hsl := sumS_take_le xs (t + 1)
      have HST : Hid (bs ++ le4N (endsL (xs.take (t + 1))) = (bs ++ le4N (endsL (xs.take t))) ++ leN 4 (sumS (xs.take (t + 1)))) := hid (by
        rw [endsL_take xs t hlt, le4N_snoc, List.append_assoc])
      have HSUM := hid hsum
      clear hs
      generalize xs.getD t default = x at *
      obtain ⟨q, hq⟩ : ∃ q, sumS (xs.take (t + 1)) = q := ⟨_, rfl⟩
      rw [hq] at hsum hsl HST
      have HQ := hid hq
      have hqi : ((sumS (xs.take t) : Nat) : Int) + (x.size : Int) = (q : Int) := by omega
      clear hq hsum
      generalize bs ++ le4N (endsL (xs.take t)) = cs at *
      have HN := hid (AppendU32_any B _ cs q wr HOW.out (Nat.le_trans hB HS.out) (by omega) (by have := HLEN.out; omega))
      generalize cs ++ leN 4 q = R at *
      go_wp2_with (go_at_call 222; refine HN.out.mono ?_; rintro e w1 ⟨r, rfl, h1, h2, h3, h4⟩; obtain ⟨A3, c3, rfl⟩ := h1.form; have H1 := hid h1; have H2 := hid h2; have H3 := hid h3; have H4 := hid h4; clear h1 h2 h3 h4)
      go_roundw
      case rel => exact ⟨t + 1, by omega, by go_num, by rw [HQ.out], hid (by rw [HST.out]; exact H1.out), hid (Below.trans HB1.out H2.out), hid (Nat.le_trans HS.out H3.out), hid (HK.out.trans H4.out HS.out)⟩
      case measure => simp [intOf]; omega
    · obtain rfl : t = xs.length := by omega
      rw [List.take_length] at HOW
      have HLEN : Hid ((bs ++ le4N (endsL xs)).length = b0 + 4 * xs.length) := hid (by rw [List.length_append, le4N_len, endsL_len, HB0.out])
      have HFIN : Hid (R = (bs ++ le4N (endsL xs)) ++ textB xs) := hid (by rw [← HRR.out]; unfold strsB; rw [List.append_assoc])
      clear HRR
      generalize bs ++ le4N (endsL xs) = cs at *
      obtain ⟨A2, c2, rfl⟩ := HOW.out.form
      generalize sumS (xs.take xs.length) = q at *
      go_wp2_with fail
      have HW1 := hid (show wr.heap.size = wr.heap.size from rfl)
      go_loopw [1, 28] (fun r i wz => ∃ t : Nat, t ≤ xs.length ∧ i = .int .i64 t ∧ Hid (OwnB B wz r (cs ++ textB (xs.take t))) ∧ Hid (Below B w wz) ∧ Hid (w.heap.size ≤ wz.heap.size) ∧ Hid (Kp (.slice A bs.length c) w wz r)) (fun _ i _ => xs.length - (intOf i).toNat)
      case atStart => exact ⟨0, by omega, rfl, hid (by simpa [textB] using HOW.out), HB1, HS, HK⟩
      case round =>
        obtain ⟨t, ht, rfl, HOW2, HB2, HS2, HK2⟩ := hrel
        by_cases hlt : t < xs.length
        · have hsl := sumS_take_le xs (t + 1)
          have HL2 : Hid ((cs ++ textB (xs.take t)).length = b0 + 4 * xs.length + sumS (xs.take t)) := hid (by rw [List.length_append, textB_len, HLEN.out])
          have hsl2 := sumS_take_le xs t
          obtain ⟨A3, c3, rfl⟩ := HOW2.out.form
          obtain ⟨b, o, rfl, hs⟩ := (HU.out wr _ HB2.out HK2.out).atS (by omega)
          have e1 := hs t hlt
          have HST : Hid (cs ++ textB (xs.take (t + 1)) = (cs ++ textB (xs.take t)) ++ sbs (xs.getD t default)) := hid (by
            rw [List.take_succ_eq_append_getElem hlt, textB_snoc, List.append_assoc]
            simp [List.getD, List.getElem?_eq_getElem hlt])
          have hsum : sumS (xs.take (t + 1)) = sumS (xs.take t) + (xs.getD t default).size := by
            rw [List.take_succ_eq_append_getElem hlt, sumS_snoc]; simp [List.getD, List.getElem?_eq_getElem hlt]
          have HSZ := hid (show (xs.getD t default).size ≤ 67108864 by omega)
          have HL3 := hid (show sumS (xs.take t) ≤ 67108864 by omega)
          clear hs hsl hsl2 hsum
          generalize xs.getD t default = x at *
          generalize cs ++ textB (xs.take t) = ds at *
          have HM2 : Hid (ds.length + x.size ≤ 17592186044416) := hid (by have := HL2.out; have := HL3.out; have := HSZ.out; omega)
          have HB3 := hid (Nat.le_trans hB HS2.out)
          have HT := hid ht
          go_wp2_with (at_builtin; refine wpList_appendS rfl (.tmp 32) (.tmp 33) rfl rfl rfl HOW2.out HM2.out HB3.out ?_; intro v' w' h1 h2 h3 h4)
          have H1 := hid h1
          have H2 := hid h2
          have H3 := hid h3
          have H4 := hid h4
          clear h1 h2 h3 h4
          go_roundw
          case rel => exact ⟨t + 1, by omega, by go_num, hid (by rw [HST.out]; exact H1.out), hid (Below.trans HB2.out H2.out), hid (Nat.le_trans HS2.out H3.out), hid (HK2.out.trans H4.out HS2.out)⟩
          case measure => simp [intOf]; omega
        · obtain rfl : t = xs.length := by omega
          rw [List.take_length] at HOW2
          rw [← HFIN.out] at HOW2
          obtain ⟨A3, c3, rfl⟩ := HOW2.out.form
          go_wp2_with fail
          go_ret
          exact ⟨_, rfl, HOW2.out, HB2.out, HS2.out, HK2.out⟩
end Go.Proofs.YthonbfojpbfmgaaGreatDoor

/- The plain answer: lists of values and lanes put behind bytes. -/
set_option linter.unusedVariables false
set_option linter.unusedSimpArgs false
set_option linter.unnecessarySimpa false
set_option maxRecDepth 100000
namespace Go.Proofs.YthonbfojpbfmgaaGreatDoor
open Go.RowKit

def headB (kd : Nat) (vs : List PV) : List Nat := if kd = 1 then le8I (vs.map Prod.fst) else le4N (endsL (vs.map Prod.snd))
def listB (kd : Nat) (vs : List PV) : List Nat := headB kd vs ++ textB (vs.map Prod.snd)
theorem headB_len (kd : Nat) (vs : List PV) : (headB kd vs).length ≤ 8 * vs.length := by
  unfold headB; split
  · rw [le8I_len, List.length_map]; exact Nat.le_refl _
  · rw [le4N_len, endsL_len, List.length_map]; omega
end Go.Proofs.YthonbfojpbfmgaaGreatDoor

/- The plain answer: lanes put behind bytes. -/
set_option linter.unusedVariables false
set_option linter.unusedSimpArgs false
set_option linter.unnecessarySimpa false
set_option maxRecDepth 100000
namespace Go.Proofs.YthonbfojpbfmgaaGreatDoor
open Go.RowKit

theorem okVals_iff (wd : Int) (xs : List Nat) : okVals wd xs = true ↔ (0 ≤ wd ∧ wd ≤ 64 ∧ xs.length ≤ 65536) ∧ ∀ x ∈ xs, x < 2 ^ wd.toNat := by
  unfold okVals okLim
  simp only [Bool.and_eq_true, decide_eq_true_eq, List.all_eq_true]
  constructor
  · rintro ⟨h1, h2⟩; exact ⟨by omega, h2⟩
  · rintro ⟨h1, h2⟩; exact ⟨by omega, h2⟩
theorem packR_lt64 (wd : Int) (xs : List Nat) : ∀ x ∈ packR wd xs, x < 18446744073709551616 := by
  unfold packR
  intro x hx
  split at hx
  · rename_i h
    obtain ⟨h1, h2⟩ := (okVals_iff wd xs).1 h
    exact isPack_lt (L.pack_isPack (w := wd.toNat) (by omega) xs h2) x hx
  · cases hx
theorem packR_le (wd : Int) (xs : List Nat) (hl : xs.length ≤ 1048576) : (packR wd xs).length ≤ 1048576 := by
  unfold packR
  split
  · rename_i h
    obtain ⟨h1, h2⟩ := (okVals_iff wd xs).1 h
    have := L.nWords_le (w := wd.toNat) (n := xs.length) (by omega)
    rw [show (L.packL wd.toNat xs).length = L.nWords wd.toNat xs.length by simp [L.packL]]
    omega
  · simp
end Go.Proofs.YthonbfojpbfmgaaGreatDoor

/- Whether cells are of a kind, codecs for it; the values among cells. -/
set_option linter.unusedVariables false
set_option linter.unusedSimpArgs false
set_option linter.unnecessarySimpa false
set_option maxRecDepth 100000
namespace Go.Proofs.YthonbfojpbfmgaaGreatDoor
open Go.RowKit

/-- is a cell of the kind? -/
def ofK (k : Int) (c : C3) : Bool :=
  if c.n = true then isKind k && (decide (c.i = 0) && c.s.toList.isEmpty) else if k = 1 then c.s.toList.isEmpty else decide (k = 2 ∧ c.i = 0 ∧ c.s.size ≤ 1024)
set_option maxHeartbeats 1000000 in
theorem ofKind_any (c : C3) (k : Int) (w : World) : Calls Tryz.prog 131 #[.int .i64 k, c.v] w fun e w' => e = .returned (.bool (ofK k c)) ∧ Below w.heap.size w w' := by
  obtain ⟨b, i, s⟩ := c
  unfold C3.v ofK
  simp only
  have HK := hid (fun w2 : World => IsKind_any k w2)
  generalize isKind k = kk at *
  go_enter Tryz.func131, Tryz.ntmps131
  cases b
  · clear HK
    by_cases h1 : k = 1
    · go_wp2
      go_ret
      exact ⟨ret_bool (by simp [h1]), (brefl w).alloc (Nat.le_refl _) _⟩
    · by_cases h2 : k = 2
      · subst h2
        by_cases h3 : i = 0
        · by_cases h4 : (s.size : Int) ≤ 1024 <;> go_wp2 <;> (go_ret; exact ⟨ret_bool (by simp [*]; omega), (brefl w).alloc (Nat.le_refl _) _⟩)
        · go_wp2
          go_ret
          exact ⟨ret_bool (by simp [*]), (brefl w).alloc (Nat.le_refl _) _⟩
      · go_wp2
        go_ret
        exact ⟨ret_bool (by simp [*]), (brefl w).alloc (Nat.le_refl _) _⟩
  · cases kk
    · go_wp2_with (go_at_call 27; refine (HK.out _).mono ?_; rintro e w1 ⟨rfl, hw⟩; replace hw := hw.symm; subst hw)
      go_ret
      exact ⟨ret_bool (by simp), (brefl w).alloc (Nat.le_refl _) _⟩
    · go_wp2_with (go_at_call 27; refine (HK.out _).mono ?_; rintro e w1 ⟨rfl, hw⟩; replace hw := hw.symm; subst hw)
      all_goals (go_ret; exact ⟨ret_bool (by simp [*]), (brefl w).alloc (Nat.le_refl _) _⟩)

def isWd (c wd : Int) : Bool := if c = 4 ∨ c = 5 then decide (0 ≤ wd ∧ wd ≤ 64) else decide (wd = 0)
theorem IsWidth_any (c wd : Int) (w : World) : Calls Tryz.prog 75 #[.int .i64 c, .int .i64 wd] w fun e w' => e = .returned (.bool (isWd c wd)) ∧ w' = w := by
  unfold isWd
  by_cases h4 : c = 4
  · subst h4
    rw [if_pos (.inl rfl)]
    go_enter Tryz.func75, Tryz.ntmps75
    by_cases h1 : 0 ≤ wd <;> by_cases h2 : wd ≤ 64 <;> go_wp2 <;> (go_ret; exact ⟨ret_bool (by simp [*]), rfl⟩)
  by_cases h5 : c = 5
  · subst h5
    rw [if_pos (.inr rfl)]
    go_enter Tryz.func75, Tryz.ntmps75
    by_cases h1 : 0 ≤ wd <;> by_cases h2 : wd ≤ 64 <;> go_wp2 <;> (go_ret; exact ⟨ret_bool (by simp [*]), rfl⟩)
  rw [if_neg (by omega)]
  have e4 : (c == 4) = false := by simp [h4]
  have e5 : (c == 5) = false := by simp [h5]
  go_enter Tryz.func75, Tryz.ntmps75
  go_wp2
  all_goals (go_ret; exact ⟨ret_bool (by by_cases h : wd = 0 <;> simp [h]), rfl⟩)
theorem Rd.at3 {w : World} {D : Option Addr} {n m cd : Nat} {cs : List C3} (h : Rd w (.slice D n cd) m 3 (cells3 cs)) (h0 : 0 < m) : ∃ b o, D = some ⟨b, o, none⟩ ∧
    ∀ k, k < cs.length → w.cell? ⟨b, o + k * 3, none⟩ = some (.bool (cs.getD k C3.df).n) ∧ w.cell? ⟨b, o + k * 3 + 1, none⟩ = some (.int .i64 (cs.getD k C3.df).i) ∧ w.cell? ⟨b, o + k * 3 + 2, none⟩ = some (.string (cs.getD k C3.df).s) := by
  rcases h.2 with ⟨_, rfl⟩ | ⟨b, o, cap', he, _, _, hs⟩
  · exact absurd h0 (Nat.lt_irrefl 0)
  · injection he with e1 e2 e3
    exact ⟨b, o, e1, fun k hk => hs.c3 k hk⟩
def areC (k : Int) (cs : List C3) : Bool := isKind k && isRows cs.length && cs.all (ofK k)
set_option maxHeartbeats 2000000 in
theorem AreCells_any (k : Int) (u : Value) (cs : List C3) (w : World) (hu : Rd w u cs.length 3 (cells3 cs)) (hl : cs.length ≤ 1048576) :
    Calls Tryz.prog 73 #[.int .i64 k, u] w fun e w' => e = .returned (.bool (areC k cs)) ∧ Below w.heap.size w w' := by
  have HU := hid hu
  have HK := hid (IsKind_any k w)
  have HR := hid (IsRows_any cs.length w)
  obtain ⟨A1, c1, rfl, _, _, _⟩ := hu.form
  clear hu
  obtain ⟨R, hR⟩ : ∃ R, areC k cs = R := ⟨_, rfl⟩
  have HRR := hid hR
  rw [hR]
  unfold areC at HRR
  clear hR
  generalize isKind k = bk at *
  generalize isRows cs.length = br at *
  have HBAD : Hid (∀ t, t < cs.length → ofK k (cs.getD t C3.df) = false → cs.all (ofK k) = false) := hid (fun t ht h => by
    rw [← Bool.not_eq_true]
    intro h2
    rw [List.all_eq_true] at h2
    have := h2 (cs.getD t C3.df) (by simp [List.getD, List.getElem?_eq_getElem ht])
    rw [h] at this; cases this)
  have HGOOD : Hid ((∀ t, t < cs.length → ofK k (cs.getD t C3.df) = true) → cs.all (ofK k) = true) := hid (fun h => by
    rw [List.all_eq_true]
    intro x hx
    obtain ⟨t, ht, rfl⟩ := List.getElem_of_mem hx
    have := h t ht
    simpa [List.getD, List.getElem?_eq_getElem ht] using this)
  generalize cs.all (ofK k) = al at *
  go_enter Tryz.func73, Tryz.ntmps73
  cases bk
  · go_wp2_with (go_at_call 27; refine HK.out.mono ?_; rintro e w1 ⟨rfl, hw⟩; replace hw := hw.symm; subst hw)
    go_ret
    exact ⟨ret_bool (by rw [← HRR.out]; simp), brefl w⟩
  cases br
  · go_wp2_with (first | (go_at_call 27; refine HK.out.mono ?_; rintro e w1 ⟨rfl, hw⟩; replace hw := hw.symm; subst hw) | (go_at_call 28; refine HR.out.mono ?_; rintro e w1 ⟨rfl, hw⟩; replace hw := hw.symm; subst hw))
    go_ret
    exact ⟨ret_bool (by rw [← HRR.out]; simp), brefl w⟩
  go_wp2_with (first | (go_at_call 27; refine HK.out.mono ?_; rintro e w1 ⟨rfl, hw⟩; replace hw := hw.symm; subst hw) | (go_at_call 28; refine HR.out.mono ?_; rintro e w1 ⟨rfl, hw⟩; replace hw := hw.symm; subst hw))
  go_loopw [18] (fun i wr => ∃ t : Nat, t ≤ cs.length ∧ i = .int .i64 t ∧ Hid (∀ z, z < t → ofK k (cs.getD z C3.df) = true) ∧ Hid (Below w.heap.size w wr)) (fun i _ => cs.length - (intOf i).toNat)
  case atStart => exact ⟨0, by omega, rfl, hid (fun z h => absurd h (Nat.not_lt_zero z)), hid (brefl w)⟩
  case round =>
    obtain ⟨t, ht, rfl, HALL, HB⟩ := hrel
    by_cases hlt : t < cs.length
    · obtain ⟨b, o, rfl, hcells⟩ := (HU.out.mono HB.out).at3 (by omega)
      obtain ⟨l0, l1, l2⟩ := hcells t hlt
      have HO := hid (fun w2 : World => ofKind_any (cs.getD t C3.df) k w2)
      have HN : Hid (ofK k (cs.getD t C3.df) = true → ∀ z, z < t + 1 → ofK k (cs.getD z C3.df) = true) := hid (fun h z hz => by
        by_cases hzt : z = t
        · subst hzt; exact h
        · exact HALL.out z (by omega))
      have HBD := hid (HBAD.out t hlt)
      clear hcells
      unfold C3.v at HO
      generalize ofK k (cs.getD t C3.df) = ok at *
      generalize (cs.getD t C3.df).n = xa at *
      generalize (cs.getD t C3.df).i = xb at *
      generalize (cs.getD t C3.df).s = xc at *
      have HBA := hid ((brefl wr).alloc (Nat.le_refl _) (.cells #[.bool xa, .int .i64 xb, .string xc] 42))
      cases ok
      · have HBF := hid (HBD.out rfl)
        clear HBD HN
        go_wp2_with (go_at_call 131; refine (HO.out _).mono ?_; rintro e w1 ⟨rfl, hb1⟩; have HB1 := hid (bthen HBA.out hb1); clear hb1)
        go_ret
        exact ⟨ret_bool (by rw [← HRR.out, HBF.out]; simp), bthen HB.out HB1.out⟩
      · have HN2 := hid (HN.out rfl)
        go_wp2_with (go_at_call 131; refine (HO.out _).mono ?_; rintro e w1 ⟨rfl, hb1⟩; have HB1 := hid (bthen HBA.out hb1); clear hb1)
        go_roundw
        case rel => exact ⟨t + 1, by omega, by go_num, HN2, hid (bthen HB.out HB1.out)⟩
        case measure => simp [intOf]; omega
    · obtain rfl : t = cs.length := by omega
      go_wp2_with fail
      go_ret
      exact ⟨ret_bool (by rw [← HRR.out, HGOOD.out HALL.out]; simp), HB.out⟩
end Go.Proofs.YthonbfojpbfmgaaGreatDoor

/- The plain answer: the values among cells, their extremes. -/
set_option linter.unusedVariables false
set_option linter.unusedSimpArgs false
set_option linter.unnecessarySimpa false
set_option maxRecDepth 100000
namespace Go.Proofs.YthonbfojpbfmgaaGreatDoor
open Go.RowKit

def valsOf (cs : List C3) : List PV := (cs.filter fun c => !c.n).map fun c => (c.i, c.s)
theorem valsOf_snoc (cs : List C3) (c : C3) : valsOf (cs ++ [c]) = valsOf cs ++ (if c.n = true then [] else [(c.i, c.s)]) := by
  unfold valsOf
  rw [List.filter_append, List.map_append]
  congr 1
  cases h : c.n <;> simp [h]
theorem valsOf_len (cs : List C3) : (valsOf cs).length ≤ cs.length := by
  unfold valsOf; rw [List.length_map]; exact List.length_filter_le _ _
theorem valsOf_take_len (cs : List C3) (t : Nat) (ht : t ≤ cs.length) : (valsOf (cs.take t)).length ≤ t := by
  have := valsOf_len (cs.take t); rw [List.length_take] at this; omega
theorem take_snoc {α : Type} (cs : List α) (d : α) (t : Nat) (h : t < cs.length) : cs.take (t + 1) = cs.take t ++ [cs.getD t d] := by
  rw [List.take_succ_eq_append_getElem h]; simp [List.getD, List.getElem?_eq_getElem h]
end Go.Proofs.YthonbfojpbfmgaaGreatDoor

/- The plain answer: runs put into bytes. -/
set_option linter.unusedVariables false
set_option linter.unusedSimpArgs false
set_option linter.unnecessarySimpa false
set_option maxRecDepth 100000
namespace Go.Proofs.YthonbfojpbfmgaaGreatDoor
open Go.RowKit

/-- append of one entry of three cells, and where the answer lies -/
theorem wpList_append3K {P : Program} {w : World} {ops : Array Oper} {rest : List Oper} {o : Oper} {a : Act} {Q : Exit → Act → World → Prop} {t : TypeId} {x y z v : Value} {B n : Nat} {xs : List Value}
    (hgd : o.guard = none) (s r : Operand) (ho : o.op = .call { callee := .builtin .append, args := #[s, r], argTypes := #[t, t] })
    (e : TypeId) (zs : List Value) (bytes : Nat) (h1 : P.underlying t = some (.slice e)) (h2 : (P.info? e).map (fun i => (i.zero, i.size, i.bytes)) = some (some (.agg zs.toArray), 3, bytes)) (hz : zs.length = 3)
    (hs : a.eval s = v) (hx : a.eval r = .slice (some ⟨w.heap.size, 0, none⟩) 1 1)
    (hown : w.ownsRow B e 3 v n xs) (hB : B ≤ w.heap.size) (hu : ∀ u ∈ [x, y, z], u.oneCell' = true) (hm : n + 1 ≤ maxLen) (hby : (n + 1) * bytes ≤ 140737488355328)
    (hK : ∀ v' w', w'.ownsRow B e 3 v' (n + 1) (xs ++ [x, y, z]) → Below B w w' → w.heap.size ≤ w'.heap.size → Kp v w w' v' → wpList P ops Q rest (a.put o.dst v') w') :
    wpList P ops Q (o :: rest) a (w.alloc (.cells #[x, y, z] e)) := by
  refine wpList_plain hgd fun K hK' => ?_
  unfold Oper.wp execOp
  simp only [ho, resolve, invoke, builtin, Sem.run_bind, Sem.run_pure, Result.andThen_ok, List.map_toArray, List.map_cons, List.map_nil, hs, hx]
  obtain ⟨i, hi, hz0, hz1, hz2⟩ := info_parts h2
  have hzz : ((Value.agg zs.toArray).cells.size = 3) := by simpa [Value.cells] using hz
  obtain ⟨v', w', hr, h3, h4, _⟩ := run_append_own (P := P) (w := w.alloc (.cells #[x, y, z] e)) B t o.type e i (.agg zs.toArray) 3 bytes h1 hi hz0 hz1 hz2 hzz (by omega) v n xs (hown.alloc _)
    ⟨w.heap.size, 0, none⟩ 1 1 [x, y, z] rfl (cell_new3 w x y z e) hu hm hby (by simp; omega)
  obtain ⟨v2, w2, hr2, h5⟩ := append_where (P := P) (w := w.alloc (.cells #[x, y, z] e)) B t o.type e i (.agg zs.toArray) 3 bytes h1 hi hz0 hz1 hz2 hzz (by omega) v n xs (hown.alloc _)
    ⟨w.heap.size, 0, none⟩ 1 1 [x, y, z] rfl (cell_new3 w x y z e) hu hm hby (by omega)
  rw [hr] at hr2
  injection hr2 with e1 e2
  subst e1 e2
  have hlt := hown.lt
  refine upon_ok hr (hK' _ _ (hK _ _ h3 ?_ ?_ ⟨?_, ?_⟩))
  · refine (((Below.refl B w).alloc hB _).grown h4 (by simp; omega) ?_)
    intro k hk; exact (hlt k hk).1
  · have := h4.size; simp at this; omega
  · intro k hk hne
    rw [h4.block k (by simp; omega) hne]
    exact heap_alloc_old w _ hk
  · intro k hk
    rcases h5 with h5 | ⟨h5, h6⟩
    · exact .inl (by rw [← h5]; exact hk.symm)
    · rw [h5] at hk; simp at hk; exact .inr (by omega)
/-- two lists in blocks of their own -/
def Apart (a b : Value) : Prop := ∀ k, a.ownBlock = some k → b.ownBlock ≠ some k
theorem Apart.left {a b r : Value} {w w' : World} (h : Apart a b) (hk : Kp a w w' r) (hb : ∀ k, b.ownBlock = some k → k < w.heap.size) : Apart r b := by
  intro k h1 h2
  rcases hk.2 k h1 with h3 | h3
  · exact h k h3.symm h2
  · have := hb k h2; omega
theorem Apart.right {a b r : Value} {w w' : World} (h : Apart a b) (hk : Kp b w w' r) (ha : ∀ k, a.ownBlock = some k → k < w.heap.size) : Apart a r := by
  intro k h1 h2
  rcases hk.2 k h2 with h3 | h3
  · exact h k h1 h3.symm
  · have := ha k h1; omega
theorem owns_kp {a b r : Value} {w w' : World} {B sz n : Nat} {e : TypeId} {cs : List Value} (h : w.ownsRow B e sz b n cs) (hk : Kp a w w' r) (hap : Apart a b) : w'.ownsRow B e sz b n cs :=
  owns_keep h (fun k hb => hk.1 k (h.lt k hb).2 (fun he => hap k he.symm hb))

/-- the places where a run ends -/
def endAt (vs : List PV) (i : Nat) : Bool := decide (i + 1 = vs.length) || !eqP (vs.getD i dfP) (vs.getD (i + 1) dfP)
def endIx (vs : List PV) (t : Nat) : List Nat := (List.range t).filter (endAt vs)
def runEndsL (vs : List PV) (t : Nat) : List Nat := (endIx vs t).map (· + 1)
def runHeads (vs : List PV) (t : Nat) : List PV := (endIx vs t).map fun i => vs.getD i dfP
def runsB (kd : Nat) (vs : List PV) : List Nat := leN 4 (runEndsL vs vs.length).length ++ le4N (runEndsL vs vs.length) ++ listB kd (runHeads vs vs.length)
theorem endIx_succ (vs : List PV) (t : Nat) : endIx vs (t + 1) = if endAt vs t = true then endIx vs t ++ [t] else endIx vs t := by
  unfold endIx; rw [List.range_succ, List.filter_append]
  by_cases h : endAt vs t = true
  · rw [if_pos h]; simp [h]
  · rw [if_neg h]; simp [h]
theorem endIx_len (vs : List PV) (t : Nat) : (endIx vs t).length ≤ t := by
  have h := List.length_filter_le (endAt vs) (List.range t)
  rwa [List.length_range] at h
theorem runEndsL_succ (vs : List PV) (t : Nat) : runEndsL vs (t + 1) = if endAt vs t = true then runEndsL vs t ++ [t + 1] else runEndsL vs t := by
  unfold runEndsL; rw [endIx_succ]; split <;> simp
theorem runHeads_succ (vs : List PV) (t : Nat) : runHeads vs (t + 1) = if endAt vs t = true then runHeads vs t ++ [vs.getD t dfP] else runHeads vs t := by
  unfold runHeads; rw [endIx_succ]; split <;> simp
theorem runEndsL_len (vs : List PV) (t : Nat) : (runEndsL vs t).length ≤ t := by unfold runEndsL; rw [List.length_map]; exact endIx_len vs t
theorem runHeads_len (vs : List PV) (t : Nat) : (runHeads vs t).length = (runEndsL vs t).length := by unfold runHeads runEndsL; simp
theorem runEndsL_lt (vs : List PV) (t : Nat) : ∀ x ∈ runEndsL vs t, x ≤ t := by
  intro x hx
  simp only [runEndsL, endIx, List.mem_map, List.mem_filter, List.mem_range] at hx
  obtain ⟨a, ⟨h, _⟩, rfl⟩ := hx
  omega
def sumT (vs : List PV) : Nat := sumS (vs.map Prod.snd)
theorem sumT_cons (v : PV) (r : List PV) : sumT (v :: r) = v.2.size + sumT r := by simp [sumT, sumS]
theorem range_sub_sum (vs : List PV) (p : Nat → Bool) : sumT (((List.range vs.length).filter p).map fun i => vs.getD i dfP) ≤ sumT vs := by
  have key : ∀ (ws : List PV) (t : Nat), t ≤ ws.length → sumT (((List.range t).filter p).map fun i => ws.getD i dfP) ≤ sumT (ws.take t) := by
    intro ws t
    induction t with
    | zero => intro _; simp [sumT, sumS]
    | succ t ih =>
      intro ht
      have h1 := ih (by omega)
      have h2 : sumT (ws.take (t + 1)) = sumT (ws.take t) + (ws.getD t dfP).2.size := by
        rw [take_snoc ws dfP t (by omega)]; unfold sumT; rw [List.map_append, List.map_cons, List.map_nil, sumS_snoc]
      rw [List.range_succ, List.filter_append, List.map_append]
      have h3 : sumT (((List.range t).filter p).map (fun i => ws.getD i dfP) ++ ([t].filter p).map (fun i => ws.getD i dfP)) ≤ sumT (((List.range t).filter p).map (fun i => ws.getD i dfP)) + (ws.getD t dfP).2.size := by
        by_cases h : p t = true
        · simp [h, sumT, sumS]
        · simp [h, sumT, sumS]
      omega
  have h := key vs vs.length (Nat.le_refl _)
  rwa [List.take_length] at h
theorem runHeads_sum (vs : List PV) : sumT (runHeads vs vs.length) ≤ sumT vs := range_sub_sum vs _
theorem Apart.symm {a b : Value} (h : Apart a b) : Apart b a := fun k h1 h2 => h k h2 h1
theorem owns_low {w : World} {B B' sz : Nat} {e : TypeId} {v : Value} {n : Nat} {xs : List Value} (h : w.ownsRow B e sz v n xs) (hb : B' ≤ B) : w.ownsRow B' e sz v n xs := by
  refine ⟨h.1, ?_⟩
  rcases h.2 with h | ⟨g, cap, cur, rfl, h1, h2, r⟩
  · exact .inl h
  · exact .inr ⟨g, cap, cur, rfl, Nat.le_trans hb h1, h2, r⟩
theorem Kp.cell {v r x : Value} {w w' : World} (h : Kp v w w' r) {q o : Nat} (hc : w.cell? ⟨q, o, none⟩ = some x) (hne : some q ≠ v.ownBlock) : w'.cell? ⟨q, o, none⟩ = some x := by
  rw [World.cell?_of_block (h.1 q (World.block_lt_of_cell? w _ hc) hne)]; exact hc
end Go.Proofs.YthonbfojpbfmgaaGreatDoor
