/- The law's own test that lists of words share no memory. -/
import Derived.Test.YtinkbgnhigpkeaaDoorOwn
set_option linter.unusedVariables false
set_option linter.unusedSimpArgs false
set_option linter.unnecessarySimpa false
set_option maxRecDepth 20000
namespace Go.Proofs.YtinkbgnhigpkeaaDoor
open Go.RowKit

theorem Tryd.infoWs : (Tryd.prog.info? 22).map (fun i => (i.zero, i.size, i.bytes)) = some (some (.slice none 0 0), 1, 24) := by kernel_rfl
/-- behind i of the lists: those lists and the lengthened ones bear their numbers, the others stand, and no two lie in one block -/
structure OwS (B s : Nat) (v : Value) (L : List Value) (N : Nat → Nat) (X : Nat → List Value) (w0 : World) (i : Nat) (vl : Value) (ls : List Value) (w : World) : Prop where
  rdv : Rd w v L.length 1 L
  lon : w.ownsRow w0.heap.size 22 1 vl i ls
  mine : ∀ j, i ≤ j → j < L.length → w.ownsRow B 55 1 (L.getD j undef) (N j) (X j)
  done : ∀ j, j < i → Rd w (L.getD j undef) (N j) 1 (marked j (N j)) ∧ Rd w (ls.getD j undef) (N j + s) 1 (marked j (N j + s))
  apart : ∀ j, j < i → ∀ k, (L.getD j undef).ownBlock = some k ∨ (ls.getD j undef).ownBlock = some k → k < w.heap.size ∧ vl.ownBlock ≠ some k ∧ ∀ j', i ≤ j' → j' < L.length → (L.getD j' undef).ownBlock ≠ some k
  bel : Below B w0 w
  size : w0.heap.size ≤ w.heap.size
theorem getD_snoc_lt (ls : List Value) (x : Value) (j : Nat) (h : j < ls.length) : (ls ++ [x]).getD j undef = ls.getD j undef := by simp [List.getD, List.getElem?_append_left h]
theorem getD_snoc_eq (ls : List Value) (x : Value) (j : Nat) (h : j = ls.length) : (ls ++ [x]).getD j undef = x := by subst h; simp [List.getD]
theorem OwS.step {B s : Nat} {v : Value} {L : List Value} {N : Nat → Nat} {X : Nat → List Value} {w0 wa wc w' : World} {t u cd cd7 : Nat} {D D7 : Option Addr} {vl vl' : Value} {ls : List Value}
    (h : OwS B s v L N X w0 t vl ls wa) (ht : t < L.length) (hLt : L.getD t undef = .slice D u cd) (hm : N t = u) (hsz : wa.heap.size ≤ wc.heap.size)
    (hel : ∀ k, k < wa.heap.size → (Value.slice D u cd).ownBlock ≠ some k → wc.heap[k]? = wa.heap[k]?)
    (hrd : Rd wc (.slice D u cd) u 1 (marked t u)) (ho7 : wc.ownsRow B 55 1 (.slice D7 (u + s) cd7) (u + s) (marked t (u + s)))
    (hw7 : ∀ k, (Value.slice D7 (u + s) cd7).ownBlock = some k → (Value.slice D u cd).ownBlock = some k ∨ wa.heap.size ≤ k)
    (hlon : w'.ownsRow w0.heap.size 22 1 vl' (t + 1) (ls ++ [.slice D7 (u + s) cd7])) (hsz' : wc.heap.size ≤ w'.heap.size)
    (hk' : ∀ k, k < wc.heap.size → some k ≠ vl.ownBlock → w'.heap[k]? = wc.heap[k]?)
    (hw' : vl'.ownBlock = vl.ownBlock ∨ ((∀ k, vl'.ownBlock = some k → wc.heap.size ≤ k) ∧ ∀ k, k < wc.heap.size → w'.heap[k]? = wc.heap[k]?)) (hbel : Below B w0 w')
    (hLT : ∀ j, j < L.length → ∀ k, (L.getD j undef).ownBlock = some k → k < w0.heap.size) (hSEP : ∀ i j, i < j → j < L.length → ∀ k, (L.getD i undef).ownBlock = some k → (L.getD j undef).ownBlock ≠ some k)
    (hV : ∀ k, v.ownBlock = some k → ∀ j, j < L.length → (L.getD j undef).ownBlock ≠ some k) (hvlt : ∀ k, v.ownBlock = some k → k < w0.heap.size) :
    OwS B s v L N X w0 (t + 1) vl' (ls ++ [.slice D7 (u + s) cd7]) w' := by
  have h0 := h.size
  have hll : ls.length = t := by have := h.lon.1; omega
  have hvl : ∀ k, vl.ownBlock = some k → w0.heap.size ≤ k ∧ k < wa.heap.size := h.lon.lt
  have hvl' : ∀ k, vl'.ownBlock = some k → w0.heap.size ≤ k ∧ k < w'.heap.size := hlon.lt
  have key : ∀ k, k < wa.heap.size → (Value.slice D u cd).ownBlock ≠ some k → vl.ownBlock ≠ some k → w'.heap[k]? = wa.heap[k]? := fun k h1 h2 h3 =>
    (hk' k (Nat.lt_of_lt_of_le h1 hsz) (fun e => h3 e.symm)).trans (hel k h1 h2)
  have hLtk : ∀ k, (Value.slice D u cd).ownBlock = some k → k < w0.heap.size := fun k hk => hLT t ht k (by rw [hLt]; exact hk)
  have hold : ∀ k, k < w0.heap.size → vl.ownBlock ≠ some k := fun k hk e => by have := (hvl k e).1; omega
  have hold' : ∀ k, k < w0.heap.size → vl'.ownBlock ≠ some k := fun k hk e => by have := (hvl' k e).1; omega
  have hin' : ∀ k, k < wc.heap.size → vl.ownBlock ≠ some k → vl'.ownBlock ≠ some k := fun k hk hne e => by
    rcases hw' with h' | ⟨h', _⟩
    · exact hne (h'.symm.trans e)
    · have := h' k e; omega
  refine ⟨?_, hlon, ?_, ?_, ?_, hbel, by omega⟩
  · refine h.rdv.keep fun k hk => ?_
    have hkl := hvlt k hk
    exact key k (by omega) (fun e => hV k hk t ht (by rw [hLt]; exact e)) (hold k hkl)
  · intro j hj hjl
    refine owns_keep (h.mine j (by omega) hjl) fun k hk => ?_
    have hkl := hLT j hjl k hk
    exact key k (by omega) (fun e => hSEP t j (by omega) hjl k (by rw [hLt]; exact e) hk) (hold k hkl)
  · intro j hj
    by_cases hjt : j < t
    · obtain ⟨d1, d2⟩ := h.done j hjt
      have ap := h.apart j hjt
      rw [getD_snoc_lt _ _ _ (by omega)]
      constructor
      · refine d1.keep fun k hk => ?_
        obtain ⟨p1, p2, p3⟩ := ap k (.inl hk)
        exact key k p1 (by rw [← hLt]; exact p3 t (Nat.le_refl _) ht) p2
      · refine d2.keep fun k hk => ?_
        obtain ⟨p1, p2, p3⟩ := ap k (.inr hk)
        exact key k p1 (by rw [← hLt]; exact p3 t (Nat.le_refl _) ht) p2
    · obtain rfl : j = t := by omega
      rw [getD_snoc_eq _ _ _ hll.symm, hLt, hm]
      constructor
      · refine hrd.keep fun k hk => ?_
        have hkl := hLtk k hk
        exact hk' k (by omega) (fun e => hold k hkl e.symm)
      · refine (owns_rd ho7).keep fun k hk => ?_
        have hk2 := (ho7.lt k hk).2
        refine hk' k hk2 fun e => ?_
        rcases hw7 k hk with h1 | h1
        · exact hold k (hLtk k h1) e.symm
        · have := (hvl k e.symm).2; omega
  · intro j hj k hk
    by_cases hjt : j < t
    · rw [getD_snoc_lt _ _ _ (by omega)] at hk
      obtain ⟨p1, p2, p3⟩ := h.apart j hjt k hk
      exact ⟨by omega, hin' k (by omega) p2, fun j' h1 h2 => p3 j' (by omega) h2⟩
    · obtain rfl : j = t := by omega
      rw [getD_snoc_eq _ _ _ hll.symm, hLt] at hk
      have hcase : (Value.slice D u cd).ownBlock = some k ∨ (wa.heap.size ≤ k ∧ k < wc.heap.size) := by
        rcases hk with hk | hk
        · exact .inl hk
        · rcases hw7 k hk with h1 | h1
          · exact .inl h1
          · exact .inr ⟨h1, (ho7.lt k hk).2⟩
      rcases hcase with h1 | ⟨h1, h2⟩
      · have hkl := hLtk k h1
        exact ⟨by omega, hold' k hkl, fun j' hj' hl' => hSEP j j' (by omega) hl' k (by rw [hLt]; exact h1)⟩
      · refine ⟨by omega, hin' k h2 (fun e => by have := (hvl k e).2; omega), fun j' hj' hl' e => ?_⟩
        have := hLT j' hl' k e
        omega
theorem one_cell {w : World} {B n sz : Nat} {e : TypeId} {v : Value} {xs : List Value} (h : w.ownsRow B e sz v n xs) : v.oneCell' = true := by
  rcases h.2 with ⟨rfl, _⟩ | ⟨g, cap, cur, rfl, _⟩ <;> rfl
theorem mk_walk (i : Nat) (hi : i ≤ 1048576) : bits BinOp.xor IntKind.u64 IntKind.u64.max (501 + (i : Int)) = ((18446744073709551615 - (501 + i) : Nat) : Int) := not_u64 _ (501 + i) (by omega) (by omega)
set_option maxHeartbeats 4000000 in
theorem ownWords_any (B : Nat) (v : Value) (L : List Value) (N : Nat → Nat) (X : Nat → List Value) (r : Int) (w : World) (hx : Rd w v L.length 1 L) (hB : B ≤ w.heap.size) (hnL : L.length ≤ 1048576) (hN : ∀ j, N j ≤ 1099511627776)
    (hown : ∀ j, j < L.length → w.ownsRow B 55 1 (L.getD j undef) (N j) (X j))
    (hsep : ∀ i j, i < j → j < L.length → ∀ k, (L.getD i undef).ownBlock = some k → (L.getD j undef).ownBlock ≠ some k)
    (hv : ∀ k, v.ownBlock = some k → ∀ j, j < L.length → (L.getD j undef).ownBlock ≠ some k) :
    Calls Tryd.prog 10 #[v, .int .i64 r] w fun e w' => e = .returned (.bool true) ∧ Below B w w' := by
  obtain ⟨s, hs⟩ : ∃ s, shareN r L.length = s := ⟨_, rfl⟩
  have hs2 : s ≤ 1024 := by rw [← hs]; exact shareN_le _ _
  have HSH : Hid (∀ w2 : World, Calls Tryd.prog 34 #[.int .i64 r, .int .i64 (L.length : Int)] w2 fun e w' => e = .returned (.int .i64 (s : Nat)) ∧ ∃ m, w' = w2.drewN m) := hid (fun w2 => by have := share_any r L.length w2 hnL; rw [hs] at this; exact this)
  have hvlt : Hid (0 < L.length → ∀ k, v.ownBlock = some k → k < w.heap.size) := hid (fun h0 k hk => by
    obtain ⟨A, cap, rfl, _, _, hA⟩ := hx.form
    obtain ⟨b, o, rfl, hseg⟩ := hA h0
    simp [Value.ownBlock] at hk
    subst hk
    exact World.block_lt_of_cell? w _ (hseg 0 _ (List.getElem?_eq_getElem h0)))
  have HS0 : Hid (OwS B s v L N X w 0 (.slice none 0 0) [] w) := hid ⟨hx, World.ownsRow_nil _ _ _ _, fun j _ h => hown j h, fun j h => absurd h (Nat.not_lt_zero j), fun j h => absurd h (Nat.not_lt_zero j), Below.refl _ _, Nat.le_refl _⟩
  have HLT : Hid (∀ j, j < L.length → ∀ k, (L.getD j undef).ownBlock = some k → k < w.heap.size) := hid (fun j hj k hk => ((hown j hj).lt k hk).2)
  have HSEP := hid hsep; have HV := hid hv; have HN := hid hN
  obtain ⟨A, cap, rfl, hlc, hcm, _⟩ := hx.form
  clear hx hown hsep hv hN hs
  obtain ⟨n, hn⟩ : ∃ n, L.length = n := ⟨_, rfl⟩
  have HL := hid hn
  rw [hn] at hnL hlc HSH hvlt HLT HSEP HV ⊢
  rw [hn] at HS0
  clear hn
  go_enter Tryd.func10, Tryd.ntmps10
  go_wp2_with fail
  go_loopw [5, 17] (fun v5 i wr => ∃ (t : Nat) (ls : List Value), t ≤ n ∧ i = .int .i64 t ∧ Hid (OwS B s (.slice A n cap) L N X w t v5 ls wr)) (fun _ i _ => n - (intOf i).toNat)
  case atStart => exact ⟨0, [], by omega, rfl, HS0⟩
  case round =>
    obtain ⟨t, ls, ht, rfl, hst⟩ := hrel
    clear HS0
    generalize wr = wa at *
    by_cases hlt : t < n
    · have htl : t < L.length := by rw [HL.out]; exact hlt
      have hrd := hst.out.rdv
      obtain ⟨b, o, rfl, hseg⟩ := hrd.at (by omega)
      have hcell : wa.cell? ⟨b, o + t, none⟩ = some (L.getD t undef) := hseg t _ (by rw [List.getElem?_eq_getElem htl]; simp [List.getD, List.getElem?_eq_getElem htl])
      have HOWN := hid (hst.out.mine t (Nat.le_refl _) htl)
      clear hrd hseg
      generalize hLt : L.getD t undef = Lt at *
      have HLt := hid hLt
      obtain ⟨D, cd, rfl, hcd1, hcd2, hlen, _⟩ := owns_form HOWN.out
      have hNt := HN.out t
      generalize hm : N t = m at *
      have HMm := hid hm
      have hmk := mk_walk t (by omega)
      clear hLt hm hlen
      go_wp2_with fail
      have HX0 : Hid ((X t).length = m) := hid (by have := HOWN.out.1; omega)
      -- the entries
      go_loopw [24] (fun i wv => ∃ u : Nat, u ≤ m ∧ i = .int .i64 u ∧ Hid (wv.ownsRow B 55 1 (.slice D m cd) m (marked t u ++ (X t).drop u)) ∧ Hid (∀ k, (Value.slice D m cd).ownBlock ≠ some k → wv.heap[k]? = wa.heap[k]?) ∧ Hid (wv.heap.size = wa.heap.size) ∧ Hid (Below B w wv)) (fun i _ => m - (intOf i).toNat)
      case atStart => exact ⟨0, by omega, rfl, hid (by simpa [marked] using HOWN.out), hid (fun _ _ => rfl), hid rfl, hid hst.out.bel⟩
      case round =>
        obtain ⟨u, hu, rfl, how, hkp, hsz, hbl⟩ := hrel
        by_cases hlu : u < m
        · obtain ⟨A9, cap9, he9, _, _, hlen9, hform⟩ := owns_form how.out
          injection he9 with e1 e2 e3
          subst e1 e3
          obtain ⟨g, rfl, hBg, hgs, hc, hf⟩ := hform (by omega)
          have c1 : wr.cell? ⟨g, u, none⟩ = some ((X t).getD u undef) := by
            have hxl := HX0.out
            rw [hc u hlu, List.getElem?_append_right (by simp [marked])]
            simp only [marked, List.length_replicate, Nat.sub_self, List.getElem?_drop, Nat.add_zero]
            rw [List.getElem?_eq_getElem (by omega)]; simp [List.getD, List.getElem?_eq_getElem (show u < (X t).length by omega)]
          have f1 := hf u
          have HST := hid (owns_set how.out u (mk t))
          have HNX : Hid ((marked t u ++ (X t).drop u).set u (mk t) = marked t (u + 1) ++ (X t).drop (u + 1)) := hid (by
            have hxl := HX0.out
            rw [List.set_append_right _ _ (by simp [marked])]
            simp only [marked, List.length_replicate, Nat.sub_self]
            rw [List.drop_eq_getElem_cons (by omega), List.set_cons_zero, List.replicate_succ', List.append_assoc]; rfl)
          clear hform hc hf
          generalize (X t).getD u undef = old at *
          go_wp2_with fail
          rw [if_u64, hmk]
          go_roundw
          case rel =>
            refine ⟨u + 1, by omega, by go_num, hid (by rw [← HNX.out]; exact HST.out), hid (fun k hk => ?_), hid (by rw [← hsz.out]; simp [World.setCell]), hid (below_set hbl.out _ _ _ hBg)⟩
            rw [heap_setCell_other _ _ k _ (fun e => hk (by simp [Value.ownBlock, e]))]
            exact hkp.out k hk
          case measure => simp [intOf]; omega
        · obtain rfl : u = m := by omega
          have hdr : (X t).drop u = [] := List.drop_of_length_le (by rw [HX0.out]; exact Nat.le_refl _)
          rw [hdr, List.append_nil] at how
          clear hdr
          generalize wr = wb at *
          have HD1 := hid (owns_first how.out)
          have HDL : Hid (∀ k, (Value.slice D u cd).ownBlock = some k → k < wb.heap.size) := hid (fun k hk => (how.out.lt k hk).2)
          go_wp2_with fail
          go_loopw [7, 9] (fun v7 i wv => ∃ c : Nat, c ≤ s ∧ i = .int .i64 c ∧ Hid (wv.ownsRow B 55 1 v7 (u + c) (marked t (u + c))) ∧ Hid (Rd wv (.slice D u cd) u 1 (marked t u)) ∧ Hid (∀ k, k < wb.heap.size → (Value.slice D u cd).ownBlock ≠ some k → wv.heap[k]? = wb.heap[k]?) ∧ Hid (wb.heap.size ≤ wv.heap.size) ∧ Hid (∀ k, v7.ownBlock = some k → (Value.slice D u cd).ownBlock = some k ∨ wb.heap.size ≤ k) ∧ Hid (Below B w wv)) (fun _ i _ => s - (intOf i).toNat)
          case atStart => exact ⟨0, by omega, rfl, how, hid (owns_rd how.out), hid (fun _ _ _ => rfl), hid (Nat.le_refl _), hid (fun k hk => .inl hk), hbl⟩
          case round =>
            obtain ⟨c, hc, rfl, ho7, hr7, hk7, hs7, hw7, hb7⟩ := hrel
            by_cases hlc7 : c < s
            · have HBS : Hid (B ≤ wr.heap.size) := hid (Nat.le_trans hB hb7.out.size)
              go_wp2_with (first
                | (go_at_call 34; refine (HSH.out _).mono ?_; rintro e w' ⟨rfl, nd, rfl⟩)
                | (at_builtin; refine wpList_append1W rfl (.tmp 43) (.tmp 48) rfl 55 (.int .u64 0) 8 Tryd.underlying22 Tryd.info45 rfl rfl rfl (owns_keep (w' := wr.drewN nd) ho7.out (fun _ _ => rfl)) HBS.out (by rfl) (by unfold maxLen; omega) (by omega) ?_; intro v' w' ho hb3 hsz3 hk3 hw3; have HO := hid ho; have HB3 := hid hb3; have HSZ3 := hid hsz3; have HK3 := hid hk3; have HW3 := hid hw3; clear ho hb3 hsz3 hk3 hw3))
              go_roundw
              case rel =>
                have hsn : marked t (u + c) ++ [.int .u64 ((18446744073709551615 - (501 + t) : Nat) : Int)] = marked t (u + c + 1) := marked_snoc t (u + c)
                have ho9 : w'.ownsRow B 55 1 v' (u + c + 1) (marked t (u + c + 1)) := by
                  have h := HO.out
                  rw [if_u64, hmk] at h
                  rw [← hsn]; exact h
                refine ⟨c + 1, by omega, by go_num, hid ho9, hid (keep_marked HD1.out hr7.out ho9 (by omega) ?_), hid ?_, hid (Nat.le_trans hs7.out HSZ3.out), hid ?_, hid (hb7.out.trans ((Go.below_drewN (Below.refl B wr) nd).trans HB3.out))⟩
                · intro k hk
                  have hkl := HDL.out k hk
                  rcases HW3.out with h | ⟨_, h⟩
                  · by_cases hu7 : u7.ownBlock = some k
                    · exact .inl (by rw [h]; exact hu7)
                    · exact .inr (HK3.out k (Nat.lt_of_lt_of_le hkl hs7.out) (fun e => hu7 e.symm))
                  · exact .inr (h k (Nat.lt_of_lt_of_le hkl hs7.out))
                · intro k hk hne
                  have hne7 : some k ≠ u7.ownBlock := fun e => by
                    rcases hw7.out k e.symm with h | h
                    · exact hne h
                    · omega
                  rw [← hk7.out k hk hne]
                  exact HK3.out k (Nat.lt_of_lt_of_le hk hs7.out) hne7
                · intro k hk
                  rcases HW3.out with h | ⟨h, _⟩
                  · exact hw7.out k (h.symm.trans hk)
                  · exact .inr (Nat.le_trans hs7.out (h k hk))
              case measure => simp [intOf]; omega
            · obtain rfl : c = s := by omega
              generalize wr = wc at *
              have HLS := hid hst.out.lon
              have HWS : Hid (w.heap.size ≤ wa.heap.size) := hid hst.out.size
              have HWB : Hid (wa.heap.size = wb.heap.size) := hid hsz.out.symm
              -- what lies elsewhere stands
              have HEL : Hid (∀ k, k < wb.heap.size → (Value.slice D u cd).ownBlock ≠ some k → wc.heap[k]? = wa.heap[k]?) := hid (fun k hk hne => (hk7.out k hk hne).trans (hkp.out k hne))
              have HNL : Hid (∀ k, u5.ownBlock = some k → (Value.slice D u cd).ownBlock ≠ some k) := hid (fun k hk e => by
                have h1 := (HLS.out.lt k hk).1
                have h2 := HLT.out t hlt k (by rw [HLt.out]; exact e)
                omega)
              have HLC : Hid (wc.ownsRow w.heap.size 22 1 u5 t ls) := hid (owns_keep HLS.out (fun k hk => HEL.out k (by have := (HLS.out.lt k hk).2; have := HWB.out; omega) (HNL.out k hk)))
              have HWC : Hid (w.heap.size ≤ wc.heap.size) := hid (by have := HWS.out; have := HWB.out; have := hs7.out; omega)
              obtain ⟨D7, cd7, rfl, _, _, _, _⟩ := owns_form ho7.out
              go_wp2_with (first
                | (go_at_call 34; refine (HSH.out _).mono ?_; rintro e w' ⟨rfl, nd, rfl⟩)
                | (at_builtin; refine wpList_append1W rfl (.tmp 50) (.tmp 52) rfl 22 (.slice none 0 0) 24 Tryd.underlying31 Tryd.infoWs rfl rfl rfl (owns_keep (w' := wc.drewN nd) HLC.out (fun _ _ => rfl)) HWC.out (by rfl) (by unfold maxLen; omega) (by omega) ?_; intro v' w' ho hb3 hsz3 hk3 hw3; have HO := hid ho; have HB3 := hid hb3; have HSZ3 := hid hsz3; have HK3 := hid hk3; have HW3 := hid hw3; clear ho hb3 hsz3 hk3 hw3))
              go_roundw
              case rel =>
                refine ⟨t + 1, ls ++ [.slice D7 (u + c) cd7], by omega, by go_num, hid ?_⟩
                exact hst.out.step htl HLt.out HMm.out (by have := HWB.out; have := hs7.out; omega) (fun k hk hne => HEL.out k (by have := HWB.out; omega) hne) hr7.out ho7.out (fun k hk => by rw [HWB.out]; exact hw7.out k hk) HO.out HSZ3.out HK3.out HW3.out ((Go.below_drewN hb7.out nd).trans (HB3.out.mono hB)) (by rw [HL.out]; exact HLT.out) (by rw [HL.out]; exact HSEP.out) (by rw [HL.out]; exact HV.out) (hvlt.out (by omega))
              case measure => simp [intOf]; omega
    · obtain rfl : t = n := by omega
      have HDO := hid hst.out.done
      have HRV := hid hst.out.rdv
      have HLO := hid hst.out.lon
      have HBE := hid hst.out.bel
      obtain ⟨A5, c5, rfl, _, _, _, _⟩ := owns_form HLO.out
      clear hst
      go_wp2_with fail
      go_loop [57] (fun i => ∃ q : Nat, q ≤ t ∧ i = .int .i64 q) (fun i => t - (intOf i).toNat)
      case atStart => exact ⟨0, by omega, rfl⟩
      case round =>
        obtain ⟨q, hq, rfl⟩ := hrel
        by_cases hlq : q < t
        · obtain ⟨hd1, hd2⟩ := HDO.out q hlq
          have HD1 := hid hd1
          have HD2 := hid hd2
          obtain ⟨b, o, rfl, hseg⟩ := HRV.out.at (by rw [HL.out]; omega)
          have hql : q < L.length := by rw [HL.out]; exact hlq
          have hcell : wa.cell? ⟨b, o + q, none⟩ = some (L.getD q undef) := hseg q _ (by rw [List.getElem?_eq_getElem hql]; simp [List.getD, List.getElem?_eq_getElem hql])
          obtain ⟨b5, o5, rfl, hseg5⟩ := (owns_rd HLO.out).at (by omega)
          have hlsl : ls.length = t := by have := HLO.out.1; omega
          have hcell5 : wa.cell? ⟨b5, o5 + q, none⟩ = some (ls.getD q undef) := hseg5 q _ (by rw [List.getElem?_eq_getElem (by omega)]; simp [List.getD, List.getElem?_eq_getElem (show q < ls.length by omega)])
          clear hseg hseg5 hd1 hd2 hlsl
          generalize L.getD q undef = Lq at *
          generalize ls.getD q undef = lq at *
          have hNq := HN.out q
          generalize N q = m at *
          obtain ⟨D, cd, rfl, _, _, hf1⟩ := HD1.out.form
          obtain ⟨E, ce, rfl, _, _, hf2⟩ := HD2.out.form
          obtain ⟨z, hz⟩ : ∃ z, 18446744073709551615 - (501 + q) = z := ⟨_, rfl⟩
          have hmk := mk_walk q (by omega)
          rw [hz] at hmk
          have hmk2 : bits BinOp.xor IntKind.u64 (if IntKind.u64.signed = true then -1 else IntKind.u64.max) (501 + (q : Int)) = (z : Int) := by rw [if_u64]; exact hmk
          have HMQ : Hid (mk q = .int .u64 (z : Int)) := hid (by rw [mk, hz])
          have hzz : ((z : Int) != (z : Int)) = false := by simp
          clear hmk hz
          go_wp2_with fail
          go_loop [65] (fun i => ∃ u : Nat, u ≤ m ∧ i = .int .i64 u) (fun i => m - (intOf i).toNat)
          case atStart => exact ⟨0, by omega, rfl⟩
          case round =>
            obtain ⟨u, hu, rfl⟩ := hrel
            by_cases hlu : u < m
            · obtain ⟨g, o1, rfl, hs1⟩ := hf1 (by omega)
              have hc1 : wa.cell? ⟨g, o1 + u, none⟩ = some (.int .u64 (z : Int)) := by rw [← HMQ.out]; exact hs1 u _ (marked_get q m u hlu)
              clear hf1 hf2 hs1
              go_wp2_with fail
              go_round
              case rel => exact ⟨u + 1, by omega, by go_num⟩
              case measure => simp [intOf]; omega
            · obtain rfl : u = m := by omega
              clear hf1
              go_wp2_with fail
              go_loop [81] (fun i => ∃ u2 : Nat, u2 ≤ u + s ∧ i = .int .i64 u2) (fun i => u + s - (intOf i).toNat)
              case atStart => exact ⟨0, by omega, rfl⟩
              case round =>
                obtain ⟨u2, hu2, rfl⟩ := hrel
                by_cases hlu2 : u2 < u + s
                · obtain ⟨g, o1, rfl, hs1⟩ := hf2 (by omega)
                  have hc1 : wa.cell? ⟨g, o1 + u2, none⟩ = some (.int .u64 (z : Int)) := by rw [← HMQ.out]; exact hs1 u2 _ (marked_get q (u + s) u2 hlu2)
                  have hi : (u2 : Int) < (u : Int) + (s : Int) := by omega
                  clear hf2 hs1
                  go_wp2_with fail
                  go_round
                  case rel => exact ⟨u2 + 1, by omega, by go_num⟩
                  case measure => simp [intOf]; omega
                · obtain rfl : u2 = u + s := by omega
                  clear hf2
                  go_wp2_with fail
                  go_round
                  case rel => exact ⟨q + 1, by omega, by go_num⟩
                  case measure => simp [intOf]; omega
        · obtain rfl : q = t := by omega
          go_wp2_with fail
          go_ret
          exact ⟨rfl, HBE.out⟩
end Go.Proofs.YtinkbgnhigpkeaaDoor
