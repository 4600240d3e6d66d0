/-
  soughlaw18.LeastOuts: its walk. Written by wip/gen/mksysG.py.
-/
import Derived.Test.YtmidbfnmkfncgaaGreatSysE
namespace Go.Proofs.YtmidbfnmkfncgaaGreat
open Go.RowKit

theorem outsE_len (s : SysT) (a : List (List Nat)) : (outsE s a).length = s.nodes.toNat := by simp [outsE]
theorem outsE_at {s : SysT} (a : List (List Nat)) {v : Nat} (h : v < s.nodes.toNat) : lsAt (outsE s a) v = applyT s v (lsAt a v) := by
  unfold lsAt outsE
  rw [List.getElem?_map, List.getElem?_range h]
  rfl
theorem outsE_vals {s : SysT} (h : OkS s) (hs : LtS s) {a : List (List Nat)} (ha : LtA a) (va : valuesE s a = true) : ValsB 100000 (outsE s a) := fun j hj => by
  rw [outsE_len] at hj
  rw [outsE_at a hj]
  have := value_le (applyT_value h hs hj (ha j (by rw [values_len va]; exact hj)) (values_at va j hj))
  omega
theorem vals_one {w : World} {g : Nat} {u : Value} {x : List Nat} (h : Bk w g 24 [u]) (hw : Ws w u x) : Vals w (.slice (some ⟨g, 0, none⟩) 1 1) [x] :=
  ⟨_, _, rfl, fun _ => ⟨g, 0, rfl, fun j hj => by
    have h0 : j = 0 := by have h : j < 1 := hj; omega
    subst h0
    exact ⟨u, h.cell 0, hw⟩⟩⟩
theorem one_B {x : List Nat} {n : Nat} (h : x.length ≤ n) : ValsB n [x] := fun j hj => by
  have h0 : j = 0 := by have h : j < 1 := hj; omega
  subst h0
  exact h

set_option maxHeartbeats 3200000 in
set_option maxRecDepth 100000 in
theorem leastOuts_walk (s : SysT) (ve vn vi vt : Value) (va vb : Value) (a b : List (List Nat)) (w : World) (hL : SysL w ve vn vi vt s) (hb : SysB s) (ha : Vals w va a) (hb2 : Vals w vb b) (hna : a.length ≤ 9223372036854775807) (hnb : b.length ≤ 9223372036854775807) (hma : ValsB 9223372036854775807 a) (hmb : ValsB 9223372036854775807 b) :
    Calls Tryz.prog 6 #[.agg #[.int .i64 s.what, .int .i64 s.width, .int .i64 s.nodes, ve, vn, vi, vt], va, vb] w fun e w' => e = .returned (.bool true) ∧ Below w.heap.size w w' := by
  have HS := Lib.hid hL
  obtain ⟨pe, ce, rfl⟩ := hL.1.len
  obtain ⟨pn, cn, rfl⟩ := hL.2.1.len
  obtain ⟨pi, ci, rfl⟩ := ws_len hL.2.2.1
  obtain ⟨pt, ct, rfl⟩ := hL.2.2.2.len
  have KB := Lib.hid (Bk.new w 27 [.int .i64 s.what, .int .i64 s.width, .int .i64 s.nodes, .slice pe s.E.length ce, .slice pn s.N.length cn, .slice pi s.I.length ci, .slice pt s.T.length ct])
  have BB := Lib.hid ((Below.refl w.heap.size w).alloc (Nat.le_refl _) (.cells #[.int .i64 s.what, .int .i64 s.width, .int .i64 s.nodes, .slice pe s.E.length ce, .slice pn s.N.length cn, .slice pi s.I.length ci, .slice pt s.T.length ct] 27))
  have HY := Lib.hid (HS.out.below BB.out)
  clear hL
  have HF := Lib.hid hb
  have HMA := Lib.hid hma
  have HMB := Lib.hid hmb
  have HA := Lib.hid (ha.below BB.out)
  have HB := Lib.hid (hb2.below BB.out)
  obtain ⟨pa, ca, rfl⟩ := ha.len
  obtain ⟨pb, cb, rfl⟩ := hb2.len
  have HVL := Lib.hid (And.intro (ltA_of ha) (And.intro (ltA_of hb2) (ltS_of HS.out)))
  clear ha hb2 hma hmb hb HS
  go_enter Tryz.func6, Tryz.ntmps6
  go_wp2_with fail
  refine (law_any _).mono ?_
  rintro e w1 ⟨rfl, hB⟩
  have BB := Lib.hid (BB.out.trans (hB.mono BB.out.size))
  have HY := Lib.hid (HY.out.below hB)
  have HA := Lib.hid (HA.out.below hB)
  have HB := Lib.hid (HB.out.below hB)
  have KB := Lib.hid (KB.out.below hB)
  obtain ⟨c0, c1, c2, c3, c4, c5, c6⟩ := KB.out.seven
  clear hB
  go_wp2_with fail
  refine (rsmall_any s _ _ _ _ _ HY.out HF.out).mono ?_
  rintro e w2 ⟨⟨b, rfl, hbT⟩, hB⟩
  have BB := Lib.hid (BB.out.trans (hB.mono BB.out.size))
  have HY := Lib.hid (HY.out.below hB)
  have HA := Lib.hid (HA.out.below hB)
  have HB := Lib.hid (HB.out.below hB)
  have KB := Lib.hid (KB.out.below hB)
  clear c0 c1 c2 c3 c4 c5 c6
  obtain ⟨c0, c1, c2, c3, c4, c5, c6⟩ := KB.out.seven
  clear hB
  cases b with
  | false =>
    clear hbT
    go_wp2_with fail
    go_ret
    exact ⟨rfl, BB.out⟩
  | true =>
    have SM := Lib.hid (hbT rfl)
    clear hbT
    have SF := Lib.hid SM.out.f
    go_wp2_with fail
    refine (rfew_any _ a _ HA.out hna HMA.out).mono ?_
    rintro e w3 ⟨⟨b, rfl, hbT⟩, hww⟩
    subst w3
    cases b with
    | false =>
      clear hbT
      go_wp2_with fail
      go_ret
      exact ⟨rfl, BB.out⟩
    | true =>
      have FA := Lib.hid (hbT rfl)
      clear hbT
      go_wp2_with fail
      refine (rfew_any _ b _ HB.out hnb HMB.out).mono ?_
      rintro e w4 ⟨⟨b, rfl, hbT⟩, hww⟩
      subst w4
      cases b with
      | false =>
        clear hbT
        go_wp2_with fail
        go_ret
        exact ⟨rfl, BB.out⟩
      | true =>
        have FB := Lib.hid (hbT rfl)
        clear hbT
        have la : a.length ≤ 12 := FA.out.1
        have lb : b.length ≤ 12 := FB.out.1
        have VA := Lib.hid (show ValsB 100000 a from fun j hj => by have := FA.out.2 j hj; omega)
        have VA2 := Lib.hid (show ValsB 9223372036854775807 a from fun j hj => by have := FA.out.2 j hj; omega)
        have VB2 := Lib.hid (show ValsB 9223372036854775807 b from fun j hj => by have := FB.out.2 j hj; omega)
        obtain ⟨ce, hce⟩ : ∃ z, z = checkS s := ⟨_, rfl⟩
        have NC := Lib.hid hce
        clear hce
        obtain ⟨se, hse⟩ : ∃ z, z = stepC s a := ⟨_, rfl⟩
        have NS := Lib.hid hse
        clear hse
        obtain ⟨lc, hlc⟩ : ∃ z, z = okV (stepC s a) (outsE s a) := ⟨_, rfl⟩
        have NL := Lib.hid hlc
        clear hlc
        obtain ⟨sb, hsb⟩ : ∃ z, z = decide (a = b) := ⟨_, rfl⟩
        have NB := Lib.hid hsb
        clear hsb
        have qsb : (sb != sb) = false := bne_self_eq_false sb
        go_wp2_with fail
        refine (louts_any s _ _ _ _ _ a _ HY.out SF.out HA.out (by omega) VA.out).mono ?_
        rintro e w5 ⟨uc, rfl, hVc, hB⟩
        have BB := Lib.hid (BB.out.trans (hB.mono BB.out.size))
        have HY := Lib.hid (HY.out.below hB)
        have HA := Lib.hid (HA.out.below hB)
        have HB := Lib.hid (HB.out.below hB)
        have KB := Lib.hid (KB.out.below hB)
        clear c0 c1 c2 c3 c4 c5 c6
        obtain ⟨c0, c1, c2, c3, c4, c5, c6⟩ := KB.out.seven
        clear hB
        rw [← NL.out] at hVc
        rw [← NS.out]
        have HC := Lib.hid hVc
        obtain ⟨pc, cc, rfl⟩ := hVc.len
        clear hVc
        go_wp2_with fail
        refine (lsame_any _ _ a b _ HA.out HB.out (by omega) (by omega) VA2.out VB2.out).mono ?_
        rintro e w6 ⟨rfl, hB⟩
        have BB := Lib.hid (BB.out.trans (hB.mono BB.out.size))
        have HY := Lib.hid (HY.out.below hB)
        have HA := Lib.hid (HA.out.below hB)
        have HB := Lib.hid (HB.out.below hB)
        have HC := Lib.hid (HC.out.below hB)
        have KB := Lib.hid (KB.out.below hB)
        clear c0 c1 c2 c3 c4 c5 c6
        obtain ⟨c0, c1, c2, c3, c4, c5, c6⟩ := KB.out.seven
        clear hB
        rw [← NB.out]
        go_wp2_with fail
        refine (rvsame_any _ _ a b _ HA.out HB.out (by omega) (by omega) VA2.out VB2.out).mono ?_
        rintro e w7 ⟨rfl, hB⟩
        have BB := Lib.hid (BB.out.trans (hB.mono BB.out.size))
        have HY := Lib.hid (HY.out.below hB)
        have HA := Lib.hid (HA.out.below hB)
        have HB := Lib.hid (HB.out.below hB)
        have HC := Lib.hid (HC.out.below hB)
        have KB := Lib.hid (KB.out.below hB)
        clear c0 c1 c2 c3 c4 c5 c6
        obtain ⟨c0, c1, c2, c3, c4, c5, c6⟩ := KB.out.seven
        clear hB
        rw [← NB.out]
        go_wp2_with fail
        refine (rscheck_any s _ _ _ _ _ HY.out SF.out).mono ?_
        rintro e w8 ⟨rfl, hB⟩
        have BB := Lib.hid (BB.out.trans (hB.mono BB.out.size))
        have HY := Lib.hid (HY.out.below hB)
        have HA := Lib.hid (HA.out.below hB)
        have HB := Lib.hid (HB.out.below hB)
        have HC := Lib.hid (HC.out.below hB)
        have KB := Lib.hid (KB.out.below hB)
        clear c0 c1 c2 c3 c4 c5 c6
        obtain ⟨c0, c1, c2, c3, c4, c5, c6⟩ := KB.out.seven
        clear hB
        rw [← NC.out]
        by_cases h0 : ce = 0
        case neg =>
          have hz : checkS s ≠ 0 := by rw [← NC.out]; exact h0
          have hs : stepC s a ≠ 0 := by rw [sc_bad hz]; exact hz
          have q1 : se = ce := by rw [NS.out, NC.out]; exact sc_bad hz
          have q2 : lc = [] := by rw [NL.out]; exact okV_no hs _
          have q3 : (ce == ce) = true := beq_self_eq_true ce
          have q4 : (ce != 0) = true := by simpa using h0
          clear NS NL NC HC hz hs
          subst q1 q2
          clear h0
          go_wp2_with fail
          go_ret
          exact ⟨ret_bool (by simp), BB.out⟩
        have HC0 := Lib.hid (NC.out.symm.trans h0)
        have OK := Lib.hid (okS_of HC0.out)
        subst h0
        go_wp2_with fail
        refine (rvalues_any s _ _ _ _ _ a _ HY.out HA.out (by omega) VA.out).mono ?_
        rintro e w9 ⟨rfl, hB⟩
        have BB := Lib.hid (BB.out.trans (hB.mono BB.out.size))
        have HY := Lib.hid (HY.out.below hB)
        have HA := Lib.hid (HA.out.below hB)
        have HB := Lib.hid (HB.out.below hB)
        have HC := Lib.hid (HC.out.below hB)
        have KB := Lib.hid (KB.out.below hB)
        clear c0 c1 c2 c3 c4 c5 c6
        obtain ⟨c0, c1, c2, c3, c4, c5, c6⟩ := KB.out.seven
        clear hB
        cases hva : valuesE s a with
        | false =>
          have hs : stepC s a = 2 := sc_dom HC0.out hva
          have q1 : se = 2 := by rw [NS.out]; exact hs
          have q2 : lc = [] := by rw [NL.out, hs]; exact okV_no (by decide) _
          clear NS NL NC HC hs hva
          subst q1 q2
          go_wp2_with fail
          go_ret
          exact ⟨ret_bool (by simp), BB.out⟩
        | true =>
          have hs : stepC s a = 0 := sc_ok HC0.out hva
          have q1 : se = 0 := by rw [NS.out]; exact hs
          have q2 : lc = outsE s a := by rw [NL.out, hs]; exact okV_yes _
          have HVA := Lib.hid hva
          have HC1 := Lib.hid q2
          clear NS NL NC hs hva
          subst q1
          obtain ⟨n, hn⟩ : ∃ n : Nat, s.nodes = n := ⟨s.nodes.toNat, by have := OK.out.n1; omega⟩
          have HN := Lib.hid hn
          have HNT := Lib.hid (show s.nodes.toNat = n by omega)
          have hn2 : n ≤ 256 := by have := OK.out.n2; omega
          have hln1 : lc.length ≤ n := by rw [q2, outsE_len]; omega
          have hln2 : n ≤ lc.length := by rw [q2, outsE_len]; omega
          have han1 : a.length ≤ n := by have := values_len HVA.out; omega
          have han2 : n ≤ a.length := by have := values_len HVA.out; omega
          have heq : ((lc.length : Int) == s.nodes) = true := by rw [hn, beq_iff_eq]; omega
          have HEQ := Lib.hid heq
          clear q2 hn heq
          go_wp2_with fail
          go_loopw [64] (fun i wr => ∃ k : Nat, k ≤ lc.length ∧ i = .int .i64 k ∧ Below w9.heap.size w9 wr)
            (fun i _ => lc.length - (intOf i).toNat)
          case atStart => exact ⟨0, Nat.zero_le _, rfl, Below.refl _ _⟩
          case round =>
            obtain ⟨k, hk, rfl, hB⟩ := hrel
            have BW := Lib.hid hB
            have BZ := Lib.hid (BB.out.trans (hB.mono BB.out.size))
            have KW := Lib.hid (KB.out.below hB)
            clear hB c0 c1 c2 c3 c4 c5 c6
            obtain ⟨c0, c1, c2, c3, c4, c5, c6⟩ := KW.out.seven
            by_cases hlt : k < lc.length
            · have hki : (k : Int) < lc.length := by omega
              have hka : (k : Int) < a.length := by omega
              have hkn : k < s.nodes.toNat := by have := HNT.out; omega
              obtain ⟨_, _, h5, hac⟩ := HA.out
              simp only [Value.slice.injEq, true_and] at h5
              obtain ⟨rfl, rfl⟩ := h5
              obtain ⟨ba, oa, rfl, hda⟩ := hac (by omega)
              obtain ⟨vx, E0, hX⟩ := hda k (by omega)
              obtain ⟨px, cx, rfl⟩ := ws_len hX
              obtain ⟨_, _, h5, hcc⟩ := HC.out
              simp only [Value.slice.injEq, true_and] at h5
              obtain ⟨rfl, rfl⟩ := h5
              obtain ⟨bc, oc, rfl, hdc⟩ := hcc (by omega)
              obtain ⟨vy, F0, hY⟩ := hdc k hlt
              obtain ⟨py, cy, rfl⟩ := ws_len hY
              have e0 := keepc E0 BW.out
              have g0 := keepc F0 BW.out
              have HXW := Lib.hid hX
              have HYW := Lib.hid hY
              have HAL := Lib.hid (show lsAt lc k = applyT s k (lsAt a k) by rw [HC1.out, outsE_at a hkn])
              have HVX := Lib.hid (values_at HVA.out k hkn)
              have HXL := Lib.hid (show (lsAt a k).length ≤ 1000 by have := FA.out.2 k (by omega); omega)
              have HYL := Lib.hid (show (lsAt lc k).length ≤ 100000 by
                have h := outsE_vals OK.out HVL.out.2.2 HVL.out.1 HVA.out k (by rw [outsE_len]; exact hkn)
                rw [← HC1.out] at h
                exact h)
              clear hda hdc hac hcc hX hY E0 F0
              have BAD := Lib.hid (((Below.refl wr.heap.size wr).alloc (Nat.le_refl _) (.cells #[.slice py (lsAt lc k).length cy] 24)).drew)
              have BAE := Lib.hid ((BW.out.alloc BW.out.size (.cells #[.slice py (lsAt lc k).length cy] 24)).drew)
              have hkd : decide (a.length ≤ k) = false := by simp; omega
              have hkd2 : decide ((a.length : Int) ≤ (k : Int)) = false := by simp; omega
              go_wp2_with fail
              refine wp_region_held_drew (S := (fun w' => w'.cell? ⟨w.heap.size, 0, none⟩ = some (.int .i64 s.what) ∧ w'.cell? ⟨w.heap.size, 1, none⟩ = some (.int .i64 s.width) ∧ w'.cell? ⟨w.heap.size, 2, none⟩ = some (.int .i64 s.nodes) ∧ w'.cell? ⟨w.heap.size, 3, none⟩ = some (.slice pe s.E.length ce) ∧ w'.cell? ⟨w.heap.size, 4, none⟩ = some (.slice pn s.N.length cn) ∧ w'.cell? ⟨w.heap.size, 5, none⟩ = some (.slice pi s.I.length ci) ∧ w'.cell? ⟨w.heap.size, 6, none⟩ = some (.slice pt s.T.length ct) ∧ w'.cell? ⟨ba, oa + k, none⟩ = some (.slice px (lsAt a k).length cx) ∧ w'.cell? ⟨bc, oc + k, none⟩ = some (.slice py (lsAt lc k).length cy) ∧ Below w9.heap.size w9 w')) (by kernel_rfl) ?_ (fun hHeld => ?_)
              · exact ⟨c0, c1, c2, c3, c4, c5, c6, e0, g0, BW.out.drew⟩
              generalize wr.drew = v0 at hHeld ⊢
              refine take_at 0 (v := ?_) (some 67) rfl rfl (by kernel_rfl) (by kernel_rfl) (by kernel_rfl) (fun _ _ _ h => h) (Or.inl ⟨by rfl, ?_⟩) hHeld ?_
              rotate_left
              · (intro w hSw; (try dsimp only at hSw); go_simp; (try with_reducible rfl))
              simp only [Act.put, List.setIfInBounds_toArray, List.set_cons_zero, List.set_cons_succ]
              refine take_at 1 (v := ?_) (some 68) rfl rfl (by kernel_rfl) (by kernel_rfl) (by kernel_rfl) (fun _ _ _ h => h) (Or.inl ⟨by rfl, ?_⟩) hHeld ?_
              rotate_left
              · (intro w hSw; (try dsimp only at hSw); go_simp; (try with_reducible rfl))
              simp only [Act.put, List.setIfInBounds_toArray, List.set_cons_zero, List.set_cons_succ]
              refine take_at 2 (v := ?_) (some 69) rfl rfl (by kernel_rfl) (by kernel_rfl) (by kernel_rfl) (fun _ _ _ h => h) (Or.inl ⟨by rfl, ?_⟩) hHeld ?_
              rotate_left
              · (intro w hSw; (try dsimp only at hSw); go_simp; (try with_reducible rfl))
              simp only [Act.put, List.setIfInBounds_toArray, List.set_cons_zero, List.set_cons_succ]
              refine take_at 3 (v := ?_) (some 70) rfl rfl (by kernel_rfl) (by kernel_rfl) (by kernel_rfl) (fun _ _ _ h => h) (Or.inl ⟨by rfl, ?_⟩) hHeld ?_
              rotate_left
              · (intro w hSw; (try dsimp only at hSw); go_simp; (try with_reducible rfl))
              simp only [Act.put, List.setIfInBounds_toArray, List.set_cons_zero, List.set_cons_succ]
              try rw [hkd]
              refine take_at 4 (v := ?_) (some 71) rfl rfl (by kernel_rfl) (by kernel_rfl) (by kernel_rfl) (fun _ _ _ h => h) (Or.inl ⟨by rfl, ?_⟩) hHeld ?_
              rotate_left
              · (intro w hSw; (try dsimp only at hSw); go_simp; (try with_reducible rfl))
              simp only [Act.put, List.setIfInBounds_toArray, List.set_cons_zero, List.set_cons_succ]
              refine take_at 5 (v := ?_) (some 72) rfl rfl (by kernel_rfl) (by kernel_rfl) (by kernel_rfl) (fun _ _ _ h => h) (Or.inl ⟨by rfl, ?_⟩) hHeld ?_
              rotate_left
              · (intro w hSw; (try dsimp only at hSw); go_simp; (try with_reducible rfl))
              simp only [Act.put, List.setIfInBounds_toArray, List.set_cons_zero, List.set_cons_succ]
              refine take_at 6 (v := ?_) (some 73) rfl rfl (by kernel_rfl) (by kernel_rfl) (by kernel_rfl) (fun _ _ _ h => h) (Or.inl ⟨by rfl, ?_⟩) hHeld ?_
              rotate_left
              · (intro w hSw; (try dsimp only at hSw); go_simp; (try with_reducible rfl))
              simp only [Act.put, List.setIfInBounds_toArray, List.set_cons_zero, List.set_cons_succ]
              refine take_at 7 (v := ?_) (some 74) rfl rfl (by kernel_rfl) (by kernel_rfl) (by kernel_rfl) (fun _ _ _ h => h) (Or.inl ⟨by rfl, ?_⟩) hHeld ?_
              rotate_left
              · (intro w hSw; (try dsimp only at hSw); go_simp; (try with_reducible rfl))
              simp only [Act.put, List.setIfInBounds_toArray, List.set_cons_zero, List.set_cons_succ]
              refine take_at 8 (v := ?_) (some 75) rfl rfl (by kernel_rfl) (by kernel_rfl) (by kernel_rfl) (fun _ _ _ h => h) (Or.inl ⟨by rfl, ?_⟩) hHeld ?_
              rotate_left
              · (intro w hSw; (try dsimp only at hSw); go_simp; (try with_reducible rfl))
              simp only [Act.put, List.setIfInBounds_toArray, List.set_cons_zero, List.set_cons_succ]
              refine take_at 10 (v := ?_) (some 77) rfl rfl (by kernel_rfl) (by kernel_rfl) (by kernel_rfl) (fun _ _ _ h => h) (Or.inl ⟨by rfl, ?_⟩) hHeld ?_
              rotate_left
              · (intro w hSw; (try dsimp only at hSw); go_simp; (try with_reducible rfl))
              simp only [Act.put, List.setIfInBounds_toArray, List.set_cons_zero, List.set_cons_succ]
              refine take_at 11 (v := ?_) (some 78) rfl rfl (by kernel_rfl) (by kernel_rfl) (by kernel_rfl) (fun _ _ _ h => h) (Or.inl ⟨by rfl, ?_⟩) hHeld ?_
              rotate_left
              · (intro w hSw; (try dsimp only at hSw); go_simp; (try with_reducible rfl))
              simp only [Act.put, List.setIfInBounds_toArray, List.set_cons_zero, List.set_cons_succ]
              refine take_at 12 (v := ?_) (some 79) rfl rfl (by kernel_rfl) (by kernel_rfl) (by kernel_rfl) (fun _ _ _ h => h) (Or.inl ⟨by rfl, ?_⟩) hHeld ?_
              rotate_left
              · (intro w hSw; (try dsimp only at hSw); go_simp; (try with_reducible rfl))
              simp only [Act.put, List.setIfInBounds_toArray, List.set_cons_zero, List.set_cons_succ]
              refine take_at 13 (v := ?_) (some 80) rfl rfl (by kernel_rfl) (by kernel_rfl) (by kernel_rfl) (fun _ _ _ h => h) (Or.inl ⟨by rfl, ?_⟩) hHeld ?_
              rotate_left
              · (intro w hSw; (try dsimp only at hSw); go_simp; (try with_reducible rfl))
              simp only [Act.put, List.setIfInBounds_toArray, List.set_cons_zero, List.set_cons_succ]
              refine take_at 14 (v := ?_) (some 81) rfl rfl (by kernel_rfl) (by kernel_rfl) (by kernel_rfl) (fun _ _ _ h => h) (Or.inl ⟨by rfl, ?_⟩) hHeld ?_
              rotate_left
              · (intro w hSw; (try dsimp only at hSw); go_simp; (try with_reducible rfl))
              simp only [Act.put, List.setIfInBounds_toArray, List.set_cons_zero, List.set_cons_succ]
              refine take_at 15 (v := ?_) (some 82) rfl rfl (by kernel_rfl) (by kernel_rfl) (by kernel_rfl) (fun _ _ _ h => h) (Or.inl ⟨by rfl, ?_⟩) hHeld ?_
              rotate_left
              · (intro w hSw; (try dsimp only at hSw); go_simp; (try with_reducible rfl))
              simp only [Act.put, List.setIfInBounds_toArray, List.set_cons_zero, List.set_cons_succ]
              refine wpAnyH_ready (rs := [9, 16]) (by kernel_rfl) (by simp) ?_
              refine AllReadyH.cons rfl (fun K hK => ?_) (AllReadyH.cons rfl (fun K hK => ?_) AllReadyH.nil)
              · skip
                have BV := (show Below w9.heap.size w9 v0 from by go_split_ands; assumption)
                go_simp
                have hB := (Below.refl v0.heap.size v0).alloc (Nat.le_refl _) (.cells #[.slice py (lsAt lc k).length cy] 24)
                have hk := Bk.new v0 24 [.slice py (lsAt lc k).length cy]
                generalize v0.alloc (.cells #[.slice py (lsAt lc k).length cy] 24) = v1 at hB hk ⊢
                have KA := Lib.hid hk
                clear hk
                refine hK.out _ _ ?_ (fun hHeld => ?_)
                · (try dsimp only at hHeld ⊢)
                  go_split_ands
                  exact ⟨keepc (by assumption) hB, keepc (by assumption) hB, keepc (by assumption) hB, keepc (by assumption) hB, keepc (by assumption) hB, keepc (by assumption) hB, keepc (by assumption) hB, keepc (by assumption) hB, keepc (by assumption) hB, (show Below w9.heap.size w9 _ by assumption).trans (hB.mono (show Below w9.heap.size w9 _ by assumption).size)⟩
                clear hK K hB BV
                try simp only [Act.put, List.setIfInBounds_toArray, List.set_cons_zero, List.set_cons_succ]
                refine wpAnyH_ready (rs := [16]) (by kernel_rfl) (by simp) ?_
                refine AllReadyH.cons rfl (fun K hK => ?_) AllReadyH.nil
                have BV := (show Below w9.heap.size w9 v1 from by go_split_ands; assumption)
                go_simp
                go_at_call 30
                refine (rsout_any s _ _ _ _ k _ (lsAt a k) _ (HY.out.below BV) SF.out (HXW.out.below BV) HXL.out OK.out hkn HVX.out).mono ?_
                rintro e v2 ⟨u5, rfl, hW5, hB⟩
                rw [← HAL.out] at hW5
                have HW5 := Lib.hid hW5
                obtain ⟨p5, k5, rfl⟩ := ws_len hW5
                clear hW5
                go_wp2_with fail
                refine hK.out _ _ ?_ (fun hHeld => ?_)
                · (try dsimp only at hHeld ⊢)
                  go_split_ands
                  exact ⟨keepc (by assumption) hB, keepc (by assumption) hB, keepc (by assumption) hB, keepc (by assumption) hB, keepc (by assumption) hB, keepc (by assumption) hB, keepc (by assumption) hB, keepc (by assumption) hB, keepc (by assumption) hB, (show Below w9.heap.size w9 _ by assumption).trans (hB.mono (show Below w9.heap.size w9 _ by assumption).size)⟩
                have KA := Lib.hid (KA.out.below hB)
                clear hK K hB BV
                try simp only [Act.put, List.setIfInBounds_toArray, List.set_cons_zero, List.set_cons_succ]
                refine wpAnyH_ready (rs := [17]) (by kernel_rfl) (by simp) ?_
                refine AllReadyH.cons rfl (fun K hK => ?_) AllReadyH.nil
                have BV := (show Below w9.heap.size w9 v2 from by go_split_ands; assumption)
                go_simp
                have hB := (Below.refl v2.heap.size v2).alloc (Nat.le_refl _) (.cells #[.slice p5 (lsAt lc k).length k5] 24)
                have hk := Bk.new v2 24 [.slice p5 (lsAt lc k).length k5]
                generalize v2.alloc (.cells #[.slice p5 (lsAt lc k).length k5] 24) = v3 at hB hk ⊢
                have KB := Lib.hid hk
                clear hk
                refine hK.out _ _ ?_ (fun hHeld => ?_)
                · (try dsimp only at hHeld ⊢)
                  go_split_ands
                  exact ⟨keepc (by assumption) hB, keepc (by assumption) hB, keepc (by assumption) hB, keepc (by assumption) hB, keepc (by assumption) hB, keepc (by assumption) hB, keepc (by assumption) hB, keepc (by assumption) hB, keepc (by assumption) hB, (show Below w9.heap.size w9 _ by assumption).trans (hB.mono (show Below w9.heap.size w9 _ by assumption).size)⟩
                have KA := Lib.hid (KA.out.below hB)
                have HW5 := Lib.hid (HW5.out.below hB)
                clear hK K hB BV
                try simp only [Act.put, List.setIfInBounds_toArray, List.set_cons_zero, List.set_cons_succ]
                refine wpAnyH_ready (rs := [18]) (by kernel_rfl) (by simp) ?_
                refine AllReadyH.cons rfl (fun K hK => ?_) AllReadyH.nil
                have BV := (show Below w9.heap.size w9 v3 from by go_split_ands; assumption)
                go_simp
                go_at_call 17
                refine (rvsame_any _ _ [lsAt lc k] [lsAt lc k] _ (vals_one KA.out (HYW.out.below BV)) (vals_one KB.out HW5.out) (show 1 ≤ _ by decide) (show 1 ≤ _ by decide) (one_B (by have := HYL.out; omega)) (one_B (by have := HYL.out; omega))).mono ?_
                rintro e v4 ⟨rfl, hB⟩
                rw [decide_eq_true rfl]
                go_wp2_with fail
                refine hK.out _ _ ?_ (fun hHeld => ?_)
                · (try dsimp only at hHeld ⊢)
                  go_split_ands
                  exact ⟨keepc (by assumption) hB, keepc (by assumption) hB, keepc (by assumption) hB, keepc (by assumption) hB, keepc (by assumption) hB, keepc (by assumption) hB, keepc (by assumption) hB, keepc (by assumption) hB, keepc (by assumption) hB, (show Below w9.heap.size w9 _ by assumption).trans (hB.mono (show Below w9.heap.size w9 _ by assumption).size)⟩
                have KA := Lib.hid (KA.out.below hB)
                have HW5 := Lib.hid (HW5.out.below hB)
                have KB := Lib.hid (KB.out.below hB)
                clear hK K hB BV
                try simp only [Act.put, List.setIfInBounds_toArray, List.set_cons_zero, List.set_cons_succ]
                refine take_at 19 (v := ?_) (some 86) rfl rfl (by kernel_rfl) (by kernel_rfl) (by kernel_rfl) (fun _ _ _ h => h) (Or.inl ⟨by rfl, ?_⟩) hHeld ?_
                rotate_left
                · (intro w hSw; (try dsimp only at hSw); go_simp; (try with_reducible rfl))
                simp only [Act.put, List.setIfInBounds_toArray, List.set_cons_zero, List.set_cons_succ]
                refine take_at 20 (v := ?_) (some 87) rfl rfl (by kernel_rfl) (by kernel_rfl) (by kernel_rfl) (fun _ _ _ h => h) (Or.inl ⟨by rfl, ?_⟩) hHeld ?_
                rotate_left
                · (intro w hSw; (try dsimp only at hSw); go_simp; (try with_reducible rfl))
                simp only [Act.put, List.setIfInBounds_toArray, List.set_cons_zero, List.set_cons_succ]
                refine wpAnyH_done (by kernel_rfl) ?_ _
                go_split_ands
                have B5 := Lib.hid (show Below w9.heap.size w9 _ from by assumption)
                clear KA KB HW5
                go_wp2_with fail
                go_roundw
                case rel => exact ⟨k + 1, by omega, by go_num, B5.out⟩
                case measure => simp [intOf]; omega
              · skip
                have BV := (show Below w9.heap.size w9 v0 from by go_split_ands; assumption)
                go_simp
                go_at_call 30
                refine (rsout_any s _ _ _ _ k _ (lsAt a k) _ (HY.out.below BV) SF.out (HXW.out.below BV) HXL.out OK.out hkn HVX.out).mono ?_
                rintro e v5 ⟨u5, rfl, hW5, hB⟩
                rw [← HAL.out] at hW5
                have HW5 := Lib.hid hW5
                obtain ⟨p5, k5, rfl⟩ := ws_len hW5
                clear hW5
                go_wp2_with fail
                refine hK.out _ _ ?_ (fun hHeld => ?_)
                · (try dsimp only at hHeld ⊢)
                  go_split_ands
                  exact ⟨keepc (by assumption) hB, keepc (by assumption) hB, keepc (by assumption) hB, keepc (by assumption) hB, keepc (by assumption) hB, keepc (by assumption) hB, keepc (by assumption) hB, keepc (by assumption) hB, keepc (by assumption) hB, (show Below w9.heap.size w9 _ by assumption).trans (hB.mono (show Below w9.heap.size w9 _ by assumption).size)⟩
                clear hK K hB BV
                try simp only [Act.put, List.setIfInBounds_toArray, List.set_cons_zero, List.set_cons_succ]
                refine wpAnyH_ready (rs := [9, 17]) (by kernel_rfl) (by simp) ?_
                refine AllReadyH.cons rfl (fun K hK => ?_) (AllReadyH.cons rfl (fun K hK => ?_) AllReadyH.nil)
                · skip
                  have BV := (show Below w9.heap.size w9 v5 from by go_split_ands; assumption)
                  go_simp
                  have hB := (Below.refl v5.heap.size v5).alloc (Nat.le_refl _) (.cells #[.slice py (lsAt lc k).length cy] 24)
                  have hk := Bk.new v5 24 [.slice py (lsAt lc k).length cy]
                  generalize v5.alloc (.cells #[.slice py (lsAt lc k).length cy] 24) = v6 at hB hk ⊢
                  have KA := Lib.hid hk
                  clear hk
                  refine hK.out _ _ ?_ (fun hHeld => ?_)
                  · (try dsimp only at hHeld ⊢)
                    go_split_ands
                    exact ⟨keepc (by assumption) hB, keepc (by assumption) hB, keepc (by assumption) hB, keepc (by assumption) hB, keepc (by assumption) hB, keepc (by assumption) hB, keepc (by assumption) hB, keepc (by assumption) hB, keepc (by assumption) hB, (show Below w9.heap.size w9 _ by assumption).trans (hB.mono (show Below w9.heap.size w9 _ by assumption).size)⟩
                  have HW5 := Lib.hid (HW5.out.below hB)
                  clear hK K hB BV
                  try simp only [Act.put, List.setIfInBounds_toArray, List.set_cons_zero, List.set_cons_succ]
                  refine wpAnyH_ready (rs := [17]) (by kernel_rfl) (by simp) ?_
                  refine AllReadyH.cons rfl (fun K hK => ?_) AllReadyH.nil
                  have BV := (show Below w9.heap.size w9 v6 from by go_split_ands; assumption)
                  go_simp
                  have hB := (Below.refl v6.heap.size v6).alloc (Nat.le_refl _) (.cells #[.slice p5 (lsAt lc k).length k5] 24)
                  have hk := Bk.new v6 24 [.slice p5 (lsAt lc k).length k5]
                  generalize v6.alloc (.cells #[.slice p5 (lsAt lc k).length k5] 24) = v7 at hB hk ⊢
                  have KB := Lib.hid hk
                  clear hk
                  refine hK.out _ _ ?_ (fun hHeld => ?_)
                  · (try dsimp only at hHeld ⊢)
                    go_split_ands
                    exact ⟨keepc (by assumption) hB, keepc (by assumption) hB, keepc (by assumption) hB, keepc (by assumption) hB, keepc (by assumption) hB, keepc (by assumption) hB, keepc (by assumption) hB, keepc (by assumption) hB, keepc (by assumption) hB, (show Below w9.heap.size w9 _ by assumption).trans (hB.mono (show Below w9.heap.size w9 _ by assumption).size)⟩
                  have HW5 := Lib.hid (HW5.out.below hB)
                  have KA := Lib.hid (KA.out.below hB)
                  clear hK K hB BV
                  try simp only [Act.put, List.setIfInBounds_toArray, List.set_cons_zero, List.set_cons_succ]
                  refine wpAnyH_ready (rs := [18]) (by kernel_rfl) (by simp) ?_
                  refine AllReadyH.cons rfl (fun K hK => ?_) AllReadyH.nil
                  have BV := (show Below w9.heap.size w9 v7 from by go_split_ands; assumption)
                  go_simp
                  go_at_call 17
                  refine (rvsame_any _ _ [lsAt lc k] [lsAt lc k] _ (vals_one KA.out (HYW.out.below BV)) (vals_one KB.out HW5.out) (show 1 ≤ _ by decide) (show 1 ≤ _ by decide) (one_B (by have := HYL.out; omega)) (one_B (by have := HYL.out; omega))).mono ?_
                  rintro e v8 ⟨rfl, hB⟩
                  rw [decide_eq_true rfl]
                  go_wp2_with fail
                  refine hK.out _ _ ?_ (fun hHeld => ?_)
                  · (try dsimp only at hHeld ⊢)
                    go_split_ands
                    exact ⟨keepc (by assumption) hB, keepc (by assumption) hB, keepc (by assumption) hB, keepc (by assumption) hB, keepc (by assumption) hB, keepc (by assumption) hB, keepc (by assumption) hB, keepc (by assumption) hB, keepc (by assumption) hB, (show Below w9.heap.size w9 _ by assumption).trans (hB.mono (show Below w9.heap.size w9 _ by assumption).size)⟩
                  have HW5 := Lib.hid (HW5.out.below hB)
                  have KA := Lib.hid (KA.out.below hB)
                  have KB := Lib.hid (KB.out.below hB)
                  clear hK K hB BV
                  try simp only [Act.put, List.setIfInBounds_toArray, List.set_cons_zero, List.set_cons_succ]
                  refine take_at 19 (v := ?_) (some 86) rfl rfl (by kernel_rfl) (by kernel_rfl) (by kernel_rfl) (fun _ _ _ h => h) (Or.inl ⟨by rfl, ?_⟩) hHeld ?_
                  rotate_left
                  · (intro w hSw; (try dsimp only at hSw); go_simp; (try with_reducible rfl))
                  simp only [Act.put, List.setIfInBounds_toArray, List.set_cons_zero, List.set_cons_succ]
                  refine take_at 20 (v := ?_) (some 87) rfl rfl (by kernel_rfl) (by kernel_rfl) (by kernel_rfl) (fun _ _ _ h => h) (Or.inl ⟨by rfl, ?_⟩) hHeld ?_
                  rotate_left
                  · (intro w hSw; (try dsimp only at hSw); go_simp; (try with_reducible rfl))
                  simp only [Act.put, List.setIfInBounds_toArray, List.set_cons_zero, List.set_cons_succ]
                  refine wpAnyH_done (by kernel_rfl) ?_ _
                  go_split_ands
                  have B5 := Lib.hid (show Below w9.heap.size w9 _ from by assumption)
                  clear KA KB HW5
                  go_wp2_with fail
                  go_roundw
                  case rel => exact ⟨k + 1, by omega, by go_num, B5.out⟩
                  case measure => simp [intOf]; omega
                · skip
                  have BV := (show Below w9.heap.size w9 v5 from by go_split_ands; assumption)
                  go_simp
                  have hB := (Below.refl v5.heap.size v5).alloc (Nat.le_refl _) (.cells #[.slice p5 (lsAt lc k).length k5] 24)
                  have hk := Bk.new v5 24 [.slice p5 (lsAt lc k).length k5]
                  generalize v5.alloc (.cells #[.slice p5 (lsAt lc k).length k5] 24) = v9 at hB hk ⊢
                  have KB := Lib.hid hk
                  clear hk
                  refine hK.out _ _ ?_ (fun hHeld => ?_)
                  · (try dsimp only at hHeld ⊢)
                    go_split_ands
                    exact ⟨keepc (by assumption) hB, keepc (by assumption) hB, keepc (by assumption) hB, keepc (by assumption) hB, keepc (by assumption) hB, keepc (by assumption) hB, keepc (by assumption) hB, keepc (by assumption) hB, keepc (by assumption) hB, (show Below w9.heap.size w9 _ by assumption).trans (hB.mono (show Below w9.heap.size w9 _ by assumption).size)⟩
                  have HW5 := Lib.hid (HW5.out.below hB)
                  clear hK K hB BV
                  try simp only [Act.put, List.setIfInBounds_toArray, List.set_cons_zero, List.set_cons_succ]
                  refine wpAnyH_ready (rs := [9]) (by kernel_rfl) (by simp) ?_
                  refine AllReadyH.cons rfl (fun K hK => ?_) AllReadyH.nil
                  have BV := (show Below w9.heap.size w9 v9 from by go_split_ands; assumption)
                  go_simp
                  have hB := (Below.refl v9.heap.size v9).alloc (Nat.le_refl _) (.cells #[.slice py (lsAt lc k).length cy] 24)
                  have hk := Bk.new v9 24 [.slice py (lsAt lc k).length cy]
                  generalize v9.alloc (.cells #[.slice py (lsAt lc k).length cy] 24) = v10 at hB hk ⊢
                  have KA := Lib.hid hk
                  clear hk
                  refine hK.out _ _ ?_ (fun hHeld => ?_)
                  · (try dsimp only at hHeld ⊢)
                    go_split_ands
                    exact ⟨keepc (by assumption) hB, keepc (by assumption) hB, keepc (by assumption) hB, keepc (by assumption) hB, keepc (by assumption) hB, keepc (by assumption) hB, keepc (by assumption) hB, keepc (by assumption) hB, keepc (by assumption) hB, (show Below w9.heap.size w9 _ by assumption).trans (hB.mono (show Below w9.heap.size w9 _ by assumption).size)⟩
                  have HW5 := Lib.hid (HW5.out.below hB)
                  have KB := Lib.hid (KB.out.below hB)
                  clear hK K hB BV
                  try simp only [Act.put, List.setIfInBounds_toArray, List.set_cons_zero, List.set_cons_succ]
                  refine wpAnyH_ready (rs := [18]) (by kernel_rfl) (by simp) ?_
                  refine AllReadyH.cons rfl (fun K hK => ?_) AllReadyH.nil
                  have BV := (show Below w9.heap.size w9 v10 from by go_split_ands; assumption)
                  go_simp
                  go_at_call 17
                  refine (rvsame_any _ _ [lsAt lc k] [lsAt lc k] _ (vals_one KA.out (HYW.out.below BV)) (vals_one KB.out HW5.out) (show 1 ≤ _ by decide) (show 1 ≤ _ by decide) (one_B (by have := HYL.out; omega)) (one_B (by have := HYL.out; omega))).mono ?_
                  rintro e v11 ⟨rfl, hB⟩
                  rw [decide_eq_true rfl]
                  go_wp2_with fail
                  refine hK.out _ _ ?_ (fun hHeld => ?_)
                  · (try dsimp only at hHeld ⊢)
                    go_split_ands
                    exact ⟨keepc (by assumption) hB, keepc (by assumption) hB, keepc (by assumption) hB, keepc (by assumption) hB, keepc (by assumption) hB, keepc (by assumption) hB, keepc (by assumption) hB, keepc (by assumption) hB, keepc (by assumption) hB, (show Below w9.heap.size w9 _ by assumption).trans (hB.mono (show Below w9.heap.size w9 _ by assumption).size)⟩
                  have HW5 := Lib.hid (HW5.out.below hB)
                  have KB := Lib.hid (KB.out.below hB)
                  have KA := Lib.hid (KA.out.below hB)
                  clear hK K hB BV
                  try simp only [Act.put, List.setIfInBounds_toArray, List.set_cons_zero, List.set_cons_succ]
                  refine take_at 19 (v := ?_) (some 86) rfl rfl (by kernel_rfl) (by kernel_rfl) (by kernel_rfl) (fun _ _ _ h => h) (Or.inl ⟨by rfl, ?_⟩) hHeld ?_
                  rotate_left
                  · (intro w hSw; (try dsimp only at hSw); go_simp; (try with_reducible rfl))
                  simp only [Act.put, List.setIfInBounds_toArray, List.set_cons_zero, List.set_cons_succ]
                  refine take_at 20 (v := ?_) (some 87) rfl rfl (by kernel_rfl) (by kernel_rfl) (by kernel_rfl) (fun _ _ _ h => h) (Or.inl ⟨by rfl, ?_⟩) hHeld ?_
                  rotate_left
                  · (intro w hSw; (try dsimp only at hSw); go_simp; (try with_reducible rfl))
                  simp only [Act.put, List.setIfInBounds_toArray, List.set_cons_zero, List.set_cons_succ]
                  refine wpAnyH_done (by kernel_rfl) ?_ _
                  go_split_ands
                  have B5 := Lib.hid (show Below w9.heap.size w9 _ from by assumption)
                  clear KA KB HW5
                  go_wp2_with fail
                  go_roundw
                  case rel => exact ⟨k + 1, by omega, by go_num, B5.out⟩
                  case measure => simp [intOf]; omega
            · obtain rfl : k = lc.length := by omega
              have q5 := HEQ.out
              go_wp2_with fail
              go_ret
              exact ⟨ret_bool (by simp), BZ.out⟩


end Go.Proofs.YtmidbfnmkfncgaaGreat
