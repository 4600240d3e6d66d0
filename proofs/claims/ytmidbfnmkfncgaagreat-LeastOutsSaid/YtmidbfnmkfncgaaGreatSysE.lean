/-
  least.Outs, most, Iterate; soughref18.Solve, Enough: contracts. Written by wip/gen/mksysE.py.
-/
import Derived.Test.YtmidbfnmkfncgaaGreatSysC
import Derived.Test.YtmidbfnmkfncgaaGreatPk3
import Derived.Test.YtmidbfnmkfncgaaGreatSysB
namespace Go.Proofs.YtmidbfnmkfncgaaGreat
open Go.RowKit

def outsE (s : SysT) (a : List (List Nat)) : List (List Nat) := (List.range s.nodes.toNat).map fun v : Nat => applyT s v (lsAt a v)
theorem out_ok' {s : SysT} {v : Int} {a : List Nat} (h : checkS s = 0) (hv : 0 ≤ v ∧ v < s.nodes) (va : valueE s.what s.width a = true) : outL s v a = applyT s v.toNat a := by
  have hn : nodeE s.nodes v = true := nodeE_iff.2 hv
  have hc : checkV s v = 0 := by rw [cv_ok v h, if_pos hn]
  have ok := okS_of h
  have hct := ok.tr v.toNat (by have := ok.tl; omega)
  unfold outL
  rw [if_pos hc, apply_is hct va]
  rfl
theorem below_self {s : SysT} {a : List (List Nat)} (h0 : checkS s = 0) (ha : LtA a) : sbelowE s a a = valuesE s a := by
  unfold sbelowE
  rw [decide_eq_true h0, Bool.true_and]
  cases hv : valuesE s a with
  | false => rfl
  | true =>
    rw [Bool.true_and, Bool.true_and]
    refine belowS_of rfl fun v hv2 => ?_
    exact below_refl (ha v hv2) (values_at hv v (by rw [← values_len hv]; exact hv2))

set_option maxHeartbeats 3200000 in
set_option maxRecDepth 100000 in
theorem louts_any (s : SysT) (ve vn vi vt : Value) (va : Value) (a : List (List Nat)) (w : World) (hL : SysL w ve vn vi vt s) (hb : SysF s) (ha : Vals w va a) (hna : a.length ≤ 100000) (hma : ValsB 100000 a) :
    Calls Tryz.prog 28 #[.agg #[.int .i64 s.what, .int .i64 s.width, .int .i64 s.nodes, ve, vn, vi, vt], va] w fun e w' => ∃ u, e = .returned (.tuple #[u, .int .i64 (stepC s a)]) ∧ Vals w' u (okV (stepC s a) (outsE s a)) ∧ Below w.heap.size w w' := by
  have HS := Lib.hid hL
  obtain ⟨pe, ce, rfl⟩ := hL.1.len
  obtain ⟨pn, cn, rfl⟩ := hL.2.1.len
  obtain ⟨pi, ci, rfl⟩ := ws_len hL.2.2.1
  obtain ⟨pt, ct, rfl⟩ := hL.2.2.2.len
  have KS := Lib.hid (Bk.new w 27 [.int .i64 s.what, .int .i64 s.width, .int .i64 s.nodes, .slice pe s.E.length ce, .slice pn s.N.length cn, .slice pi s.I.length ci, .slice pt s.T.length ct])
  have B0 := Lib.hid ((Below.refl w.heap.size w).alloc (Nat.le_refl _) (.cells #[.int .i64 s.what, .int .i64 s.width, .int .i64 s.nodes, .slice pe s.E.length ce, .slice pn s.N.length cn, .slice pi s.I.length ci, .slice pt s.T.length ct] 27))
  have HS0 := Lib.hid (HS.out.below B0.out)
  clear hL
  have HF := Lib.hid hb
  clear hb

  have HA0 := Lib.hid (ha.below B0.out)
  have HMA := Lib.hid hma
  have HLA := Lib.hid (ltA_of ha)
  have HLS := Lib.hid (ltS_of HS.out)
  obtain ⟨pa, ca, rfl⟩ := ha.len
  clear ha hma
  obtain ⟨qc, hqc⟩ : ∃ z, z = stepC s a := ⟨_, rfl⟩
  have HQ := Lib.hid hqc
  rw [← hqc]
  clear hqc
  go_enter Tryz.func28, Tryz.ntmps28
  go_wp2_with fail
  refine (scheck_any s _ _ _ _ _ HS0.out HF.out).mono ?_
  rintro e w1 ⟨rfl, hB⟩
  have HS1 := Lib.hid (HS0.out.below hB)
  have HA1 := Lib.hid (HA0.out.below hB)
  have K0 := KS
  have B1 := Lib.hid (B0.out.trans (hB.mono B0.out.size))
  have K1 := Lib.hid (K0.out.below hB)
  obtain ⟨c0, c1, c2, c3, c4, c5, c6⟩ := K1.out.seven
  clear hB

  obtain ⟨ce, hce⟩ : ∃ z, z = checkS s := ⟨_, rfl⟩
  have Nce := Lib.hid hce
  rw [← hce]
  clear hce
  by_cases h0 : ce = 0
  case neg =>
    have hnb2 : (ce != 0) = true := by simpa using h0
    have HV := Lib.hid (show qc = ce by rw [HQ.out, sc_bad (by rw [← Nce.out]; exact h0)]; exact Nce.out.symm)
    have HN := Lib.hid h0
    clear h0
    go_wp2_with fail
    go_ret2
    exact ⟨.slice none 0 0, (by have h := HV.out; subst h; rfl), by rw [okV_no (by rw [HV.out]; exact HN.out)]; exact vals_nil _, B1.out⟩
  subst h0
  have HBS := Lib.hid (below_self Nce.out.symm HLA.out)
  go_wp2_with fail
  refine (sBelow_any s _ _ _ _ _ _ a a _ HS1.out HF.out HA1.out HA1.out hna HMA.out hna HMA.out).mono ?_
  rintro e w2 ⟨rfl, hB⟩
  rw [HBS.out]
  have HS2 := Lib.hid (HS1.out.below hB)
  have HA2 := Lib.hid (HA1.out.below hB)
  clear c0 c1 c2 c3 c4 c5 c6
  have B2 := Lib.hid (B1.out.trans (hB.mono B1.out.size))
  have K2 := Lib.hid (K1.out.below hB)
  obtain ⟨c0, c1, c2, c3, c4, c5, c6⟩ := K2.out.seven
  clear hB

  cases hva : valuesE s a with
  | false =>
    have HV := Lib.hid (show qc = 2 by rw [HQ.out, sc_dom Nce.out.symm hva])
    clear hva
    go_wp2_with fail
    go_ret2
    exact ⟨.slice none 0 0, (by have h := HV.out; subst h; rfl), by rw [okV_no (by rw [HV.out]; decide)]; exact vals_nil _, B2.out⟩
  | true =>
    have HVA := Lib.hid hva
    have HV := Lib.hid (show qc = 0 by rw [HQ.out, sc_ok Nce.out.symm hva])
    clear hva
    have OK := Lib.hid (okS_of Nce.out.symm)
    obtain ⟨n, hn⟩ : ∃ n : Nat, s.nodes = n := ⟨s.nodes.toNat, by have := OK.out.n1; omega⟩
    have hn2 : n ≤ 256 := by have := OK.out.n2; omega
    have hmk := make_lists n s.nodes hn.symm (by omega)
    have HN := Lib.hid hn
    have HNT := Lib.hid (show s.nodes.toNat = n by omega)
    have hAn1 : a.length ≤ n := by have := values_len HVA.out; omega
    have hAn2 : n ≤ a.length := by have := values_len HVA.out; omega
    clear hn
    have hgs : w.heap.size < w2.heap.size := K2.out.lt
    obtain ⟨ft, hft⟩ : ∃ f : Nat → List Nat, f = fun v : Nat => applyT s v (lsAt a v) := ⟨_, rfl⟩
    have HFT := Lib.hid hft
    clear hft
    obtain ⟨C0, C1, C2, C3, C4, C5, C6⟩ := K2.out.seven
    have CS := Lib.hid (And.intro C0 (And.intro C1 (And.intro C2 (And.intro C3 (And.intro C4 (And.intro C5 C6))))))
    clear C0 C1 C2 C3 C4 C5 C6
    obtain ⟨g2, hg2d⟩ : ∃ g, g = w2.heap.size := ⟨_, rfl⟩
    have hg2 : w2.heap.size ≤ g2 := by omega
    have hgw2 : w.heap.size ≠ g2 := by omega
    have HG2 := Lib.hid hg2d
    go_wp2_with fail
    rw [← hg2d]
    clear hmk hg2d c0 c1 c2 c3 c4 c5 c6
    go_loopw [24] (fun i wr => ∃ k : Nat, k ≤ n ∧ i = .int .i64 k ∧ VB wr g2 (filled ft n k) ∧ Below w2.heap.size w2 wr ∧ Bk wr w.heap.size 27 [.int .i64 s.what, .int .i64 s.width, .int .i64 s.nodes, .slice pe s.E.length ce, .slice pn s.N.length cn, .slice pi s.I.length ci, .slice pt s.T.length ct])
      (fun i _ => n - (intOf i).toNat)
    case atStart => exact ⟨0, Nat.zero_le _, rfl, by rw [filled_zero, HG2.out]; exact VB.new _ _, (Below.refl _ _).alloc (Nat.le_refl _) _, K2.out.alloc _⟩
    case round =>
      obtain ⟨k, hk, rfl, hV2, hB, hK⟩ := hrel
      have HV2 := Lib.hid hV2
      have BW := Lib.hid hB
      have K3 := Lib.hid hK
      clear hV2 hB hK
      by_cases hlt : k < n
      · have hki : (k : Int) < n := by omega
        have hkA : (k : Int) < a.length := by omega
        obtain ⟨_, _, h5, hac⟩ := HA2.out
        simp only [Value.slice.injEq, true_and] at h5
        obtain ⟨rfl, rfl⟩ := h5
        obtain ⟨ba, oa, rfl, hda⟩ := hac (by omega)
        obtain ⟨vx, E0, hX⟩ := hda k (by omega)
        have HX := Lib.hid hX
        have HXL := Lib.hid (HMA.out k (by omega))
        obtain ⟨px, cx, rfl⟩ := ws_len hX
        have HAR := Lib.hid (show outL s (k : Int) (lsAt a k) = ft k by
          rw [(out_ok' Nce.out.symm (show (0:Int) ≤ k ∧ (k:Int) < s.nodes by have := HN.out; omega) (values_at HVA.out k (by rw [HNT.out]; exact hlt))), HFT.out]; rfl)
        obtain ⟨C0, C1, C2, C3, C4, C5, C6⟩ := CS.out
        have BWd := Lib.hid BW.out.drew
        have HV24 := Lib.hid (HV2.out.below (Below.refl _ _).drew)
        have K4 := Lib.hid K3.out.drew
        clear hX hda hac
        go_wp2_with fail
        refine wp_region_held_drew (S := (fun w' => w'.cell? ⟨w.heap.size, 0, none⟩ = some (.int .i64 s.what) ∧ w'.cell? ⟨w.heap.size, 1, none⟩ = some (.int .i64 s.width) ∧ w'.cell? ⟨w.heap.size, 2, none⟩ = some (.int .i64 s.nodes) ∧ w'.cell? ⟨w.heap.size, 3, none⟩ = some (.slice pe s.E.length ce) ∧ w'.cell? ⟨w.heap.size, 4, none⟩ = some (.slice pn s.N.length cn) ∧ w'.cell? ⟨w.heap.size, 5, none⟩ = some (.slice pi s.I.length ci) ∧ w'.cell? ⟨w.heap.size, 6, none⟩ = some (.slice pt s.T.length ct) ∧ w'.cell? ⟨ba, oa + k, none⟩ = some (.slice px (lsAt a k).length cx) ∧ Below w2.heap.size w2 w')) (by kernel_rfl) ?_ (fun hHeld => ?_)
        · exact ⟨keepc C0 BWd.out, keepc C1 BWd.out, keepc C2 BWd.out, keepc C3 BWd.out, keepc C4 BWd.out, keepc C5 BWd.out, keepc C6 BWd.out, keepc E0 BWd.out, BWd.out⟩
        refine take_at 0 (v := ?_) (some 28) rfl rfl (by kernel_rfl) (by kernel_rfl) (by kernel_rfl) (fun _ _ _ h => h) (Or.inl ⟨by rfl, ?_⟩) hHeld ?_
        rotate_left
        · (intro w hSw; (try dsimp only at hSw); go_simp; (try with_reducible rfl))
        simp only [Act.put, List.setIfInBounds_toArray, List.set_cons_zero, List.set_cons_succ]
        refine take_at 1 (v := ?_) (some 29) rfl rfl (by kernel_rfl) (by kernel_rfl) (by kernel_rfl) (fun _ _ _ h => h) (Or.inl ⟨by rfl, ?_⟩) hHeld ?_
        rotate_left
        · (intro w hSw; (try dsimp only at hSw); go_simp; (try with_reducible rfl))
        simp only [Act.put, List.setIfInBounds_toArray, List.set_cons_zero, List.set_cons_succ]
        refine take_at 2 (v := ?_) (some 30) rfl rfl (by kernel_rfl) (by kernel_rfl) (by kernel_rfl) (fun _ _ _ h => h) (Or.inl ⟨by rfl, ?_⟩) hHeld ?_
        rotate_left
        · (intro w hSw; (try dsimp only at hSw); go_simp; (try with_reducible rfl))
        simp only [Act.put, List.setIfInBounds_toArray, List.set_cons_zero, List.set_cons_succ]
        refine take_at 3 (v := ?_) (some 31) rfl rfl (by kernel_rfl) (by kernel_rfl) (by kernel_rfl) (fun _ _ _ h => h) (Or.inl ⟨by rfl, ?_⟩) hHeld ?_
        rotate_left
        · (intro w hSw; (try dsimp only at hSw); go_simp; (try with_reducible rfl))
        simp only [Act.put, List.setIfInBounds_toArray, List.set_cons_zero, List.set_cons_succ]
        refine take_at 4 (v := ?_) (some 32) rfl rfl (by kernel_rfl) (by kernel_rfl) (by kernel_rfl) (fun _ _ _ h => h) (Or.inl ⟨by rfl, ?_⟩) hHeld ?_
        rotate_left
        · (intro w hSw; (try dsimp only at hSw); go_simp; (try with_reducible rfl))
        simp only [Act.put, List.setIfInBounds_toArray, List.set_cons_zero, List.set_cons_succ]
        refine take_at 5 (v := ?_) (some 33) rfl rfl (by kernel_rfl) (by kernel_rfl) (by kernel_rfl) (fun _ _ _ h => h) (Or.inl ⟨by rfl, ?_⟩) hHeld ?_
        rotate_left
        · (intro w hSw; (try dsimp only at hSw); go_simp; (try with_reducible rfl))
        simp only [Act.put, List.setIfInBounds_toArray, List.set_cons_zero, List.set_cons_succ]
        refine take_at 6 (v := ?_) (some 34) rfl rfl (by kernel_rfl) (by kernel_rfl) (by kernel_rfl) (fun _ _ _ h => h) (Or.inl ⟨by rfl, ?_⟩) hHeld ?_
        rotate_left
        · (intro w hSw; (try dsimp only at hSw); go_simp; (try with_reducible rfl))
        simp only [Act.put, List.setIfInBounds_toArray, List.set_cons_zero, List.set_cons_succ]
        refine take_at 7 (v := ?_) (some 35) rfl rfl (by kernel_rfl) (by kernel_rfl) (by kernel_rfl) (fun _ _ _ h => h) (Or.inl ⟨by rfl, ?_⟩) hHeld ?_
        rotate_left
        · (intro w hSw; (try dsimp only at hSw); go_simp; (try with_reducible rfl))
        simp only [Act.put, List.setIfInBounds_toArray, List.set_cons_zero, List.set_cons_succ]
        refine wpAnyH_ready (rs := [8]) (by kernel_rfl) (by simp) ?_
        refine AllReadyH.cons rfl (fun K hK => ?_) AllReadyH.nil
        go_simp
        go_at_call 66; go_split_ands; refine (sOut_any s _ _ _ _ (k : Int) _ (lsAt a k) _ (HS2.out.below (by assumption)) HF.out (HX.out.below (by assumption)) HXL.out).mono ?_; rintro e w5 ⟨u2, rfl, hW2, hB⟩; rw [HAR.out] at hW2; have HW2 := Lib.hid hW2; have HV25 := Lib.hid (HV24.out.below hB); have K5 := Lib.hid (K4.out.below hB); obtain ⟨pu2, cu2, rfl⟩ := ws_len hW2; clear hW2
        go_wp2_with fail
        refine hK.out _ _ ?_ (fun hHeld => ?_)
        · (try dsimp only at hHeld ⊢)
          go_split_ands
          exact ⟨keepc C0 ((show Below w2.heap.size w2 _ by assumption).trans (hB.mono (show Below w2.heap.size w2 _ by assumption).size)), keepc C1 ((show Below w2.heap.size w2 _ by assumption).trans (hB.mono (show Below w2.heap.size w2 _ by assumption).size)), keepc C2 ((show Below w2.heap.size w2 _ by assumption).trans (hB.mono (show Below w2.heap.size w2 _ by assumption).size)), keepc C3 ((show Below w2.heap.size w2 _ by assumption).trans (hB.mono (show Below w2.heap.size w2 _ by assumption).size)), keepc C4 ((show Below w2.heap.size w2 _ by assumption).trans (hB.mono (show Below w2.heap.size w2 _ by assumption).size)), keepc C5 ((show Below w2.heap.size w2 _ by assumption).trans (hB.mono (show Below w2.heap.size w2 _ by assumption).size)), keepc C6 ((show Below w2.heap.size w2 _ by assumption).trans (hB.mono (show Below w2.heap.size w2 _ by assumption).size)), keepc E0 ((show Below w2.heap.size w2 _ by assumption).trans (hB.mono (show Below w2.heap.size w2 _ by assumption).size)), ((show Below w2.heap.size w2 _ by assumption).trans (hB.mono (show Below w2.heap.size w2 _ by assumption).size))⟩
        clear hK K hB
        try simp only [Act.put, List.setIfInBounds_toArray, List.set_cons_zero, List.set_cons_succ]
        refine take_at 9 (v := ?_) (some 27) rfl rfl (by kernel_rfl) (by kernel_rfl) (by kernel_rfl) (fun _ _ _ h => h) (Or.inl ⟨by rfl, ?_⟩) hHeld ?_
        rotate_left
        · (intro w hSw; (try dsimp only at hSw); go_simp; (try with_reducible rfl))
        simp only [Act.put, List.setIfInBounds_toArray, List.set_cons_zero, List.set_cons_succ]
        refine take_at 10 (v := ?_) (some 37) rfl rfl (by kernel_rfl) (by kernel_rfl) (by kernel_rfl) (fun _ _ _ h => h) (Or.inl ⟨by rfl, ?_⟩) hHeld ?_
        rotate_left
        · (intro w hSw; (try dsimp only at hSw); go_simp; (try with_reducible rfl))
        simp only [Act.put, List.setIfInBounds_toArray, List.set_cons_zero, List.set_cons_succ]
        refine take_at 11 (v := ?_) (some 38) rfl rfl (by kernel_rfl) (by kernel_rfl) (by kernel_rfl) (fun _ _ _ h => h) (Or.inl ⟨by rfl, ?_⟩) hHeld ?_
        rotate_left
        · (intro w hSw; (try dsimp only at hSw); go_simp; (try with_reducible rfl))
        simp only [Act.put, List.setIfInBounds_toArray, List.set_cons_zero, List.set_cons_succ]
        refine take_at 12 (v := ?_) (some 39) rfl rfl (by kernel_rfl) (by kernel_rfl) (by kernel_rfl) (fun _ _ _ h => h) (Or.inl ⟨by rfl, ?_⟩) hHeld ?_
        rotate_left
        · (intro w hSw; (try dsimp only at hSw); go_simp; (try with_reducible rfl))
        simp only [Act.put, List.setIfInBounds_toArray, List.set_cons_zero, List.set_cons_succ]
        obtain ⟨p2, c2, hcell2, _, hfree2⟩ := HV25.out.cell k (by rw [filled_len]; exact hlt)
        have HV26 := Lib.hid (HV25.out.set k (by rw [filled_len]; exact hlt) HW2.out)
        rw [filled_step ft n k] at HV26
        have K6 := Lib.hid (K5.out.far (p := ⟨g2, k, none⟩) hgw2 (.slice pu2 (ft k).length cu2))
        refine wpAnyH_ready (rs := [13]) (by kernel_rfl) (by simp) ?_
        refine AllReadyH.cons rfl (fun K hK => ?_) AllReadyH.nil
        go_simp
        refine hK.out _ _ ?_ (fun hHeld => ?_)
        · (try dsimp only at hHeld ⊢)
          go_split_ands
          exact ⟨keepc C0 ((show Below w2.heap.size w2 _ by assumption).setCell (p := ⟨g2, k, none⟩) (by assumption) _), keepc C1 ((show Below w2.heap.size w2 _ by assumption).setCell (p := ⟨g2, k, none⟩) (by assumption) _), keepc C2 ((show Below w2.heap.size w2 _ by assumption).setCell (p := ⟨g2, k, none⟩) (by assumption) _), keepc C3 ((show Below w2.heap.size w2 _ by assumption).setCell (p := ⟨g2, k, none⟩) (by assumption) _), keepc C4 ((show Below w2.heap.size w2 _ by assumption).setCell (p := ⟨g2, k, none⟩) (by assumption) _), keepc C5 ((show Below w2.heap.size w2 _ by assumption).setCell (p := ⟨g2, k, none⟩) (by assumption) _), keepc C6 ((show Below w2.heap.size w2 _ by assumption).setCell (p := ⟨g2, k, none⟩) (by assumption) _), keepc E0 ((show Below w2.heap.size w2 _ by assumption).setCell (p := ⟨g2, k, none⟩) (by assumption) _), ((show Below w2.heap.size w2 _ by assumption).setCell (p := ⟨g2, k, none⟩) (by assumption) _)⟩
        clear hK K
        try simp only [Act.put, List.setIfInBounds_toArray, List.set_cons_zero, List.set_cons_succ]
        refine wpAnyH_done (by kernel_rfl) ?_ _
        have B6 := Lib.hid hHeld.2.2.2.2.2.2.2.2
        clear hHeld hcell2 hfree2
        go_wp2_with fail
        go_roundw
        case rel => exact ⟨k + 1, by omega, by go_num, HV26.out, B6.out, K6.out⟩
        case measure => simp [intOf]; omega
      · obtain rfl : k = n := by omega
        have HVS := Lib.hid (show VB wr g2 (outsE s a) by
          have e : outsE s a = filled ft k k := by rw [filled_all]; unfold outsE; rw [HNT.out, HFT.out]
          rw [e]; exact HV2.out)
        have BZ := Lib.hid (B2.out.trans (BW.out.mono B2.out.size))
        go_wp2_with fail
        go_ret2
        exact ⟨_, (by have h := HV.out; subst h; rfl), by rw [HV.out, okV_yes]; exact HVS.out.vals (by unfold outsE; rw [List.length_map, List.length_range, HNT.out]), BZ.out⟩


/-- An int, and what it is where the system may be. -/
def SomeM (s : SysT) (e : Ending) : Prop := ∃ m : Int, e = .returned (.int .i64 m) ∧ (-9223372036854775808 ≤ m ∧ m ≤ 9223372036854775807) ∧ (OkS s → m = s.nodes * heightE s.what s.width + 1)
theorem wrap_bd (n : Int) : -9223372036854775808 ≤ IntKind.i64.wrap n ∧ IntKind.i64.wrap n ≤ 9223372036854775807 := by rw [IntKind.wrap_i64]; omega

set_option maxHeartbeats 3200000 in
set_option maxRecDepth 100000 in
theorem lmost_any (s : SysT) (ve vn vi vt : Value) (w : World) (hL : SysL w ve vn vi vt s) :
    Calls Tryz.prog 61 #[.agg #[.int .i64 s.what, .int .i64 s.width, .int .i64 s.nodes, ve, vn, vi, vt]] w fun e w' => SomeM s e ∧ Below w.heap.size w w' := by
  have HS := Lib.hid hL
  obtain ⟨pe, ce, rfl⟩ := hL.1.len
  obtain ⟨pn, cn, rfl⟩ := hL.2.1.len
  obtain ⟨pi, ci, rfl⟩ := ws_len hL.2.2.1
  obtain ⟨pt, ct, rfl⟩ := hL.2.2.2.len
  have KS := Lib.hid (Bk.new w 27 [.int .i64 s.what, .int .i64 s.width, .int .i64 s.nodes, .slice pe s.E.length ce, .slice pn s.N.length cn, .slice pi s.I.length ci, .slice pt s.T.length ct])
  have B0 := Lib.hid ((Below.refl w.heap.size w).alloc (Nat.le_refl _) (.cells #[.int .i64 s.what, .int .i64 s.width, .int .i64 s.nodes, .slice pe s.E.length ce, .slice pn s.N.length cn, .slice pi s.I.length ci, .slice pt s.T.length ct] 27))
  have HS0 := Lib.hid (HS.out.below B0.out)
  clear hL

  obtain ⟨c0, c1, c2, c3, c4, c5, c6⟩ := KS.out.seven
  obtain ⟨h, hh⟩ : ∃ z, z = heightE s.what s.width := ⟨_, rfl⟩
  have HH := Lib.hid hh
  clear hh
  go_enter Tryz.func61, Tryz.ntmps61
  go_wp2_with fail
  go_region_held3 (fun w' => w'.cell? ⟨w.heap.size, 0, none⟩ = some (.int .i64 s.what) ∧ w'.cell? ⟨w.heap.size, 1, none⟩ = some (.int .i64 s.width) ∧ w'.cell? ⟨w.heap.size, 2, none⟩ = some (.int .i64 s.nodes) ∧ Below w.heap.size w w')
    (first
      | exact ⟨c0, c1, c2, B0.out.drew⟩
      | (go_split_ands; exact ⟨keepc (by assumption) hB, keepc (by assumption) hB, keepc (by assumption) hB, bel_then (by assumption) hB⟩))
    (first
      | (go_at_call 69; refine (lheight_any s.what s.width _).mono ?_; rintro e w' ⟨rfl, hww⟩; rw [← HH.out]; have hB := below_same' hww; clear hww))
  go_split_ands
  have B1 := Lib.hid (show Below w.heap.size w _ from by assumption)
  go_wp2_with fail
  go_ret
  refine ⟨⟨_, rfl, ?_, fun hok => ?_⟩, B1.out⟩
  · first | exact wrap_bd _ | (rw [← IntWalk.i64_left]; exact wrap_bd _)
  · obtain ⟨p1, p2⟩ := prod_bd hok
    rw [← HH.out] at p1 p2 ⊢
    first
    | (rw [IntWalk.i64_in (s.nodes * h) (by omega), IntWalk.i64_in _ (by omega)])
    | (rw [← IntWalk.i64_left, IntWalk.i64_in (s.nodes * h) (by omega), IntWalk.i64_in _ (by omega)])

set_option maxHeartbeats 3200000 in
set_option maxRecDepth 100000 in
theorem renough_any (s : SysT) (ve vn vi vt : Value) (w : World) (hL : SysL w ve vn vi vt s) :
    Calls Tryz.prog 27 #[.agg #[.int .i64 s.what, .int .i64 s.width, .int .i64 s.nodes, ve, vn, vi, vt]] w fun e w' => SomeM s e ∧ Below w.heap.size w w' := by
  have HS := Lib.hid hL
  obtain ⟨pe, ce, rfl⟩ := hL.1.len
  obtain ⟨pn, cn, rfl⟩ := hL.2.1.len
  obtain ⟨pi, ci, rfl⟩ := ws_len hL.2.2.1
  obtain ⟨pt, ct, rfl⟩ := hL.2.2.2.len
  have KS := Lib.hid (Bk.new w 27 [.int .i64 s.what, .int .i64 s.width, .int .i64 s.nodes, .slice pe s.E.length ce, .slice pn s.N.length cn, .slice pi s.I.length ci, .slice pt s.T.length ct])
  have B0 := Lib.hid ((Below.refl w.heap.size w).alloc (Nat.le_refl _) (.cells #[.int .i64 s.what, .int .i64 s.width, .int .i64 s.nodes, .slice pe s.E.length ce, .slice pn s.N.length cn, .slice pi s.I.length ci, .slice pt s.T.length ct] 27))
  have HS0 := Lib.hid (HS.out.below B0.out)
  clear hL

  obtain ⟨c0, c1, c2, c3, c4, c5, c6⟩ := KS.out.seven
  obtain ⟨h, hh⟩ : ∃ z, z = heightE s.what s.width := ⟨_, rfl⟩
  have HH := Lib.hid hh
  clear hh
  go_enter Tryz.func27, Tryz.ntmps27
  go_wp2_with fail
  go_region_held3 (fun w' => w'.cell? ⟨w.heap.size, 0, none⟩ = some (.int .i64 s.what) ∧ w'.cell? ⟨w.heap.size, 1, none⟩ = some (.int .i64 s.width) ∧ w'.cell? ⟨w.heap.size, 2, none⟩ = some (.int .i64 s.nodes) ∧ Below w.heap.size w w')
    (first
      | exact ⟨c0, c1, c2, B0.out.drew⟩
      | (go_split_ands; exact ⟨keepc (by assumption) hB, keepc (by assumption) hB, keepc (by assumption) hB, bel_then (by assumption) hB⟩))
    (first
      | (go_at_call 32; refine (rlheight_any s.what s.width _).mono ?_; rintro e w' ⟨rfl, hww⟩; rw [← HH.out]; have hB := below_same' hww; clear hww))
  go_split_ands
  have B1 := Lib.hid (show Below w.heap.size w _ from by assumption)
  go_wp2_with fail
  go_ret
  refine ⟨⟨_, rfl, ?_, fun hok => ?_⟩, B1.out⟩
  · first | exact wrap_bd _ | (rw [← IntWalk.i64_left]; exact wrap_bd _)
  · obtain ⟨p1, p2⟩ := prod_bd hok
    rw [← HH.out] at p1 p2 ⊢
    first
    | (rw [IntWalk.i64_in (s.nodes * h) (by omega), IntWalk.i64_in _ (by omega)])
    | (rw [← IntWalk.i64_left, IntWalk.i64_in (s.nodes * h) (by omega), IntWalk.i64_in _ (by omega)])


/-- As long as fewer than m were made, and two aren't alike. -/
def ltP (m : Int) (a b : List (List Nat)) (k : Nat) : Bool := decide ((k : Int) < m) && !(decide (a = b))
theorem climb_unique {s : SysT} {P : List (List Nat) → List (List Nat) → Nat → Bool} {k l : Nat} (h : ClimbAt s P k) (h2 : ClimbAt s P l) : k = l := by
  rcases Nat.lt_trichotomy k l with hk | hk | hk
  · have := h2.on k hk
    rw [h.off] at this
    cases this
  · exact hk
  · have := h.on l hk
    rw [h2.off] at this
    cases this
theorem climb_lt {s : SysT} {k : Nat} {m : Int} (h : ClimbAt s neP k) (hk : (k : Int) < m) : ClimbAt s (ltP m) k := by
  refine ⟨fun j hj => ?_, ?_⟩
  · have := neP_on (h.on j hj)
    unfold ltP
    rw [decide_eq_true (by omega), decide_eq_false this]
    rfl
  · have := neP_off h.off
    unfold ltP
    rw [decide_eq_true this]
    simp

set_option maxHeartbeats 3200000 in
set_option maxRecDepth 100000 in
theorem iter1_any (va vb : Value) (a b : List (List Nat)) (n m : Int) (g : Nat) (w : World) (hc : w.cell? ⟨g, 0, none⟩ = some (.int .i64 m)) (ha : Vals w va a) (hb : Vals w vb b) (hna : a.length ≤ 9223372036854775807) (hnb : b.length ≤ 9223372036854775807) (hma : ValsB 9223372036854775807 a) (hmb : ValsB 9223372036854775807 b) :
    Calls Tryz.prog 63 #[va, vb, .int .i64 n, .pointer (some ⟨g, 0, none⟩)] w fun e w' => e = .returned (.bool (decide (n < m) && !(decide (a = b)))) ∧ Below w.heap.size w w' := by
  have HA := Lib.hid ha
  have HB := Lib.hid hb
  obtain ⟨pa, ca, rfl⟩ := ha.len
  obtain ⟨pb, cb, rfl⟩ := hb.len
  clear ha hb
  by_cases h : n < m
  · go_enter Tryz.func63, Tryz.ntmps63
    go_wp2_with fail
    refine (lsame_any _ _ a b _ HA.out HB.out hna hnb hma hmb).mono ?_
    rintro e w1 ⟨rfl, hB⟩
    have B1 := Lib.hid hB
    clear hB
    obtain ⟨q, hq⟩ : ∃ q, q = decide (a = b) := ⟨_, rfl⟩
    have HQ := Lib.hid hq
    rw [← hq]
    clear hq
    go_wp2_with fail
    go_ret
    exact ⟨ret_bool (by rw [HQ.out, decide_eq_true h, Bool.true_and]), B1.out⟩
  · have BR := Lib.hid (Below.refl w.heap.size w)
    go_enter Tryz.func63, Tryz.ntmps63
    go_wp2_with fail
    go_ret
    exact ⟨ret_bool (by simp; omega), BR.out⟩

set_option maxHeartbeats 3200000 in
set_option maxRecDepth 100000 in
theorem rsolve18_any (s : SysT) (ve vn vi vt : Value) (m : Int) (w : World) (hL : SysL w ve vn vi vt s) (hb : SysF s) (hok : OkS s) (hwn : wordsN s.what s.width ≤ 1000) (hm : 0 ≤ m ∧ m ≤ 1000000) :
    Calls Tryz.prog 26 #[.agg #[.int .i64 s.what, .int .i64 s.width, .int .i64 s.nodes, ve, vn, vi, vt], .int .i64 m] w fun e w' => ∃ (k : Nat) (u : Value), e = .returned (.tuple #[u, .int .i64 (k : Nat)]) ∧ Vals w' u (iterE s k) ∧ ClimbAt s (ltP m) k ∧ Below w.heap.size w w' := by
  have HS := Lib.hid hL
  obtain ⟨pe, ce, rfl⟩ := hL.1.len
  obtain ⟨pn, cn, rfl⟩ := hL.2.1.len
  obtain ⟨pi, ci, rfl⟩ := ws_len hL.2.2.1
  obtain ⟨pt, ct, rfl⟩ := hL.2.2.2.len
  have KS := Lib.hid (Bk.new w 27 [.int .i64 s.what, .int .i64 s.width, .int .i64 s.nodes, .slice pe s.E.length ce, .slice pn s.N.length cn, .slice pi s.I.length ci, .slice pt s.T.length ct])
  have B0 := Lib.hid ((Below.refl w.heap.size w).alloc (Nat.le_refl _) (.cells #[.int .i64 s.what, .int .i64 s.width, .int .i64 s.nodes, .slice pe s.E.length ce, .slice pn s.N.length cn, .slice pi s.I.length ci, .slice pt s.T.length ct] 27))
  have HS0 := Lib.hid (HS.out.below B0.out)
  clear hL
  have HF := Lib.hid hb
  clear hb

  have HLS := Lib.hid (ltS_of HS.out)
  have OK := Lib.hid hok
  clear hok
  go_enter Tryz.func26, Tryz.ntmps26
  go_wp2_with fail
  refine (rsbottom_any s _ _ _ _ _ HS0.out HF.out OK.out).mono ?_
  rintro e w1 ⟨u, rfl, hV, hB⟩
  have HV1 := Lib.hid (show Vals w1 u (iterE s 0) from hV)
  have K0 := KS
  have B1 := Lib.hid (B0.out.trans (hB.mono B0.out.size))
  have K1 := Lib.hid (K0.out.below hB)
  obtain ⟨c0, c1, c2, c3, c4, c5, c6⟩ := K1.out.seven
  clear hB

  clear hV
  go_wp2_with fail
  go_loopw [6, 7] (fun o i wr => ∃ (k : Nat) (p : Option Addr) (c : Nat), (k : Int) ≤ m ∧ i = .int .i64 k ∧ o = .slice p (iterE s k).length c ∧ Vals wr (.slice p (iterE s k).length c) (iterE s k) ∧ Hid (∀ j, j < k → ltP m (iterE s j) (iterE s (j + 1)) j = true) ∧ Below w.heap.size w wr ∧ Bk wr w.heap.size 27 [.int .i64 s.what, .int .i64 s.width, .int .i64 s.nodes, .slice pe s.E.length ce, .slice pn s.N.length cn, .slice pi s.I.length ci, .slice pt s.T.length ct])
    (fun _ i _ => m.toNat - (intOf i).toNat)
  case atStart =>
    obtain ⟨p, c, rfl⟩ := HV1.out.len
    exact ⟨0, p, c, by omega, rfl, rfl, HV1.out, Lib.hid (fun j hj => by omega), B1.out, K1.out⟩
  case round =>
    clear c0 c1 c2 c3 c4 c5 c6 HV1 B1 K1
    obtain ⟨k, p, c, hk, rfl, rfl, hV, ON, hB, hK⟩ := hrel
    have HV := Lib.hid hV
    have BW := Lib.hid hB
    have KW := Lib.hid hK
    obtain ⟨c0, c1, c2, c3, c4, c5, c6⟩ := hK.seven
    clear hV hB hK
    have LK := Lib.hid (iter_lens OK.out HLS.out k)
    have LK1 := Lib.hid (iter_lens OK.out HLS.out (k + 1))
    have VK := Lib.hid (iter_ok OK.out HLS.out k).1
    by_cases hlt : (k : Int) < m
    · go_wp2_with fail
      refine (rstep_any s _ _ _ _ _ (iterE s k) _ (HS.out.below BW.out) HF.out OK.out HV.out (by have := LK.out.1; omega) (fun j hj => by have := value_len (values_at VK.out j (by rw [← values_len VK.out]; exact hj)); omega) VK.out hwn).mono ?_
      rintro e w3 ⟨u3, rfl, hV3, hB⟩
      have HV3 := Lib.hid (show Vals w3 u3 (iterE s (k + 1)) from hV3)
      have HVk := Lib.hid (HV.out.below hB)
      have B3 := Lib.hid (BW.out.trans (hB.mono BW.out.size))
      have K3 := Lib.hid (KW.out.below hB)
      obtain ⟨p3, c3', rfl⟩ := HV3.out.len
      clear hV3 hB c0 c1 c2 c3 c4 c5 c6
      go_wp2_with fail
      refine (rvsame_any _ _ (iterE s k) (iterE s (k + 1)) _ HVk.out HV3.out (by have := LK.out.1; omega) (by have := LK1.out.1; omega) (fun j hj => by have := LK.out.2 j hj; omega) (fun j hj => by have := LK1.out.2 j hj; omega)).mono ?_
      rintro e w4 ⟨rfl, hB⟩
      have HV4 := Lib.hid (HV3.out.below hB)
      have HVk4 := Lib.hid (HVk.out.below hB)
      have B4 := Lib.hid (B3.out.trans (hB.mono B3.out.size))
      have K4 := Lib.hid (K3.out.below hB)
      clear hB
      by_cases hs : iterE s k = iterE s (k + 1)
      · have HAT := Lib.hid (show ClimbAt s (ltP m) k from ⟨ON.out, by unfold ltP; rw [decide_eq_true hs]; simp⟩)
        rw [decide_eq_true hs]
        clear hs
        go_wp2_with fail
        go_ret2
        exact ⟨k, _, rfl, HVk4.out, HAT.out, B4.out⟩
      · have ON2 := Lib.hid (show ∀ j, j < k + 1 → ltP m (iterE s j) (iterE s (j + 1)) j = true from fun j hj => by
          rcases (show j < k ∨ j = k by omega) with h | rfl
          · exact ON.out j h
          · unfold ltP; rw [decide_eq_true hlt, decide_eq_false hs]; rfl)
        rw [decide_eq_false hs]
        clear hs
        go_wp2_with fail
        go_roundw
        case rel => exact ⟨k + 1, _, _, by omega, by go_num, rfl, HV4.out, ON2, B4.out, K4.out⟩
        case measure => simp [intOf]; omega
    · obtain rfl : m = k := by omega
      have HAT := Lib.hid (show ClimbAt s (ltP (k : Int)) k from ⟨ON.out, by unfold ltP; rw [decide_eq_false (by omega)]; rfl⟩)
      go_wp2_with fail
      go_ret2
      exact ⟨k, _, rfl, HV.out, HAT.out, BW.out⟩


def mkK (k m : Int) : Int := if m < (if k < 0 then 0 else k) then m else (if k < 0 then 0 else k)
/-- How many Steps are to be made. -/
def clampK (s : SysT) (k : Int) : Int := mkK k (s.nodes * heightE s.what s.width + 1)
def IterR (s : SysT) (k : Int) (w : World) (e : Ending) (w' : World) : Prop :=
  (checkS s ≠ 0 ∧ e = .returned (.tuple #[.slice none 0 0, .int .i64 (checkS s)]) ∧ Below w.heap.size w w') ∨
  (checkS s = 0 ∧ ∃ j u, e = .returned (.tuple #[u, .int .i64 0]) ∧ Vals w' u (iterE s j) ∧ ClimbAt s (ltP (clampK s k)) j ∧ Below w.heap.size w w')

set_option maxHeartbeats 3200000 in
set_option maxRecDepth 100000 in
theorem literate_any (s : SysT) (ve vn vi vt : Value) (k : Int) (w : World) (hL : SysL w ve vn vi vt s) (hb : SysF s) (hw : OkS s → s.width ≤ 200) :
    Calls Tryz.prog 24 #[.agg #[.int .i64 s.what, .int .i64 s.width, .int .i64 s.nodes, ve, vn, vi, vt], .int .i64 k] w fun e w' => IterR s k w e w' := by
  have HS := Lib.hid hL
  obtain ⟨pe, ce, rfl⟩ := hL.1.len
  obtain ⟨pn, cn, rfl⟩ := hL.2.1.len
  obtain ⟨pi, ci, rfl⟩ := ws_len hL.2.2.1
  obtain ⟨pt, ct, rfl⟩ := hL.2.2.2.len
  have KS := Lib.hid (Bk.new w 27 [.int .i64 s.what, .int .i64 s.width, .int .i64 s.nodes, .slice pe s.E.length ce, .slice pn s.N.length cn, .slice pi s.I.length ci, .slice pt s.T.length ct])
  have B0 := Lib.hid ((Below.refl w.heap.size w).alloc (Nat.le_refl _) (.cells #[.int .i64 s.what, .int .i64 s.width, .int .i64 s.nodes, .slice pe s.E.length ce, .slice pn s.N.length cn, .slice pi s.I.length ci, .slice pt s.T.length ct] 27))
  have HS0 := Lib.hid (HS.out.below B0.out)
  clear hL
  have HF := Lib.hid hb
  clear hb

  have HLT := Lib.hid (ltS_of HS.out)
  have B1 := Lib.hid (B0.out.alloc B0.out.size (.cells #[.int .i64 k] 3)).drew
  have K1 := Lib.hid (KS.out.alloc (.cells #[.int .i64 k] 3)).drew
  have KN := Lib.hid (Bk.new' (w.alloc (.cells #[.int .i64 s.what, .int .i64 s.width, .int .i64 s.nodes, .slice pe s.E.length ce, .slice pn s.N.length cn, .slice pi s.I.length ci, .slice pt s.T.length ct] 27)) 3 [.int .i64 k] (g := w.heap.size + 1) (by simp)).drew
  have HSd := Lib.hid (HS.out.below B1.out)
  have n0 : ((w.alloc (.cells #[.int .i64 s.what, .int .i64 s.width, .int .i64 s.nodes, .slice pe s.E.length ce, .slice pn s.N.length cn, .slice pi s.I.length ci, .slice pt s.T.length ct] 27)).alloc (.cells #[.int .i64 k] 3)).drew.cell? ⟨w.heap.size + 1, 0, none⟩ = some (.int .i64 k) := KN.out.cell 0
  have f0 : ((w.alloc (.cells #[.int .i64 s.what, .int .i64 s.width, .int .i64 s.nodes, .slice pe s.E.length ce, .slice pn s.N.length cn, .slice pi s.I.length ci, .slice pt s.T.length ct] 27)).alloc (.cells #[.int .i64 k] 3)).drew.frozen? ⟨w.heap.size + 1, 0, none⟩ = false := KN.out.free 0
  obtain ⟨N, hN1, hN2⟩ : ∃ N, N ≤ 1000000 ∧ (checkS s = 0 → iterE s N = iterE s (N + 1)) := by
    by_cases h0 : checkS s = 0
    · obtain ⟨N, h1, h2⟩ := solve_stops (okS_of h0) HLT.out (hw (okS_of h0))
      exact ⟨N, h1, fun _ => h2⟩
    · exact ⟨0, by omega, fun h => absurd h h0⟩
  have HN := Lib.hid hN2
  clear hN2 hw
  obtain ⟨c0, c1, c2, c3, c4, c5, c6⟩ := K1.out.seven
  go_enter Tryz.func24, Tryz.ntmps24
  go_wp2_with fail
  go_cut [13] (fun _ wx => ∃ m : Int, Hid (OkS s → m = s.nodes * heightE s.what s.width + 1) ∧ wx.cell? ⟨w.heap.size + 1, 0, none⟩ = some (.int .i64 (mkK k m)) ∧ Bk wx w.heap.size 27 [.int .i64 s.what, .int .i64 s.width, .int .i64 s.nodes, .slice pe s.E.length ce, .slice pn s.N.length cn, .slice pi s.I.length ci, .slice pt s.T.length ct] ∧ Below w.heap.size w wx)
  case first =>
    by_cases hk0 : k < 0
    all_goals
      go_region_law (first | (go_simp; go_at_call 61; refine (lmost_any s _ _ _ _ _ HSd.out).mono ?_; rintro e w3 ⟨⟨m, rfl, hm, hmo⟩, hB⟩; have n3 := keepc n0 hB; have f3 := keepf n0 f0 hB; have HMM := Lib.hid hmo; have HB3 := Lib.hid hB; clear hm hmo hB; go_wp2_with fail) | (go_at_call 61; refine (lmost_any s _ _ _ _ _ HSd.out).mono ?_; rintro e w3 ⟨⟨m, rfl, hm, hmo⟩, hB⟩; have n3 := keepc n0 hB; have f3 := keepf n0 f0 hB; have HMM := Lib.hid hmo; have HB3 := Lib.hid hB; clear hm hmo hB; go_wp2_with fail))
    all_goals
      go_wp2_with fail
    all_goals
      go_meet
      refine ⟨m, HMM, ?_, ?_, ?_⟩
      · rw [set_same n3]
        congr 2
        unfold mkK
        repeat' split
        all_goals omega
      · exact ((K1.out.below HB3.out)).far (p := ⟨w.heap.size + 1, 0, none⟩) (by show w.heap.size ≠ w.heap.size + 1; omega) _
      · exact (B1.out.trans (HB3.out.mono B1.out.size)).setCell (p := ⟨w.heap.size + 1, 0, none⟩) (by show w.heap.size ≤ w.heap.size + 1; omega) _
  case rest =>
    obtain ⟨m, HM, hc, hK, hB⟩ := hcut
    have KM := Lib.hid hK
    have BM := Lib.hid hB
    obtain ⟨kk, hkk⟩ : ∃ z, z = mkK k m := ⟨_, rfl⟩
    have HKK := Lib.hid (show checkS s = 0 → clampK s k = kk from fun h => by unfold clampK; rw [← HM.out (okS_of h), hkk])
    rw [← hkk] at hc
    have HCC := Lib.hid hc
    clear hkk hc hK hB n0 f0 c0 c1 c2 c3 c4 c5 c6
    obtain ⟨c0, c1, c2, c3, c4, c5, c6⟩ := KM.out.seven
    go_wp2_with fail
    refine (climb_any 63 #[.pointer (some ⟨w.heap.size + 1, 0, none⟩)] (ltP kk) N s _ _ _ _ _ (enters_of Tryz.func63 (by kernel_rfl) rfl) (HS.out.below BM.out) HF.out (fun a b k va vb w1 h1 h2 h3 h4 h5 h6 hB => iter1_any va vb a b (k : Int) kk (w.heap.size + 1) w1 (keepc HCC.out hB) h1 h2 h3 h4 h5 h6) (fun h => by unfold ltP; rw [decide_eq_true (HN.out h)]; simp) hN1).mono ?_
    rintro e w5 (⟨h1, rfl, hB⟩ | ⟨h1, j, u, rfl, hV, hA, hB⟩)
    · have HNZ := Lib.hid h1
      have B5 := Lib.hid (BM.out.trans (hB.mono BM.out.size))
      clear h1 hB
      go_wp2_with fail
      go_ret2
      exact .inl ⟨HNZ.out, rfl, B5.out⟩
    · have HZ := Lib.hid h1
      have HV := Lib.hid hV
      have HA := Lib.hid (show ClimbAt s (ltP (clampK s k)) j by rw [HKK.out h1]; exact hA)
      have B5 := Lib.hid (BM.out.trans (hB.mono BM.out.size))
      obtain ⟨pu, cu, rfl⟩ := hV.len
      clear h1 hB hV hA
      go_wp2_with fail
      go_ret2
      exact .inr ⟨HZ.out, j, _, rfl, HV.out, HA.out, B5.out⟩


end Go.Proofs.YtmidbfnmkfncgaaGreat
