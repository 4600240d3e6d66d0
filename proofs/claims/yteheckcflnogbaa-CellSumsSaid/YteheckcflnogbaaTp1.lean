/-
  ticket.Take.Step at any node; Clear, Retire, Quiet: contracts, over a Plain. Written by wip/gen/mktp1.py.
-/
import Derived.Test.YteheckcflnogbaaTk2
namespace Go.Proofs.Yteheckcflnogbaa
open Go.RowKit


set_option maxHeartbeats 3200000 in
set_option maxRecDepth 100000 in
theorem tkstep_at (d f c v : Int) (tb b g : Nat) (x : TkS) (zs : List Int) (w : World) (h : Tk w tb f c v x) (hm : Pm w b g zs) (a : Int) (hsum : IntKind.i64.wrap (f + v) = a) (hv0 : 0 ≤ v) (he : x.ended = false) (ht : x.taken = false) :
    Calls Try.prog 150 #[.pointer (some ⟨tb, 0, none⟩), .iface 64 (.pointer (some ⟨b, 0, none⟩)), .int .i64 d] w fun e w' => e = .returned (.bool (!(casb zs a 0))) ∧ Tk w' tb f c v ⟨casb zs a 0, !(casb zs a 0), c, casb zs a 0⟩ ∧ Pm w' b g (casv zs a 0 1) ∧ Fr [tb, g] w w' := by
  have HT := Lib.hid h
  have HM := Lib.hid hm
  obtain ⟨c0, c1, c2, c3, c4, c5, c6⟩ := h.cells
  have hne1 : tb ≠ g := Bk.ne h hm.2.1 (by decide)
  have hne2 : tb ≠ b := Bk.ne h hm.1 (by decide)
  have f4 := Bk.free h 4
  clear h hm
  obtain ⟨xn, xe, xa, xt⟩ := x
  dsimp only at *

  subst he ht
  have hm := m_cas
  have hnc := n_cas
  have HSUM := Lib.hid hsum
  clear hsum
  go_enter Try.func150, Try.ntmps150
  go_wp2_with fail
  refine wp_scope_via 1 ?_
  go_wp2_with fail
  refine (or_some _ _ _).mono ?_
  rintro e w1 ⟨rfl, hww⟩
  subst w1
  have hsum := HSUM.out
  go_wp2_with fail
  refine wp_region_held_drew (S := (fun w' => w'.cell? ⟨tb, 0, none⟩ = some (.int .i64 f) ∧ w'.cell? ⟨tb, 2, none⟩ = some (.int .i64 v))) (by kernel_rfl) ?_ (fun hHeld => ?_)
  · exact ⟨c0, c2⟩
  refine take_at 0 (v := ?_) (some 21) rfl rfl (by kernel_rfl) (by kernel_rfl) (by kernel_rfl) (fun _ _ _ h => h) (Or.inl ⟨by rfl, ?_⟩) hHeld ?_
  rotate_left
  · (intro w hSw; (try dsimp only at hSw); go_simp; (try with_reducible rfl))
  simp only [Act.put, List.setIfInBounds_toArray, List.set_cons_zero, List.set_cons_succ]
  refine take_at 1 (v := ?_) (some 22) rfl rfl (by kernel_rfl) (by kernel_rfl) (by kernel_rfl) (fun _ _ _ h => h) (Or.inl ⟨by rfl, ?_⟩) hHeld ?_
  rotate_left
  · (intro w hSw; (try dsimp only at hSw); go_simp; (try with_reducible rfl))
  simp only [Act.put, List.setIfInBounds_toArray, List.set_cons_zero, List.set_cons_succ]
  refine take_at 2 (v := ?_) (some 23) rfl rfl (by kernel_rfl) (by kernel_rfl) (by kernel_rfl) (fun _ _ _ h => h) (Or.inl ⟨by rfl, ?_⟩) hHeld ?_
  rotate_left
  · (intro w hSw; (try dsimp only at hSw); go_simp; (try with_reducible rfl))
  simp only [Act.put, List.setIfInBounds_toArray, List.set_cons_zero, List.set_cons_succ]
  refine take_at 3 (v := ?_) (some 24) rfl rfl (by kernel_rfl) (by kernel_rfl) (by kernel_rfl) (fun _ _ _ h => h) (Or.inl ⟨by rfl, ?_⟩) hHeld ?_
  rotate_left
  · (intro w hSw; (try dsimp only at hSw); go_simp; (try with_reducible rfl))
  simp only [Act.put, List.setIfInBounds_toArray, List.set_cons_zero, List.set_cons_succ]
  refine take_at 4 (v := ?_) (some 25) rfl rfl (by kernel_rfl) (by kernel_rfl) (by kernel_rfl) (fun _ _ _ h => h) (Or.inl ⟨by rfl, ?_⟩) hHeld ?_
  rotate_left
  · (intro w hSw; (try dsimp only at hSw); go_simp; (try with_reducible rfl))
  simp only [Act.put, List.setIfInBounds_toArray, List.set_cons_zero, List.set_cons_succ]
  refine take_at 5 (v := ?_) (some 26) rfl rfl (by kernel_rfl) (by kernel_rfl) (by kernel_rfl) (fun _ _ _ h => h) (Or.inl ⟨by rfl, ?_⟩) hHeld ?_
  rotate_left
  · (intro w hSw; (try dsimp only at hSw); go_simp; (try with_reducible rfl))
  simp only [Act.put, List.setIfInBounds_toArray, List.set_cons_zero, List.set_cons_succ]
  refine take_at 6 (v := ?_) (some 27) rfl rfl (by kernel_rfl) (by kernel_rfl) (by kernel_rfl) (fun _ _ _ h => h) (Or.inl ⟨by rfl, ?_⟩) hHeld ?_
  rotate_left
  · (intro w hSw; (try dsimp only at hSw); go_simp; (try with_reducible rfl))
  simp only [Act.put, List.setIfInBounds_toArray, List.set_cons_zero, List.set_cons_succ]
  refine take_at 7 (v := ?_) (some 28) rfl rfl (by kernel_rfl) (by kernel_rfl) (by kernel_rfl) (fun _ _ _ h => h) (Or.inl ⟨by rfl, ?_⟩) hHeld ?_
  rotate_left
  · (intro w hSw; (try dsimp only at hSw); go_simp; (try with_reducible rfl))
  simp only [Act.put, List.setIfInBounds_toArray, List.set_cons_zero, List.set_cons_succ]
  refine take_at 8 (v := ?_) (some 29) rfl rfl (by kernel_rfl) (by kernel_rfl) (by kernel_rfl) (fun _ _ _ h => h) (Or.inl ⟨by rfl, ?_⟩) hHeld ?_
  rotate_left
  · (intro w hSw; (try dsimp only at hSw); go_simp; (try with_reducible rfl))
  simp only [Act.put, List.setIfInBounds_toArray, List.set_cons_zero, List.set_cons_succ]
  refine take_at 9 (v := ?_) (some 30) rfl rfl (by kernel_rfl) (by kernel_rfl) (by kernel_rfl) (fun _ _ _ h => h) (Or.inl ⟨by rfl, ?_⟩) hHeld ?_
  rotate_left
  · (intro w hSw; (try dsimp only at hSw); go_simp; (try with_reducible rfl))
  simp only [Act.put, List.setIfInBounds_toArray, List.set_cons_zero, List.set_cons_succ]
  refine take_at 10 (v := ?_) (some 31) rfl rfl (by kernel_rfl) (by kernel_rfl) (by kernel_rfl) (fun _ _ _ h => h) (Or.inl ⟨by rfl, ?_⟩) hHeld ?_
  rotate_left
  · (intro w hSw; (try dsimp only at hSw); go_simp; (try with_reducible rfl))
  simp only [Act.put, List.setIfInBounds_toArray, List.set_cons_zero, List.set_cons_succ]
  refine take_at 11 (v := ?_) (some 32) rfl rfl (by kernel_rfl) (by kernel_rfl) (by kernel_rfl) (fun _ _ _ h => h) (Or.inl ⟨by rfl, ?_⟩) hHeld ?_
  rotate_left
  · (intro w hSw; (try dsimp only at hSw); go_simp; (try with_reducible rfl))
  simp only [Act.put, List.setIfInBounds_toArray, List.set_cons_zero, List.set_cons_succ]
  refine take_at 12 (v := ?_) (some 33) rfl rfl (by kernel_rfl) (by kernel_rfl) (by kernel_rfl) (fun _ _ _ h => h) (Or.inl ⟨by rfl, ?_⟩) hHeld ?_
  rotate_left
  · (intro w hSw; (try dsimp only at hSw); go_simp; (try with_reducible rfl))
  simp only [Act.put, List.setIfInBounds_toArray, List.set_cons_zero, List.set_cons_succ]
  refine take_at 13 (v := ?_) (some 34) rfl rfl (by kernel_rfl) (by kernel_rfl) (by kernel_rfl) (fun _ _ _ h => h) (Or.inl ⟨by rfl, ?_⟩) hHeld ?_
  rotate_left
  · (intro w hSw; (try dsimp only at hSw); go_simp; (try with_reducible rfl))
  simp only [Act.put, List.setIfInBounds_toArray, List.set_cons_zero, List.set_cons_succ]
  refine take_at 14 (v := ?_) (some 35) rfl rfl (by kernel_rfl) (by kernel_rfl) (by kernel_rfl) (fun _ _ _ h => h) (Or.inl ⟨by rfl, ?_⟩) hHeld ?_
  rotate_left
  · (intro w hSw; (try dsimp only at hSw); go_simp; (try with_reducible rfl))
  simp only [Act.put, List.setIfInBounds_toArray, List.set_cons_zero, List.set_cons_succ]
  refine take_at 15 (v := ?_) (some 36) rfl rfl (by kernel_rfl) (by kernel_rfl) (by kernel_rfl) (fun _ _ _ h => h) (Or.inl ⟨by rfl, ?_⟩) hHeld ?_
  rotate_left
  · (intro w hSw; (try dsimp only at hSw); go_simp; (try with_reducible rfl))
  simp only [Act.put, List.setIfInBounds_toArray, List.set_cons_zero, List.set_cons_succ]
  refine take_at 16 (v := ?_) (some 37) rfl rfl (by kernel_rfl) (by kernel_rfl) (by kernel_rfl) (fun _ _ _ h => h) (Or.inl ⟨by rfl, ?_⟩) hHeld ?_
  rotate_left
  · (intro w hSw; (try dsimp only at hSw); go_simp; (try with_reducible rfl))
  simp only [Act.put, List.setIfInBounds_toArray, List.set_cons_zero, List.set_cons_succ]
  refine take_at 17 (v := ?_) (some 38) rfl rfl (by kernel_rfl) (by kernel_rfl) (by kernel_rfl) (fun _ _ _ h => h) (Or.inl ⟨by rfl, ?_⟩) hHeld ?_
  rotate_left
  · (intro w hSw; (try dsimp only at hSw); go_simp; (try with_reducible rfl))
  simp only [Act.put, List.setIfInBounds_toArray, List.set_cons_zero, List.set_cons_succ]
  refine take_at 18 (v := ?_) (some 39) rfl rfl (by kernel_rfl) (by kernel_rfl) (by kernel_rfl) (fun _ _ _ h => h) (Or.inl ⟨by rfl, ?_⟩) hHeld ?_
  rotate_left
  · (intro w hSw; (try dsimp only at hSw); go_simp; (try with_reducible rfl))
  simp only [Act.put, List.setIfInBounds_toArray, List.set_cons_zero, List.set_cons_succ]
  refine take_at 19 (v := ?_) (some 40) rfl rfl (by kernel_rfl) (by kernel_rfl) (by kernel_rfl) (fun _ _ _ h => h) (Or.inl ⟨by rfl, ?_⟩) hHeld ?_
  rotate_left
  · (intro w hSw; (try dsimp only at hSw); go_simp; (try with_reducible rfl))
  simp only [Act.put, List.setIfInBounds_toArray, List.set_cons_zero, List.set_cons_succ]
  refine take_at 20 (v := ?_) (some 41) rfl rfl (by kernel_rfl) (by kernel_rfl) (by kernel_rfl) (fun _ _ _ h => h) (Or.inl ⟨by rfl, ?_⟩) hHeld ?_
  rotate_left
  · (intro w hSw; (try dsimp only at hSw); go_simp; (try with_reducible rfl))
  simp only [Act.put, List.setIfInBounds_toArray, List.set_cons_zero, List.set_cons_succ]
  refine wpAnyH_ready (rs := [21]) (by kernel_rfl) (by simp) ?_
  refine AllReadyH.cons rfl (fun K hK => ?_) AllReadyH.nil
  go_simp
  refine (cas_any a 0 1 b g zs _ (show Pm w.drew b g zs from HM.out)).mono ?_; rintro e v1 ⟨rfl, hP, hK⟩; have HP := Lib.hid hP; have HF1 := Lib.hid (show Fr [g] w.drew v1 from .gb hK (by simp)); clear hP hK
  go_wp2_with fail
  refine hK.out _ _ ?_ (fun hHeld => ?_)
  · (try dsimp only at hHeld ⊢)
    go_split_ands
    exact ⟨cell_fr (by assumption) HF1.out (by simp; exact hne1), cell_fr (by assumption) HF1.out (by simp; exact hne1)⟩
  clear hK K
  try simp only [Act.put, List.setIfInBounds_toArray, List.set_cons_zero, List.set_cons_succ]
  refine take_at 22 (v := ?_) (some 43) rfl rfl (by kernel_rfl) (by kernel_rfl) (by kernel_rfl) (fun _ _ _ h => h) (Or.inl ⟨by rfl, ?_⟩) hHeld ?_
  rotate_left
  · (intro w hSw; (try dsimp only at hSw); go_simp; (try with_reducible rfl))
  simp only [Act.put, List.setIfInBounds_toArray, List.set_cons_zero, List.set_cons_succ]
  refine take_at 23 (v := ?_) (some 44) rfl rfl (by kernel_rfl) (by kernel_rfl) (by kernel_rfl) (fun _ _ _ h => h) (Or.inl ⟨by rfl, ?_⟩) hHeld ?_
  rotate_left
  · (intro w hSw; (try dsimp only at hSw); go_simp; (try with_reducible rfl))
  simp only [Act.put, List.setIfInBounds_toArray, List.set_cons_zero, List.set_cons_succ]
  refine take_at 24 (v := ?_) (some 45) rfl rfl (by kernel_rfl) (by kernel_rfl) (by kernel_rfl) (fun _ _ _ h => h) (Or.inl ⟨by rfl, ?_⟩) hHeld ?_
  rotate_left
  · (intro w hSw; (try dsimp only at hSw); go_simp; (try with_reducible rfl))
  simp only [Act.put, List.setIfInBounds_toArray, List.set_cons_zero, List.set_cons_succ]

  clear hsum
  have F1 := Lib.hid (show Fr [g] w v1 from ((Fr.refl _ w).drew).trans HF1.out)
  have HT1 := Lib.hid (HT.out.fr F1.out (by simp; exact hne1))
  obtain ⟨b0, b1, b2, b3, b4, b5, b6⟩ := HT1.out.cells
  have g6 := Bk.free HT1.out 6
  dsimp only at b6
  obtain ⟨q, hq⟩ : ∃ q, q = casb zs a 0 := ⟨_, rfl⟩
  obtain ⟨zz, hzz⟩ : ∃ z, z = casv zs a 0 1 := ⟨_, rfl⟩
  have HQ := Lib.hid hq
  have HZZ := Lib.hid hzz
  rw [← hzz] at HP
  rw [← hq]
  clear hq hzz
  refine wpAnyH_ready (rs := [25]) (by kernel_rfl) (by simp) ?_
  refine AllReadyH.cons rfl (fun K hK => ?_) AllReadyH.nil
  go_simp
  refine hK.out _ _ ?_ (fun hHeld => ?_)
  · (try dsimp only at hHeld ⊢)
    exact ⟨set_other b0 (.inr (by simp)), set_other b2 (.inr (by simp))⟩
  clear hK K hHeld
  try simp only [Act.put, List.setIfInBounds_toArray, List.set_cons_zero, List.set_cons_succ]
  refine wpAnyH_done (by kernel_rfl) ?_ _
  go_wp2_with fail
  refine wp_gen (fun W => Tk W tb f c v ⟨xn, false, xa, q⟩ ∧ Pm W b g zz ∧ Fr [tb, g] w W) ?_ ?_
  · have f2 : Fr [tb] v1 (v1.setCell ⟨tb, 6, none⟩ (.bool q)) := (Fr.refl _ _).set (by simp) _
    exact ⟨by simpa [Tk] using Bk.set HT1.out 6 (.bool q), ⟨HP.out.1.fr f2 (by simp; exact fun e => hne2 e.symm), HP.out.2.1.fr f2 (by simp; exact fun e => hne1 e.symm), HP.out.2.2⟩, (F1.out.mono (by simp)).trans (f2.mono (by simp))⟩
  intro W ⟨hT, hP, hF⟩
  clear b0 b1 b2 b3 b4 b5 b6 g6 c0 c1 c2 c3 c4 c5 c6 f4 hHeld
  have HTW := Lib.hid hT
  have HPW := Lib.hid hP
  have HFW := Lib.hid hF
  obtain ⟨b0, b1, b2, b3, b4, b5, b6⟩ := hT.cells
  have g3 := Bk.free hT 3
  have g5 := Bk.free hT 5
  dsimp only at b3 b5 b6
  clear hT hP hF
  go_region
  all_goals
    go_upto_region 7 with (fail)
    refine wp_gen (fun W' => Tk W' tb f c v ⟨q, false, c, q⟩ ∧ Pm W' b g zz ∧ Fr [tb, g] w W') ?_ ?_
    · have k1 : Tk ((W.setCell ⟨tb, 3, none⟩ (.bool q)).setCell ⟨tb, 5, none⟩ (.int .i64 c)).drew tb f c v ⟨q, false, c, q⟩ := by simpa [Tk] using (Bk.set (Bk.set HTW.out 3 (.bool q)) 5 (.int .i64 c)).drew
      have k2 : Tk ((W.setCell ⟨tb, 5, none⟩ (.int .i64 c)).setCell ⟨tb, 3, none⟩ (.bool q)).drew tb f c v ⟨q, false, c, q⟩ := by simpa [Tk] using (Bk.set (Bk.set HTW.out 5 (.int .i64 c)) 3 (.bool q)).drew
      have f1 : Fr [tb] W ((W.setCell ⟨tb, 3, none⟩ (.bool q)).setCell ⟨tb, 5, none⟩ (.int .i64 c)).drew := (((Fr.refl _ _).set (by simp) _).set (by simp) _).drew
      have f2 : Fr [tb] W ((W.setCell ⟨tb, 5, none⟩ (.int .i64 c)).setCell ⟨tb, 3, none⟩ (.bool q)).drew := (((Fr.refl _ _).set (by simp) _).set (by simp) _).drew
      first
      | exact ⟨k1, ⟨HPW.out.1.fr f1 (by simp; exact fun e => hne2 e.symm), HPW.out.2.1.fr f1 (by simp; exact fun e => hne1 e.symm), HPW.out.2.2⟩, HFW.out.trans (f1.mono (by simp))⟩
      | exact ⟨k2, ⟨HPW.out.1.fr f2 (by simp; exact fun e => hne2 e.symm), HPW.out.2.1.fr f2 (by simp; exact fun e => hne1 e.symm), HPW.out.2.2⟩, HFW.out.trans (f2.mono (by simp))⟩
    intro W2 ⟨hT, hP, hF⟩
    clear b0 b1 b2 b3 b4 b5 b6 g3 g5
    have HT2 := Lib.hid hT
    have HP2 := Lib.hid hP
    have HF2 := Lib.hid hF
    obtain ⟨d0, d1, d2, d3, d4, d5, d6⟩ := hT.cells
    have g4 := Bk.free hT 4
    dsimp only at d4 d6
    clear hT hP hF
    have HFIN := Lib.hid (show Tk (W2.setCell ⟨tb, 4, none⟩ (.bool true)) tb f c v ⟨q, true, c, q⟩ ∧ Pm (W2.setCell ⟨tb, 4, none⟩ (.bool true)) b g zz ∧ Fr [tb, g] w (W2.setCell ⟨tb, 4, none⟩ (.bool true)) from by
      have f2 : Fr [tb] W2 (W2.setCell ⟨tb, 4, none⟩ (.bool true)) := (Fr.refl _ _).set (by simp) _
      exact ⟨by simpa [Tk] using Bk.set HT2.out 4 (.bool true), ⟨HP2.out.1.fr f2 (by simp; exact fun e => hne2 e.symm), HP2.out.2.1.fr f2 (by simp; exact fun e => hne1 e.symm), HP2.out.2.2⟩, HF2.out.trans (f2.mono (by simp))⟩)
    cases q with
    | true =>
      go_wp2_with fail
      first | rw [via_ret] | skip
      exact bodyPost_ret (v := .bool false) (by simp [results, Try.results150, go_sem]) rfl ⟨by rw [← HQ.out]; rfl, by rw [← HQ.out]; exact HT2.out, by rw [← HZZ.out]; exact HP2.out, HF2.out⟩
    | false =>
      go_wp2_with fail
      go_step3
      refine ⟨_, rfl, ?_⟩
      go_wp2_with fail
      first | rw [via_ret] | skip
      go_ret
      exact ⟨by rw [← HQ.out]; rfl, by rw [← HQ.out]; exact HFIN.out.1, by rw [← HZZ.out]; exact HFIN.out.2.1, HFIN.out.2.2⟩

set_option maxHeartbeats 3200000 in
set_option maxRecDepth 100000 in
theorem tkstep_neg (d f c v : Int) (tb b g : Nat) (x : TkS) (zs : List Int) (w : World) (h : Tk w tb f c v x) (hm : Pm w b g zs) (hv0 : v < 0) (he : x.ended = false) (ht : x.taken = false) :
    Calls Try.prog 150 #[.pointer (some ⟨tb, 0, none⟩), .iface 64 (.pointer (some ⟨b, 0, none⟩)), .int .i64 d] w fun e w' => e = .returned (.bool true) ∧ Tk w' tb f c v ⟨false, true, c, false⟩ ∧ Pm w' b g zs ∧ Fr [tb, g] w w' := by
  have HT := Lib.hid h
  have HM := Lib.hid hm
  obtain ⟨c0, c1, c2, c3, c4, c5, c6⟩ := h.cells
  have hne1 : tb ≠ g := Bk.ne h hm.2.1 (by decide)
  have hne2 : tb ≠ b := Bk.ne h hm.1 (by decide)
  have f4 := Bk.free h 4
  clear h hm
  obtain ⟨xn, xe, xa, xt⟩ := x
  dsimp only at *

  subst he ht
  have hm := m_cas
  have hnc := n_cas
  have hvd : decide (0 ≤ v) = false := by simp; omega
  go_enter Try.func150, Try.ntmps150
  go_wp2_with fail
  refine wp_scope_via 1 ?_
  go_wp2_with fail
  refine (or_some _ _ _).mono ?_
  rintro e w1 ⟨rfl, hww⟩
  subst w1
  go_wp2_with fail
  refine wp_region_held_drew (S := (fun w' => w'.cell? ⟨tb, 0, none⟩ = some (.int .i64 f) ∧ w'.cell? ⟨tb, 2, none⟩ = some (.int .i64 v))) (by kernel_rfl) ?_ (fun hHeld => ?_)
  · exact ⟨c0, c2⟩
  refine take_at 0 (v := ?_) (some 21) rfl rfl (by kernel_rfl) (by kernel_rfl) (by kernel_rfl) (fun _ _ _ h => h) (Or.inl ⟨by rfl, ?_⟩) hHeld ?_
  rotate_left
  · (intro w hSw; (try dsimp only at hSw); go_simp; (try with_reducible rfl))
  simp only [Act.put, List.setIfInBounds_toArray, List.set_cons_zero, List.set_cons_succ]
  refine take_at 1 (v := ?_) (some 22) rfl rfl (by kernel_rfl) (by kernel_rfl) (by kernel_rfl) (fun _ _ _ h => h) (Or.inl ⟨by rfl, ?_⟩) hHeld ?_
  rotate_left
  · (intro w hSw; (try dsimp only at hSw); go_simp; (try with_reducible rfl))
  simp only [Act.put, List.setIfInBounds_toArray, List.set_cons_zero, List.set_cons_succ]
  refine take_at 2 (v := ?_) (some 23) rfl rfl (by kernel_rfl) (by kernel_rfl) (by kernel_rfl) (fun _ _ _ h => h) (Or.inl ⟨by rfl, ?_⟩) hHeld ?_
  rotate_left
  · (intro w hSw; (try dsimp only at hSw); go_simp; (try with_reducible rfl))
  simp only [Act.put, List.setIfInBounds_toArray, List.set_cons_zero, List.set_cons_succ]
  refine take_at 3 (v := ?_) (some 24) rfl rfl (by kernel_rfl) (by kernel_rfl) (by kernel_rfl) (fun _ _ _ h => h) (Or.inl ⟨by rfl, ?_⟩) hHeld ?_
  rotate_left
  · (intro w hSw; (try dsimp only at hSw); go_simp; (try with_reducible rfl))
  simp only [Act.put, List.setIfInBounds_toArray, List.set_cons_zero, List.set_cons_succ]
  refine take_at 4 (v := ?_) (some 25) rfl rfl (by kernel_rfl) (by kernel_rfl) (by kernel_rfl) (fun _ _ _ h => h) (Or.inl ⟨by rfl, ?_⟩) hHeld ?_
  rotate_left
  · (intro w hSw; (try dsimp only at hSw); go_simp; (try with_reducible rfl))
  simp only [Act.put, List.setIfInBounds_toArray, List.set_cons_zero, List.set_cons_succ]
  refine take_at 5 (v := ?_) (some 26) rfl rfl (by kernel_rfl) (by kernel_rfl) (by kernel_rfl) (fun _ _ _ h => h) (Or.inl ⟨by rfl, ?_⟩) hHeld ?_
  rotate_left
  · (intro w hSw; (try dsimp only at hSw); go_simp; (try with_reducible rfl))
  simp only [Act.put, List.setIfInBounds_toArray, List.set_cons_zero, List.set_cons_succ]
  refine take_at 6 (v := ?_) (some 27) rfl rfl (by kernel_rfl) (by kernel_rfl) (by kernel_rfl) (fun _ _ _ h => h) (Or.inl ⟨by rfl, ?_⟩) hHeld ?_
  rotate_left
  · (intro w hSw; (try dsimp only at hSw); go_simp; (try with_reducible rfl))
  simp only [Act.put, List.setIfInBounds_toArray, List.set_cons_zero, List.set_cons_succ]
  refine take_at 7 (v := undef) (some 28) rfl rfl (by kernel_rfl) (by kernel_rfl) (by kernel_rfl) (fun _ _ _ h => h) (Or.inr ⟨by rfl, rfl⟩) hHeld ?_
  simp only [Act.put, List.setIfInBounds_toArray, List.set_cons_zero, List.set_cons_succ]
  refine take_at 8 (v := undef) (some 29) rfl rfl (by kernel_rfl) (by kernel_rfl) (by kernel_rfl) (fun _ _ _ h => h) (Or.inr ⟨by rfl, rfl⟩) hHeld ?_
  simp only [Act.put, List.setIfInBounds_toArray, List.set_cons_zero, List.set_cons_succ]
  refine take_at 9 (v := undef) (some 30) rfl rfl (by kernel_rfl) (by kernel_rfl) (by kernel_rfl) (fun _ _ _ h => h) (Or.inr ⟨by rfl, rfl⟩) hHeld ?_
  simp only [Act.put, List.setIfInBounds_toArray, List.set_cons_zero, List.set_cons_succ]
  refine take_at 10 (v := undef) (some 31) rfl rfl (by kernel_rfl) (by kernel_rfl) (by kernel_rfl) (fun _ _ _ h => h) (Or.inr ⟨by rfl, rfl⟩) hHeld ?_
  simp only [Act.put, List.setIfInBounds_toArray, List.set_cons_zero, List.set_cons_succ]
  refine take_at 11 (v := undef) (some 32) rfl rfl (by kernel_rfl) (by kernel_rfl) (by kernel_rfl) (fun _ _ _ h => h) (Or.inr ⟨by rfl, rfl⟩) hHeld ?_
  simp only [Act.put, List.setIfInBounds_toArray, List.set_cons_zero, List.set_cons_succ]
  refine take_at 12 (v := undef) (some 33) rfl rfl (by kernel_rfl) (by kernel_rfl) (by kernel_rfl) (fun _ _ _ h => h) (Or.inr ⟨by rfl, rfl⟩) hHeld ?_
  simp only [Act.put, List.setIfInBounds_toArray, List.set_cons_zero, List.set_cons_succ]
  refine take_at 13 (v := undef) (some 34) rfl rfl (by kernel_rfl) (by kernel_rfl) (by kernel_rfl) (fun _ _ _ h => h) (Or.inr ⟨by rfl, rfl⟩) hHeld ?_
  simp only [Act.put, List.setIfInBounds_toArray, List.set_cons_zero, List.set_cons_succ]
  refine take_at 14 (v := undef) (some 35) rfl rfl (by kernel_rfl) (by kernel_rfl) (by kernel_rfl) (fun _ _ _ h => h) (Or.inr ⟨by rfl, rfl⟩) hHeld ?_
  simp only [Act.put, List.setIfInBounds_toArray, List.set_cons_zero, List.set_cons_succ]
  refine take_at 15 (v := undef) (some 36) rfl rfl (by kernel_rfl) (by kernel_rfl) (by kernel_rfl) (fun _ _ _ h => h) (Or.inr ⟨by rfl, rfl⟩) hHeld ?_
  simp only [Act.put, List.setIfInBounds_toArray, List.set_cons_zero, List.set_cons_succ]
  refine take_at 16 (v := undef) (some 37) rfl rfl (by kernel_rfl) (by kernel_rfl) (by kernel_rfl) (fun _ _ _ h => h) (Or.inr ⟨by rfl, rfl⟩) hHeld ?_
  simp only [Act.put, List.setIfInBounds_toArray, List.set_cons_zero, List.set_cons_succ]
  refine take_at 17 (v := undef) (some 38) rfl rfl (by kernel_rfl) (by kernel_rfl) (by kernel_rfl) (fun _ _ _ h => h) (Or.inr ⟨by rfl, rfl⟩) hHeld ?_
  simp only [Act.put, List.setIfInBounds_toArray, List.set_cons_zero, List.set_cons_succ]
  refine take_at 18 (v := undef) (some 39) rfl rfl (by kernel_rfl) (by kernel_rfl) (by kernel_rfl) (fun _ _ _ h => h) (Or.inr ⟨by rfl, rfl⟩) hHeld ?_
  simp only [Act.put, List.setIfInBounds_toArray, List.set_cons_zero, List.set_cons_succ]
  refine take_at 19 (v := undef) (some 40) rfl rfl (by kernel_rfl) (by kernel_rfl) (by kernel_rfl) (fun _ _ _ h => h) (Or.inr ⟨by rfl, rfl⟩) hHeld ?_
  simp only [Act.put, List.setIfInBounds_toArray, List.set_cons_zero, List.set_cons_succ]
  refine take_at 20 (v := undef) (some 41) rfl rfl (by kernel_rfl) (by kernel_rfl) (by kernel_rfl) (fun _ _ _ h => h) (Or.inr ⟨by rfl, rfl⟩) hHeld ?_
  simp only [Act.put, List.setIfInBounds_toArray, List.set_cons_zero, List.set_cons_succ]
  refine take_at 21 (v := undef) (some 42) rfl rfl (by kernel_rfl) (by kernel_rfl) (by kernel_rfl) (fun _ _ _ h => h) (Or.inr ⟨by rfl, rfl⟩) hHeld ?_
  simp only [Act.put, List.setIfInBounds_toArray, List.set_cons_zero, List.set_cons_succ]
  refine take_at 22 (v := ?_) (some 43) rfl rfl (by kernel_rfl) (by kernel_rfl) (by kernel_rfl) (fun _ _ _ h => h) (Or.inl ⟨by rfl, ?_⟩) hHeld ?_
  rotate_left
  · (intro w hSw; (try dsimp only at hSw); go_simp; (try with_reducible rfl))
  simp only [Act.put, List.setIfInBounds_toArray, List.set_cons_zero, List.set_cons_succ]
  refine take_at 23 (v := ?_) (some 44) rfl rfl (by kernel_rfl) (by kernel_rfl) (by kernel_rfl) (fun _ _ _ h => h) (Or.inl ⟨by rfl, ?_⟩) hHeld ?_
  rotate_left
  · (intro w hSw; (try dsimp only at hSw); go_simp; (try with_reducible rfl))
  simp only [Act.put, List.setIfInBounds_toArray, List.set_cons_zero, List.set_cons_succ]
  refine take_at 24 (v := ?_) (some 45) rfl rfl (by kernel_rfl) (by kernel_rfl) (by kernel_rfl) (fun _ _ _ h => h) (Or.inl ⟨by rfl, ?_⟩) hHeld ?_
  rotate_left
  · (intro w hSw; (try dsimp only at hSw); go_simp; (try with_reducible rfl))
  simp only [Act.put, List.setIfInBounds_toArray, List.set_cons_zero, List.set_cons_succ]

  have F1 := Lib.hid (show Fr [g] w w.drew from (Fr.refl _ w).drew)
  have HP := Lib.hid (show Pm w.drew b g zs from HM.out)
  have HT1 := Lib.hid (HT.out.fr F1.out (by simp; exact hne1))
  obtain ⟨b0, b1, b2, b3, b4, b5, b6⟩ := HT1.out.cells
  have g6 := Bk.free HT1.out 6
  dsimp only at b6
  refine wpAnyH_ready (rs := [25]) (by kernel_rfl) (by simp) ?_
  refine AllReadyH.cons rfl (fun K hK => ?_) AllReadyH.nil
  go_simp
  refine hK.out _ _ ?_ (fun hHeld => ?_)
  · (try dsimp only at hHeld ⊢)
    exact ⟨set_other b0 (.inr (by simp)), set_other b2 (.inr (by simp))⟩
  clear hK K hHeld
  try simp only [Act.put, List.setIfInBounds_toArray, List.set_cons_zero, List.set_cons_succ]
  refine wpAnyH_done (by kernel_rfl) ?_ _
  go_wp2_with fail
  refine wp_gen (fun W => Tk W tb f c v ⟨xn, false, xa, false⟩ ∧ Pm W b g zs ∧ Fr [tb, g] w W) ?_ ?_
  · have f2 : Fr [tb] w.drew (w.drew.setCell ⟨tb, 6, none⟩ (.bool false)) := (Fr.refl _ _).set (by simp) _
    exact ⟨Bk.set HT1.out 6 (.bool false), ⟨HP.out.1.fr f2 (by simp; exact fun e => hne2 e.symm), HP.out.2.1.fr f2 (by simp; exact fun e => hne1 e.symm), HP.out.2.2⟩, (F1.out.mono (by simp)).trans (f2.mono (by simp))⟩
  intro W ⟨hT, hP, hF⟩
  clear b0 b1 b2 b3 b4 b5 b6 g6 c0 c1 c2 c3 c4 c5 c6 f4 hHeld
  have HTW := Lib.hid hT
  have HPW := Lib.hid hP
  have HFW := Lib.hid hF
  obtain ⟨b0, b1, b2, b3, b4, b5, b6⟩ := hT.cells
  have g3 := Bk.free hT 3
  have g5 := Bk.free hT 5
  dsimp only at b3 b5 b6
  clear hT hP hF
  go_region
  all_goals
    go_upto_region 7 with (fail)
    refine wp_gen (fun W' => Tk W' tb f c v ⟨false, false, c, false⟩ ∧ Pm W' b g zs ∧ Fr [tb, g] w W') ?_ ?_
    · have k1 : Tk ((W.setCell ⟨tb, 3, none⟩ (.bool false)).setCell ⟨tb, 5, none⟩ (.int .i64 c)).drew tb f c v ⟨false, false, c, false⟩ := by simpa [Tk] using (Bk.set (Bk.set HTW.out 3 (.bool false)) 5 (.int .i64 c)).drew
      have k2 : Tk ((W.setCell ⟨tb, 5, none⟩ (.int .i64 c)).setCell ⟨tb, 3, none⟩ (.bool false)).drew tb f c v ⟨false, false, c, false⟩ := by simpa [Tk] using (Bk.set (Bk.set HTW.out 5 (.int .i64 c)) 3 (.bool false)).drew
      have f1 : Fr [tb] W ((W.setCell ⟨tb, 3, none⟩ (.bool false)).setCell ⟨tb, 5, none⟩ (.int .i64 c)).drew := (((Fr.refl _ _).set (by simp) _).set (by simp) _).drew
      have f2 : Fr [tb] W ((W.setCell ⟨tb, 5, none⟩ (.int .i64 c)).setCell ⟨tb, 3, none⟩ (.bool false)).drew := (((Fr.refl _ _).set (by simp) _).set (by simp) _).drew
      first
      | exact ⟨k1, ⟨HPW.out.1.fr f1 (by simp; exact fun e => hne2 e.symm), HPW.out.2.1.fr f1 (by simp; exact fun e => hne1 e.symm), HPW.out.2.2⟩, HFW.out.trans (f1.mono (by simp))⟩
      | exact ⟨k2, ⟨HPW.out.1.fr f2 (by simp; exact fun e => hne2 e.symm), HPW.out.2.1.fr f2 (by simp; exact fun e => hne1 e.symm), HPW.out.2.2⟩, HFW.out.trans (f2.mono (by simp))⟩
    intro W2 ⟨hT, hP, hF⟩
    clear b0 b1 b2 b3 b4 b5 b6 g3 g5
    have HT2 := Lib.hid hT
    have HP2 := Lib.hid hP
    have HF2 := Lib.hid hF
    obtain ⟨d0, d1, d2, d3, d4, d5, d6⟩ := hT.cells
    have g4 := Bk.free hT 4
    dsimp only at d4 d6
    clear hT hP hF
    have HFIN := Lib.hid (show Tk (W2.setCell ⟨tb, 4, none⟩ (.bool true)) tb f c v ⟨false, true, c, false⟩ ∧ Pm (W2.setCell ⟨tb, 4, none⟩ (.bool true)) b g zs ∧ Fr [tb, g] w (W2.setCell ⟨tb, 4, none⟩ (.bool true)) from by
      have f2 : Fr [tb] W2 (W2.setCell ⟨tb, 4, none⟩ (.bool true)) := (Fr.refl _ _).set (by simp) _
      exact ⟨by simpa [Tk] using Bk.set HT2.out 4 (.bool true), ⟨HP2.out.1.fr f2 (by simp; exact fun e => hne2 e.symm), HP2.out.2.1.fr f2 (by simp; exact fun e => hne1 e.symm), HP2.out.2.2⟩, HF2.out.trans (f2.mono (by simp))⟩)
    go_wp2_with fail
    go_step3
    refine ⟨_, rfl, ?_⟩
    go_wp2_with fail
    first | rw [via_ret] | skip
    go_ret
    exact ⟨rfl, HFIN.out.1, HFIN.out.2.1, HFIN.out.2.2⟩

set_option maxHeartbeats 3200000 in
set_option maxRecDepth 100000 in
theorem tadd_sum (a d : Int) (b g : Nat) (zs : List Int) (w : World) (h : Pm w b g zs) :
    Calls Try.prog 177 #[.agg #[.int .i64 a], .iface 64 (.pointer (some ⟨b, 0, none⟩)), .int .u64 d] w fun e w' => e = .returned (.int .i64 (IntKind.i64.wrap (addw zs a d))) ∧ Pm w' b g (addv zs a d) ∧ w.grownBy w' (some g) := by
  have HM := Lib.hid (h.below ((Below.refl _ _).alloc (Nat.le_refl _) (.cells #[.int .i64 a] 223)))
  have hm := m_add
  have hgl := h.2.1.lt
  clear h
  go_enter Try.func177, Try.ntmps177
  go_wp2_with fail
  refine (add_any a d b g zs _ HM.out).mono ?_
  rintro e w1 ⟨rfl, hP, hK⟩
  have HP := Lib.hid hP
  have HK := Lib.hid (gb_trans (gb_below ((Below.refl w.heap.size w).alloc (Nat.le_refl _) (.cells #[.int .i64 a] 223)) (some g)) hK)
  clear hP hK
  go_wp2_with fail
  go_ret
  exact ⟨by first | exact ret_int (IntWalk.i64_left _) | exact ret_int (IntWalk.i64_left _).symm, HP.out, HK.out⟩

/-- The other machines. -/
def Cl (w : World) (tb : Nat) (f c v : Int) (e : Bool) : Prop := Bk w tb 229 [.int .i64 f, .int .i64 c, .int .i64 v, .bool e]
def Rt (w : World) (tb : Nat) (f c l : Int) (e : Bool) : Prop := Bk w tb 231 [.int .i64 f, .int .i64 c, .int .i64 l, .bool e]
def Qt (w : World) (tb : Nat) (f c : Int) (i e : Bool) : Prop := Bk w tb 233 [.int .i64 f, .int .i64 c, .bool i, .bool e]
theorem m_store31 (a : Addr) (w : World) : (method 394 64 (.pointer (some a)) "Store").run Try.prog w = .ok (68, .pointer (some a)) w := by kernel_rfl
theorem n_store31 (a : Addr) (w : World) : (nilAhead 394 64 (.pointer (some a)) "Store").run Try.prog w = .ok (some false) w := by kernel_rfl

set_option maxHeartbeats 3200000 in
set_option maxRecDepth 100000 in
theorem cl_end (d f c : Int) (v : Int) (tb : Nat) (m : Value) (w : World) (h : Cl w tb f c v true) :
    Calls Try.prog 152 #[.pointer (some ⟨tb, 0, none⟩), m, .int .i64 d] w fun e w' => e = .returned (.bool true) ∧ w' = w := by
  have c3 : w.cell? ⟨tb, 3, none⟩ = some (.bool true) := h.cell 3
  clear h
  go_enter Try.func152, Try.ntmps152
  go_wp2_with fail
  go_ret
  exact ⟨rfl, rfl⟩

set_option maxHeartbeats 3200000 in
set_option maxRecDepth 100000 in
theorem rt_end (d f c : Int) (l : Int) (tb : Nat) (m : Value) (w : World) (h : Rt w tb f c l true) :
    Calls Try.prog 153 #[.pointer (some ⟨tb, 0, none⟩), m, .int .i64 d] w fun e w' => e = .returned (.bool true) ∧ w' = w := by
  have c3 : w.cell? ⟨tb, 3, none⟩ = some (.bool true) := h.cell 3
  clear h
  go_enter Try.func153, Try.ntmps153
  go_wp2_with fail
  go_ret
  exact ⟨rfl, rfl⟩

set_option maxHeartbeats 3200000 in
set_option maxRecDepth 100000 in
theorem qt_end (d f c : Int) (i : Bool) (tb : Nat) (m : Value) (w : World) (h : Qt w tb f c i true) :
    Calls Try.prog 154 #[.pointer (some ⟨tb, 0, none⟩), m, .int .i64 d] w fun e w' => e = .returned (.bool true) ∧ w' = w := by
  have c3 : w.cell? ⟨tb, 3, none⟩ = some (.bool true) := h.cell 3
  clear h
  go_enter Try.func154, Try.ntmps154
  go_wp2_with fail
  go_ret
  exact ⟨rfl, rfl⟩

set_option maxHeartbeats 3200000 in
set_option maxRecDepth 100000 in
theorem cl_yes (d f c v a : Int) (tb : Nat) (b g : Nat) (zs : List Int) (w : World) (h : Cl w tb f c v false) (hm : Pm w b g zs) (hsum : IntKind.i64.wrap (f + v) = a) (hv0 : 0 ≤ v) :
    Calls Try.prog 152 #[.pointer (some ⟨tb, 0, none⟩), .iface 64 (.pointer (some ⟨b, 0, none⟩)), .int .i64 d] w fun e w' => e = .returned (.bool true) ∧ Cl w' tb f c v true ∧ Pm w' b g (stv zs a 0) ∧ Fr [tb, g] w w' := by
  have HT := Lib.hid h
  have HM := Lib.hid hm
  have c0 : w.cell? ⟨tb, 0, none⟩ = some (.int .i64 f) := h.cell 0
  have c1 : w.cell? ⟨tb, 1, none⟩ = some (.int .i64 c) := h.cell 1
  have hne1 : tb ≠ g := Bk.ne h hm.2.1 (by decide)
  have hne2 : tb ≠ b := Bk.ne h hm.1 (by decide)

  have c2 : w.cell? ⟨tb, 2, none⟩ = some (.int .i64 v) := h.cell 2
  have c3 : w.cell? ⟨tb, 3, none⟩ = some (.bool false) := h.cell 3
  have HSUM := Lib.hid hsum
  have hs := m_store31
  have hn := n_store31
  clear h hm hsum
  go_enter Try.func152, Try.ntmps152
  go_wp2_with fail
  have hsum := HSUM.out
  refine wp_region_held_drew (S := (fun w' => w'.cell? ⟨tb, 0, none⟩ = some (.int .i64 f) ∧ w'.cell? ⟨tb, 2, none⟩ = some (.int .i64 v))) (by kernel_rfl) ?_ (fun hHeld => ?_)
  · exact ⟨c0, c2⟩
  refine take_at 0 (v := ?_) (some 20) rfl rfl (by kernel_rfl) (by kernel_rfl) (by kernel_rfl) (fun _ _ _ h => h) (Or.inl ⟨by rfl, ?_⟩) hHeld ?_
  rotate_left
  · (intro w hSw; (try dsimp only at hSw); go_simp; (try with_reducible rfl))
  simp only [Act.put, List.setIfInBounds_toArray, List.set_cons_zero, List.set_cons_succ]
  refine take_at 2 (v := ?_) (some 22) rfl rfl (by kernel_rfl) (by kernel_rfl) (by kernel_rfl) (fun _ _ _ h => h) (Or.inl ⟨by rfl, ?_⟩) hHeld ?_
  rotate_left
  · (intro w hSw; (try dsimp only at hSw); go_simp; (try with_reducible rfl))
  simp only [Act.put, List.setIfInBounds_toArray, List.set_cons_zero, List.set_cons_succ]
  refine take_at 3 (v := ?_) (some 23) rfl rfl (by kernel_rfl) (by kernel_rfl) (by kernel_rfl) (fun _ _ _ h => h) (Or.inl ⟨by rfl, ?_⟩) hHeld ?_
  rotate_left
  · (intro w hSw; (try dsimp only at hSw); go_simp; (try with_reducible rfl))
  simp only [Act.put, List.setIfInBounds_toArray, List.set_cons_zero, List.set_cons_succ]
  refine take_at 4 (v := ?_) (some 24) rfl rfl (by kernel_rfl) (by kernel_rfl) (by kernel_rfl) (fun _ _ _ h => h) (Or.inl ⟨by rfl, ?_⟩) hHeld ?_
  rotate_left
  · (intro w hSw; (try dsimp only at hSw); go_simp; (try with_reducible rfl))
  simp only [Act.put, List.setIfInBounds_toArray, List.set_cons_zero, List.set_cons_succ]
  refine take_at 5 (v := ?_) (some 25) rfl rfl (by kernel_rfl) (by kernel_rfl) (by kernel_rfl) (fun _ _ _ h => h) (Or.inl ⟨by rfl, ?_⟩) hHeld ?_
  rotate_left
  · (intro w hSw; (try dsimp only at hSw); go_simp; (try with_reducible rfl))
  simp only [Act.put, List.setIfInBounds_toArray, List.set_cons_zero, List.set_cons_succ]
  refine take_at 6 (v := ?_) (some 26) rfl rfl (by kernel_rfl) (by kernel_rfl) (by kernel_rfl) (fun _ _ _ h => h) (Or.inl ⟨by rfl, ?_⟩) hHeld ?_
  rotate_left
  · (intro w hSw; (try dsimp only at hSw); go_simp; (try with_reducible rfl))
  simp only [Act.put, List.setIfInBounds_toArray, List.set_cons_zero, List.set_cons_succ]
  refine take_at 7 (v := ?_) (some 27) rfl rfl (by kernel_rfl) (by kernel_rfl) (by kernel_rfl) (fun _ _ _ h => h) (Or.inl ⟨by rfl, ?_⟩) hHeld ?_
  rotate_left
  · (intro w hSw; (try dsimp only at hSw); go_simp; (try with_reducible rfl))
  simp only [Act.put, List.setIfInBounds_toArray, List.set_cons_zero, List.set_cons_succ]
  refine take_at 8 (v := ?_) (some 28) rfl rfl (by kernel_rfl) (by kernel_rfl) (by kernel_rfl) (fun _ _ _ h => h) (Or.inl ⟨by rfl, ?_⟩) hHeld ?_
  rotate_left
  · (intro w hSw; (try dsimp only at hSw); go_simp; (try with_reducible rfl))
  simp only [Act.put, List.setIfInBounds_toArray, List.set_cons_zero, List.set_cons_succ]
  refine take_at 9 (v := ?_) (some 29) rfl rfl (by kernel_rfl) (by kernel_rfl) (by kernel_rfl) (fun _ _ _ h => h) (Or.inl ⟨by rfl, ?_⟩) hHeld ?_
  rotate_left
  · (intro w hSw; (try dsimp only at hSw); go_simp; (try with_reducible rfl))
  simp only [Act.put, List.setIfInBounds_toArray, List.set_cons_zero, List.set_cons_succ]
  refine take_at 10 (v := ?_) (some 30) rfl rfl (by kernel_rfl) (by kernel_rfl) (by kernel_rfl) (fun _ _ _ h => h) (Or.inl ⟨by rfl, ?_⟩) hHeld ?_
  rotate_left
  · (intro w hSw; (try dsimp only at hSw); go_simp; (try with_reducible rfl))
  simp only [Act.put, List.setIfInBounds_toArray, List.set_cons_zero, List.set_cons_succ]
  refine take_at 11 (v := ?_) (some 31) rfl rfl (by kernel_rfl) (by kernel_rfl) (by kernel_rfl) (fun _ _ _ h => h) (Or.inl ⟨by rfl, ?_⟩) hHeld ?_
  rotate_left
  · (intro w hSw; (try dsimp only at hSw); go_simp; (try with_reducible rfl))
  simp only [Act.put, List.setIfInBounds_toArray, List.set_cons_zero, List.set_cons_succ]
  refine wpAnyH_ready (rs := [1]) (by kernel_rfl) (by simp) ?_
  refine AllReadyH.cons rfl (fun K hK => ?_) AllReadyH.nil
  go_simp
  refine (or_some _ _ _).mono ?_; rintro e w1 ⟨rfl, hww⟩; subst w1; have HF1 := Lib.hid (Fr.refl [g] w.drew)
  go_wp2_with fail
  refine hK.out _ _ ?_ (fun hHeld => ?_)
  · exact ⟨cell_fr hHeld.1 HF1.out (by simp; exact hne1), cell_fr hHeld.2 HF1.out (by simp; exact hne1)⟩
  clear hK K
  try simp only [Act.put, List.setIfInBounds_toArray, List.set_cons_zero, List.set_cons_succ]
  refine take_at 12 (v := ?_) (some 32) rfl rfl (by kernel_rfl) (by kernel_rfl) (by kernel_rfl) (fun _ _ _ h => h) (Or.inl ⟨by rfl, ?_⟩) hHeld ?_
  rotate_left
  · (intro w hSw; (try dsimp only at hSw); go_simp; (try with_reducible rfl))
  simp only [Act.put, List.setIfInBounds_toArray, List.set_cons_zero, List.set_cons_succ]
  refine take_at 13 (v := ?_) (some 33) rfl rfl (by kernel_rfl) (by kernel_rfl) (by kernel_rfl) (fun _ _ _ h => h) (Or.inl ⟨by rfl, ?_⟩) hHeld ?_
  rotate_left
  · (intro w hSw; (try dsimp only at hSw); go_simp; (try with_reducible rfl))
  simp only [Act.put, List.setIfInBounds_toArray, List.set_cons_zero, List.set_cons_succ]
  refine take_at 14 (v := ?_) (some 34) rfl rfl (by kernel_rfl) (by kernel_rfl) (by kernel_rfl) (fun _ _ _ h => h) (Or.inl ⟨by rfl, ?_⟩) hHeld ?_
  rotate_left
  · (intro w hSw; (try dsimp only at hSw); go_simp; (try with_reducible rfl))
  simp only [Act.put, List.setIfInBounds_toArray, List.set_cons_zero, List.set_cons_succ]
  refine wpAnyH_ready (rs := [15]) (by kernel_rfl) (by simp) ?_
  refine AllReadyH.cons rfl (fun K hK => ?_) AllReadyH.nil
  go_simp
  refine (store_any a 0 b g zs _ (show Pm w.drew b g zs from HM.out)).mono ?_; rintro e v1 ⟨rfl, hP, hK⟩; have HP := Lib.hid hP; have HF1 := Lib.hid (show Fr [g] w.drew v1 from .gb hK (by simp)); clear hP hK
  go_wp2_with fail
  refine hK.out _ _ ?_ (fun hHeld => ?_)
  · exact ⟨cell_fr hHeld.1 HF1.out (by simp; exact hne1), cell_fr hHeld.2 HF1.out (by simp; exact hne1)⟩
  clear hK K
  try simp only [Act.put, List.setIfInBounds_toArray, List.set_cons_zero, List.set_cons_succ]
  refine wpAnyH_done (by kernel_rfl) ?_ _
  go_split_ands

  have F1 := Lib.hid (show Fr [g] w v1 from ((Fr.refl _ w).drew).trans HF1.out)
  have HT1 := Lib.hid (Bk.fr HT.out F1.out (by simp; exact hne1))
  have b3 : v1.cell? ⟨tb, 3, none⟩ = some (.bool false) := HT1.out.cell 3
  have g3 := Bk.free HT1.out 3
  have HFIN := Lib.hid (show Cl (v1.setCell ⟨tb, 3, none⟩ (.bool true)) tb f c v true ∧ Pm (v1.setCell ⟨tb, 3, none⟩ (.bool true)) b g (stv zs a 0) ∧ Fr [tb, g] w (v1.setCell ⟨tb, 3, none⟩ (.bool true)) from by
    have f2 : Fr [tb] v1 (v1.setCell ⟨tb, 3, none⟩ (.bool true)) := (Fr.refl _ _).set (by simp) _
    exact ⟨Bk.set HT1.out 3 (.bool true), ⟨HP.out.1.fr f2 (by simp; exact fun e => hne2 e.symm), HP.out.2.1.fr f2 (by simp; exact fun e => hne1 e.symm), HP.out.2.2⟩, (F1.out.mono (by simp)).trans (f2.mono (by simp))⟩)
  clear c0 c1 c2 c3 hsum
  go_wp2_with fail
  go_ret
  exact ⟨rfl, HFIN.out⟩

set_option maxHeartbeats 3200000 in
set_option maxRecDepth 100000 in
theorem cl_neg (d f c v : Int) (tb : Nat) (b g : Nat) (zs : List Int) (w : World) (h : Cl w tb f c v false) (hm : Pm w b g zs) (hv0 : v < 0) :
    Calls Try.prog 152 #[.pointer (some ⟨tb, 0, none⟩), .iface 64 (.pointer (some ⟨b, 0, none⟩)), .int .i64 d] w fun e w' => e = .returned (.bool true) ∧ Cl w' tb f c v true ∧ Pm w' b g zs ∧ Fr [tb, g] w w' := by
  have HT := Lib.hid h
  have HM := Lib.hid hm
  have c0 : w.cell? ⟨tb, 0, none⟩ = some (.int .i64 f) := h.cell 0
  have c1 : w.cell? ⟨tb, 1, none⟩ = some (.int .i64 c) := h.cell 1
  have hne1 : tb ≠ g := Bk.ne h hm.2.1 (by decide)
  have hne2 : tb ≠ b := Bk.ne h hm.1 (by decide)

  have c2 : w.cell? ⟨tb, 2, none⟩ = some (.int .i64 v) := h.cell 2
  have c3 : w.cell? ⟨tb, 3, none⟩ = some (.bool false) := h.cell 3
  have g3 := Bk.free h 3
  have hvd : decide (0 ≤ v) = false := by simp; omega
  have HFIN := Lib.hid (show Cl (w.setCell ⟨tb, 3, none⟩ (.bool true)) tb f c v true ∧ Pm (w.setCell ⟨tb, 3, none⟩ (.bool true)) b g zs ∧ Fr [tb, g] w (w.setCell ⟨tb, 3, none⟩ (.bool true)) from by
    have f2 : Fr [tb] w (w.setCell ⟨tb, 3, none⟩ (.bool true)) := (Fr.refl _ _).set (by simp) _
    exact ⟨Bk.set h 3 (.bool true), ⟨hm.1.fr f2 (by simp; exact fun e => hne2 e.symm), hm.2.1.fr f2 (by simp; exact fun e => hne1 e.symm), hm.2.2⟩, f2.mono (by simp)⟩)
  clear h hm
  go_enter Try.func152, Try.ntmps152
  go_wp2_with fail
  go_ret
  exact ⟨rfl, HFIN.out⟩

set_option maxHeartbeats 3200000 in
set_option maxRecDepth 100000 in
theorem rt_any (d f c l : Int) (tb : Nat) (b g : Nat) (zs : List Int) (w : World) (h : Rt w tb f c l false) (hm : Pm w b g zs) :
    Calls Try.prog 153 #[.pointer (some ⟨tb, 0, none⟩), .iface 64 (.pointer (some ⟨b, 0, none⟩)), .int .i64 d] w fun e w' => e = .returned (.bool true) ∧ Rt w' tb f c (IntKind.i64.wrap (addw zs c 18446744073709551615)) true ∧ Pm w' b g (addv zs c 18446744073709551615) ∧ Fr [tb, g] w w' := by
  have HT := Lib.hid h
  have HM := Lib.hid hm
  have c0 : w.cell? ⟨tb, 0, none⟩ = some (.int .i64 f) := h.cell 0
  have c1 : w.cell? ⟨tb, 1, none⟩ = some (.int .i64 c) := h.cell 1
  have hne1 : tb ≠ g := Bk.ne h hm.2.1 (by decide)
  have hne2 : tb ≠ b := Bk.ne h hm.1 (by decide)

  have c2 : w.cell? ⟨tb, 2, none⟩ = some (.int .i64 l) := h.cell 2
  have c3 : w.cell? ⟨tb, 3, none⟩ = some (.bool false) := h.cell 3
  clear h hm
  go_enter Try.func153, Try.ntmps153
  go_wp2_with fail
  refine wp_region_held_drew (S := (fun w' => w'.cell? ⟨tb, 1, none⟩ = some (.int .i64 c))) (by kernel_rfl) ?_ (fun hHeld => ?_)
  · exact c1
  refine take_at 0 (v := ?_) (some 15) rfl rfl (by kernel_rfl) (by kernel_rfl) (by kernel_rfl) (fun _ _ _ h => h) (Or.inl ⟨by rfl, ?_⟩) hHeld ?_
  rotate_left
  · (intro w hSw; (try dsimp only at hSw); go_simp; (try with_reducible rfl))
  simp only [Act.put, List.setIfInBounds_toArray, List.set_cons_zero, List.set_cons_succ]
  refine take_at 1 (v := ?_) (some 16) rfl rfl (by kernel_rfl) (by kernel_rfl) (by kernel_rfl) (fun _ _ _ h => h) (Or.inl ⟨by rfl, ?_⟩) hHeld ?_
  rotate_left
  · (intro w hSw; (try dsimp only at hSw); go_simp; (try with_reducible rfl))
  simp only [Act.put, List.setIfInBounds_toArray, List.set_cons_zero, List.set_cons_succ]
  refine take_at 2 (v := ?_) (some 17) rfl rfl (by kernel_rfl) (by kernel_rfl) (by kernel_rfl) (fun _ _ _ h => h) (Or.inl ⟨by rfl, ?_⟩) hHeld ?_
  rotate_left
  · (intro w hSw; (try dsimp only at hSw); go_simp; (try with_reducible rfl))
  simp only [Act.put, List.setIfInBounds_toArray, List.set_cons_zero, List.set_cons_succ]
  refine take_at 3 (v := ?_) (some 18) rfl rfl (by kernel_rfl) (by kernel_rfl) (by kernel_rfl) (fun _ _ _ h => h) (Or.inl ⟨by rfl, ?_⟩) hHeld ?_
  rotate_left
  · (intro w hSw; (try dsimp only at hSw); go_simp; (try with_reducible rfl))
  simp only [Act.put, List.setIfInBounds_toArray, List.set_cons_zero, List.set_cons_succ]
  refine take_at 4 (v := ?_) (some 19) rfl rfl (by kernel_rfl) (by kernel_rfl) (by kernel_rfl) (fun _ _ _ h => h) (Or.inl ⟨by rfl, ?_⟩) hHeld ?_
  rotate_left
  · (intro w hSw; (try dsimp only at hSw); go_simp; (try with_reducible rfl))
  simp only [Act.put, List.setIfInBounds_toArray, List.set_cons_zero, List.set_cons_succ]
  refine take_at 5 (v := ?_) (some 20) rfl rfl (by kernel_rfl) (by kernel_rfl) (by kernel_rfl) (fun _ _ _ h => h) (Or.inl ⟨by rfl, ?_⟩) hHeld ?_
  rotate_left
  · (intro w hSw; (try dsimp only at hSw); go_simp; (try with_reducible rfl))
  simp only [Act.put, List.setIfInBounds_toArray, List.set_cons_zero, List.set_cons_succ]
  refine take_at 6 (v := ?_) (some 21) rfl rfl (by kernel_rfl) (by kernel_rfl) (by kernel_rfl) (fun _ _ _ h => h) (Or.inl ⟨by rfl, ?_⟩) hHeld ?_
  rotate_left
  · (intro w hSw; (try dsimp only at hSw); go_simp; (try with_reducible rfl))
  simp only [Act.put, List.setIfInBounds_toArray, List.set_cons_zero, List.set_cons_succ]
  refine take_at 7 (v := ?_) (some 22) rfl rfl (by kernel_rfl) (by kernel_rfl) (by kernel_rfl) (fun _ _ _ h => h) (Or.inl ⟨by rfl, ?_⟩) hHeld ?_
  rotate_left
  · (intro w hSw; (try dsimp only at hSw); go_simp; (try with_reducible rfl))
  simp only [Act.put, List.setIfInBounds_toArray, List.set_cons_zero, List.set_cons_succ]
  refine wpAnyH_ready (rs := [8]) (by kernel_rfl) (by simp) ?_
  refine AllReadyH.cons rfl (fun K hK => ?_) AllReadyH.nil
  go_simp
  refine (or_some _ _ _).mono ?_; rintro e w1 ⟨rfl, hww⟩; subst w1; have HF1 := Lib.hid (Fr.refl [g] w.drew)
  go_wp2_with fail
  refine hK.out _ _ ?_ (fun hHeld => ?_)
  · exact cell_fr hHeld HF1.out (by simp; exact hne1)
  clear hK K
  try simp only [Act.put, List.setIfInBounds_toArray, List.set_cons_zero, List.set_cons_succ]
  refine wpAnyH_ready (rs := [9]) (by kernel_rfl) (by simp) ?_
  refine AllReadyH.cons rfl (fun K hK => ?_) AllReadyH.nil
  go_simp
  refine (tadd_sum c 18446744073709551615 b g zs _ (show Pm w.drew b g zs from HM.out)).mono ?_; rintro e v1 ⟨rfl, hP, hK⟩; have HP := Lib.hid hP; have HF1 := Lib.hid (show Fr [g] w.drew v1 from .gb hK (by simp)); clear hP hK
  go_wp2_with fail
  refine hK.out _ _ ?_ (fun hHeld => ?_)
  · exact cell_fr hHeld HF1.out (by simp; exact hne1)
  clear hK K
  try simp only [Act.put, List.setIfInBounds_toArray, List.set_cons_zero, List.set_cons_succ]
  refine take_at 10 (v := ?_) (some 25) rfl rfl (by kernel_rfl) (by kernel_rfl) (by kernel_rfl) (fun _ _ _ h => h) (Or.inl ⟨by rfl, ?_⟩) hHeld ?_
  rotate_left
  · (intro w hSw; (try dsimp only at hSw); go_simp; (try with_reducible rfl))
  simp only [Act.put, List.setIfInBounds_toArray, List.set_cons_zero, List.set_cons_succ]
  refine take_at 11 (v := ?_) (some 26) rfl rfl (by kernel_rfl) (by kernel_rfl) (by kernel_rfl) (fun _ _ _ h => h) (Or.inl ⟨by rfl, ?_⟩) hHeld ?_
  rotate_left
  · (intro w hSw; (try dsimp only at hSw); go_simp; (try with_reducible rfl))
  simp only [Act.put, List.setIfInBounds_toArray, List.set_cons_zero, List.set_cons_succ]

  have F1 := Lib.hid (show Fr [g] w v1 from ((Fr.refl _ w).drew).trans HF1.out)
  have HT1 := Lib.hid (Bk.fr HT.out F1.out (by simp; exact hne1))
  have b1 : v1.cell? ⟨tb, 1, none⟩ = some (.int .i64 c) := HT1.out.cell 1
  have b2 : v1.cell? ⟨tb, 2, none⟩ = some (.int .i64 l) := HT1.out.cell 2
  have b3 : v1.cell? ⟨tb, 3, none⟩ = some (.bool false) := HT1.out.cell 3
  have g2 := Bk.free HT1.out 2
  have g3 := Bk.free HT1.out 3
  obtain ⟨q, hq⟩ : ∃ q, q = IntKind.i64.wrap (addw zs c 18446744073709551615) := ⟨_, rfl⟩
  have HQ := Lib.hid hq
  rw [← hq]
  clear hq
  have HFIN := Lib.hid (show Rt ((v1.setCell ⟨tb, 2, none⟩ (.int .i64 q)).setCell ⟨tb, 3, none⟩ (.bool true)) tb f c q true ∧ Pm ((v1.setCell ⟨tb, 2, none⟩ (.int .i64 q)).setCell ⟨tb, 3, none⟩ (.bool true)) b g (addv zs c 18446744073709551615) ∧ Fr [tb, g] w ((v1.setCell ⟨tb, 2, none⟩ (.int .i64 q)).setCell ⟨tb, 3, none⟩ (.bool true)) from by
    have f2 : Fr [tb] v1 ((v1.setCell ⟨tb, 2, none⟩ (.int .i64 q)).setCell ⟨tb, 3, none⟩ (.bool true)) := ((Fr.refl _ _).set (by simp) _).set (by simp) _
    exact ⟨Bk.set (Bk.set HT1.out 2 (.int .i64 q)) 3 (.bool true), ⟨HP.out.1.fr f2 (by simp; exact fun e => hne2 e.symm), HP.out.2.1.fr f2 (by simp; exact fun e => hne1 e.symm), HP.out.2.2⟩, (F1.out.mono (by simp)).trans (f2.mono (by simp))⟩)
  clear c0 c1 c2 c3
  refine wpAnyH_ready (rs := [12]) (by kernel_rfl) (by simp) ?_
  refine AllReadyH.cons rfl (fun K hK => ?_) AllReadyH.nil
  go_simp
  refine hK.out _ _ ?_ (fun hHeld => ?_)
  · (try dsimp only at hHeld ⊢)
    exact set_other b1 (.inr (by simp))
  clear hK K hHeld
  try simp only [Act.put, List.setIfInBounds_toArray, List.set_cons_zero, List.set_cons_succ]
  refine wpAnyH_done (by kernel_rfl) ?_ _
  go_wp2_with fail

  go_ret
  exact ⟨rfl, by rw [← HQ.out]; exact HFIN.out⟩

set_option maxHeartbeats 3200000 in
set_option maxRecDepth 100000 in
theorem qt_any (d f c : Int) (i : Bool) (tb : Nat) (b g : Nat) (zs : List Int) (w : World) (h : Qt w tb f c i false) (hm : Pm w b g zs) :
    Calls Try.prog 154 #[.pointer (some ⟨tb, 0, none⟩), .iface 64 (.pointer (some ⟨b, 0, none⟩)), .int .i64 d] w fun e w' => e = .returned (.bool true) ∧ Qt w' tb f c (IntKind.i64.wrap (ldv zs c) == 0) true ∧ Pm w' b g zs ∧ Fr [tb, g] w w' := by
  have HT := Lib.hid h
  have HM := Lib.hid hm
  have c0 : w.cell? ⟨tb, 0, none⟩ = some (.int .i64 f) := h.cell 0
  have c1 : w.cell? ⟨tb, 1, none⟩ = some (.int .i64 c) := h.cell 1
  have hne1 : tb ≠ g := Bk.ne h hm.2.1 (by decide)
  have hne2 : tb ≠ b := Bk.ne h hm.1 (by decide)

  have c2 : w.cell? ⟨tb, 2, none⟩ = some (.bool i) := h.cell 2
  have c3 : w.cell? ⟨tb, 3, none⟩ = some (.bool false) := h.cell 3
  clear h hm
  go_enter Try.func154, Try.ntmps154
  go_wp2_with fail
  refine (number_any f c b g zs _ HM.out).mono ?_
  rintro e v1 ⟨rfl, hB⟩
  have F1 := Lib.hid (show Fr [g] w v1 from .of hB)
  have HP := Lib.hid (HM.out.below hB)
  clear hB
  have HT1 := Lib.hid (Bk.fr HT.out F1.out (by simp; exact hne1))
  have b0 : v1.cell? ⟨tb, 0, none⟩ = some (.int .i64 f) := HT1.out.cell 0
  have b1 : v1.cell? ⟨tb, 1, none⟩ = some (.int .i64 c) := HT1.out.cell 1
  have b2 : v1.cell? ⟨tb, 2, none⟩ = some (.bool i) := HT1.out.cell 2
  have b3 : v1.cell? ⟨tb, 3, none⟩ = some (.bool false) := HT1.out.cell 3
  have g2 := Bk.free HT1.out 2
  have g3 := Bk.free HT1.out 3
  obtain ⟨q, hq⟩ : ∃ q, q = (IntKind.i64.wrap (ldv zs c) == 0) := ⟨_, rfl⟩
  have HQ := Lib.hid hq
  have HFIN := Lib.hid (show Qt ((v1.setCell ⟨tb, 2, none⟩ (.bool q)).setCell ⟨tb, 3, none⟩ (.bool true)) tb f c q true ∧ Pm ((v1.setCell ⟨tb, 2, none⟩ (.bool q)).setCell ⟨tb, 3, none⟩ (.bool true)) b g zs ∧ Fr [tb, g] w ((v1.setCell ⟨tb, 2, none⟩ (.bool q)).setCell ⟨tb, 3, none⟩ (.bool true)) from by
    have f2 : Fr [tb] v1 ((v1.setCell ⟨tb, 2, none⟩ (.bool q)).setCell ⟨tb, 3, none⟩ (.bool true)) := ((Fr.refl _ _).set (by simp) _).set (by simp) _
    exact ⟨Bk.set (Bk.set HT1.out 2 (.bool q)) 3 (.bool true), ⟨HP.out.1.fr f2 (by simp; exact fun e => hne2 e.symm), HP.out.2.1.fr f2 (by simp; exact fun e => hne1 e.symm), HP.out.2.2⟩, (F1.out.mono (by simp)).trans (f2.mono (by simp))⟩)
  clear c0 c1 c2 c3
  rw [hq] at HFIN
  clear hq
  have HW := Lib.hid (show IntKind.i64.wrap (ldv zs c) = wrap64 (ldv zs c) by first | exact IntWalk.i64_left _ | exact (IntWalk.i64_left _).symm)
  go_wp2_with fail
  go_ret
  exact ⟨rfl, by have h := HFIN.out; rw [HW.out] at h ⊢; exact h⟩


end Go.Proofs.Yteheckcflnogbaa
