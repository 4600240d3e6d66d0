/-
  deque: Steps of a pop, a steal: some of them.
-/
import Derived.Test.YtacmlgcoockpcaaDeqEnd
import Derived.Deep.RegionHeld3
namespace Go.Proofs.Ytacmlgcoockpcaa
open Go.RowKit
section
variable {t : TypeId} {p : Value} {S : List Nat} {I : World → List Int → Nat → Prop} {fl fs fc fa fn : FuncId} {rl rs' rc ra rn : Value}

set_option maxHeartbeats 3200000 in
set_option maxRecDepth 100000 in
theorem steal_1n (M : MemI t p S I fl fs fc fa fn rl rs' rc ra rn) (a : Nat) (s : DS) (zs : List Int) (nn : Nat) (d : Int) (w : World) (h : Dq 69 w a s) (hI : I w zs nn) (haS : a ∉ S) (he : s.ended = false) (hd : s.did = 1) (hx : abv (ldv zs (wrap64 (s.base + 1))) s.t = true) :
    Calls Try.prog 32 #[.pointer (some ⟨a, 0, none⟩), .iface t p, .int .i64 d] w fun e w' => e = .returned (.bool (stealS s zs).ended) ∧ Dq 69 w' a (stealS s zs) ∧ (∃ m, m ≤ nn + 1 ∧ I w' (stealZ s zs) m) ∧ Fr (a :: S) w w' := by
  have hb := h.lt
  have k0 : w.cell? ⟨a, 0, none⟩ = some (.int .i64 s.base) := h.cell 0
  have k1 : w.cell? ⟨a, 1, none⟩ = some (.int .i64 s.cap) := h.cell 1
  have k4 : w.cell? ⟨a, 4, none⟩ = some (.bool s.ended) := h.cell 4
  have k5 : w.cell? ⟨a, 5, none⟩ = some (.int .i64 s.did) := h.cell 5
  have k6 : w.cell? ⟨a, 6, none⟩ = some (.int .u64 s.b) := h.cell 6
  have k7 : w.cell? ⟨a, 7, none⟩ = some (.int .u64 s.t) := h.cell 7
  have k8 : w.cell? ⟨a, 8, none⟩ = some (.int .u64 s.x) := h.cell 8
  have k9 : w.cell? ⟨a, 9, none⟩ = some (.bool s.won) := h.cell 9
  have HE := Lib.hid (show stealS s zs = { s with b := ldv zs (wrap64 (s.base + 1)), did := 2 } by unfold stealS; simp [he, hd, hx])
  have HZ := Lib.hid (show stealZ s zs = zs by unfold stealZ; simp [he, hd])
  have d0 : (s.did == 0) = false := by simp [hd]
  have d1 : (s.did == 1) = true := by simp [hd]
  have HP := Lib.hid h
  have HI := Lib.hid hI
  have HS := Lib.hid haS
  have hml := M.ml
  have hms := M.ms
  have hmc := M.mc
  have hnl := M.nl
  have hns := M.ns
  have hnc := M.nc
  have hel := M.el
  have hes := M.es
  have hec := M.ec
  obtain ⟨base, cap, n, ok, ended, did, b, tt, x, won⟩ := s
  dsimp only at *
  subst he
  clear h hI haS
  subst hd
  go_enter Try.func32, Try.ntmps32
  go_wp2_with fail
  refine wp_scope_via 3 ?_
  go_wp2_with fail
  refine (or_some _ _ _).mono ?_
  rintro e w1 ⟨rfl, rfl⟩
  obtain ⟨W, rfl⟩ : ∃ W : World, W = w1 := ⟨_, rfl⟩
  have HPW := HP
  have HIW := HI
  have HFW := Lib.hid (Fr.refl (a :: S) W)
  go_wp2_with fail
  go_step3
  refine ⟨_, rfl, ?_⟩
  go_wp2_with fail
  have HDR := Lib.hid (M.keep [] _ _ _ _ HIW.out (Fr.refl [] _).drew (by simp))
  go_region_held3 (fun w' => w'.cell? ⟨a, 0, none⟩ = some (.int .i64 base))
    (first
      | go_keep
      | (go_split_ands; exact HP1.out.cell 0)
      | (go_split_ands; exact set_other (show W1.cell? ⟨a, 0, none⟩ = some (.int .i64 base) from HP1.out.cell 0) (.inr (by simp)))
      | assumption)
    (first
      | (go_simp; refine (M.load _ _ _ _ HDR.out).mono ?_; rintro e W1 ⟨rfl, hI1, hF1⟩; have HI1 := Lib.hid hI1; (try rw [IntWalk.i64_left] at HI1); have HF1 := Lib.hid ((Fr.refl S W).drew.trans hF1); have HP1 := Lib.hid (HPW.out.fr ((Fr.refl S W).drew.trans hF1) HS.out); have s6 := HP1.out.free 6; have r6 : W1.cell? ⟨a, 6, none⟩ = some (.int .u64 _) := HP1.out.cell 6; have s5 := HP1.out.free 5; have r5 : W1.cell? ⟨a, 5, none⟩ = some (.int .i64 _) := HP1.out.cell 5; clear hI1 hF1; go_wp2_with fail))
  all_goals
    have P2 : Dq 69 (W1.setCell ⟨a, 6, none⟩ (.int .u64 (ldv zs (IntKind.i64.wrap (base + 1))))) a ⟨base, cap, n, ok, false, 1, ldv zs (wrap64 (base + 1)), tt, x, won⟩ := by rw [IntWalk.i64_left]; exact HP1.out.set 6 _
    have F2 : Fr [a] W1 (W1.setCell ⟨a, 6, none⟩ (.int .u64 (ldv zs (IntKind.i64.wrap (base + 1))))) := (Fr.refl [a] W1).set (by simp) _
    go_upto_region 11 with (fail)
    refine wp_gen (fun W => Dq 69 W a ⟨base, cap, n, ok, false, 1, ldv zs (wrap64 (base + 1)), tt, x, won⟩ ∧ Fr [a] W1 W) ⟨P2, F2⟩ ?_
    intro W2 ⟨hP2, hF2⟩
    have HP2 := Lib.hid hP2
    have HF2 := Lib.hid hF2
    have j5 : W2.cell? ⟨a, 5, none⟩ = some (.int .i64 1) := hP2.cell 5
    have j6 : W2.cell? ⟨a, 6, none⟩ = some (.int .u64 (ldv zs (wrap64 (base + 1)))) := hP2.cell 6
    have j7 : W2.cell? ⟨a, 7, none⟩ = some (.int .u64 tt) := hP2.cell 7
    have j15 := hP2.free 5
    clear hP2 hF2 P2 F2
    go_wp2_with fail
    go_quiet ((go_at_call 45; exact Calls.quiet_of_same (above_any _ _ _)))
    go_wp2_with fail
    go_step3
    refine ⟨_, rfl, ?_⟩
    go_wp2_with fail
    (try rw [via_ret])
    go_ret
    refine ⟨ret_bool (by rw [HE.out]), ?_, ?_, ?_⟩
    · rw [HE.out]; exact (HP2.out.fr ((Fr.refl [] W2).drewN _) (by simp)).set 5 (.int .i64 2)
    · exact ⟨nn + 1, Nat.le_refl _, by rw [HZ.out]; exact M.keep [a] _ _ _ _ HI1.out ((HF2.out.drewN _).set (by simp) _) (fun s hs e => HS.out (by simpa [List.mem_singleton.1 e] using hs))⟩
    · exact (HFW.out.trans (HF1.out.mono (by simp +contextual))).trans (((HF2.out.drewN _).set (by simp) _).mono (by simp))

set_option maxHeartbeats 3200000 in
set_option maxRecDepth 100000 in
theorem steal_1e (M : MemI t p S I fl fs fc fa fn rl rs' rc ra rn) (a : Nat) (s : DS) (zs : List Int) (nn : Nat) (d : Int) (w : World) (h : Dq 69 w a s) (hI : I w zs nn) (haS : a ∉ S) (he : s.ended = false) (hd : s.did = 1) (hx : abv (ldv zs (wrap64 (s.base + 1))) s.t = false) :
    Calls Try.prog 32 #[.pointer (some ⟨a, 0, none⟩), .iface t p, .int .i64 d] w fun e w' => e = .returned (.bool (stealS s zs).ended) ∧ Dq 69 w' a (stealS s zs) ∧ (∃ m, m ≤ nn + 1 ∧ I w' (stealZ s zs) m) ∧ Fr (a :: S) w w' := by
  have hb := h.lt
  have k0 : w.cell? ⟨a, 0, none⟩ = some (.int .i64 s.base) := h.cell 0
  have k1 : w.cell? ⟨a, 1, none⟩ = some (.int .i64 s.cap) := h.cell 1
  have k4 : w.cell? ⟨a, 4, none⟩ = some (.bool s.ended) := h.cell 4
  have k5 : w.cell? ⟨a, 5, none⟩ = some (.int .i64 s.did) := h.cell 5
  have k6 : w.cell? ⟨a, 6, none⟩ = some (.int .u64 s.b) := h.cell 6
  have k7 : w.cell? ⟨a, 7, none⟩ = some (.int .u64 s.t) := h.cell 7
  have k8 : w.cell? ⟨a, 8, none⟩ = some (.int .u64 s.x) := h.cell 8
  have k9 : w.cell? ⟨a, 9, none⟩ = some (.bool s.won) := h.cell 9
  have HE := Lib.hid (show stealS s zs = endS { s with b := ldv zs (wrap64 (s.base + 1)) } false by unfold stealS; simp [he, hd, hx])
  have HZ := Lib.hid (show stealZ s zs = zs by unfold stealZ; simp [he, hd])
  have d0 : (s.did == 0) = false := by simp [hd]
  have d1 : (s.did == 1) = true := by simp [hd]
  have HP := Lib.hid h
  have HI := Lib.hid hI
  have HS := Lib.hid haS
  have hml := M.ml
  have hms := M.ms
  have hmc := M.mc
  have hnl := M.nl
  have hns := M.ns
  have hnc := M.nc
  have hel := M.el
  have hes := M.es
  have hec := M.ec
  obtain ⟨base, cap, n, ok, ended, did, b, tt, x, won⟩ := s
  dsimp only at *
  subst he
  clear h hI haS
  subst hd
  go_enter Try.func32, Try.ntmps32
  go_wp2_with fail
  refine wp_scope_via 3 ?_
  go_wp2_with fail
  refine (or_some _ _ _).mono ?_
  rintro e w1 ⟨rfl, rfl⟩
  obtain ⟨W, rfl⟩ : ∃ W : World, W = w1 := ⟨_, rfl⟩
  have HPW := HP
  have HIW := HI
  have HFW := Lib.hid (Fr.refl (a :: S) W)
  go_wp2_with fail
  go_step3
  refine ⟨_, rfl, ?_⟩
  go_wp2_with fail
  have HDR := Lib.hid (M.keep [] _ _ _ _ HIW.out (Fr.refl [] _).drew (by simp))
  go_region_held3 (fun w' => w'.cell? ⟨a, 0, none⟩ = some (.int .i64 base))
    (first
      | go_keep
      | (go_split_ands; exact HP1.out.cell 0)
      | (go_split_ands; exact set_other (show W1.cell? ⟨a, 0, none⟩ = some (.int .i64 base) from HP1.out.cell 0) (.inr (by simp)))
      | assumption)
    (first
      | (go_simp; refine (M.load _ _ _ _ HDR.out).mono ?_; rintro e W1 ⟨rfl, hI1, hF1⟩; have HI1 := Lib.hid hI1; (try rw [IntWalk.i64_left] at HI1); have HF1 := Lib.hid ((Fr.refl S W).drew.trans hF1); have HP1 := Lib.hid (HPW.out.fr ((Fr.refl S W).drew.trans hF1) HS.out); have s6 := HP1.out.free 6; have r6 : W1.cell? ⟨a, 6, none⟩ = some (.int .u64 _) := HP1.out.cell 6; have s5 := HP1.out.free 5; have r5 : W1.cell? ⟨a, 5, none⟩ = some (.int .i64 _) := HP1.out.cell 5; clear hI1 hF1; go_wp2_with fail))
  all_goals
    have P2 : Dq 69 (W1.setCell ⟨a, 6, none⟩ (.int .u64 (ldv zs (IntKind.i64.wrap (base + 1))))) a ⟨base, cap, n, ok, false, 1, ldv zs (wrap64 (base + 1)), tt, x, won⟩ := by rw [IntWalk.i64_left]; exact HP1.out.set 6 _
    have F2 : Fr [a] W1 (W1.setCell ⟨a, 6, none⟩ (.int .u64 (ldv zs (IntKind.i64.wrap (base + 1))))) := (Fr.refl [a] W1).set (by simp) _
    go_upto_region 11 with (fail)
    refine wp_gen (fun W => Dq 69 W a ⟨base, cap, n, ok, false, 1, ldv zs (wrap64 (base + 1)), tt, x, won⟩ ∧ Fr [a] W1 W) ⟨P2, F2⟩ ?_
    intro W2 ⟨hP2, hF2⟩
    have HP2 := Lib.hid hP2
    have HF2 := Lib.hid hF2
    have j5 : W2.cell? ⟨a, 5, none⟩ = some (.int .i64 1) := hP2.cell 5
    have j6 : W2.cell? ⟨a, 6, none⟩ = some (.int .u64 (ldv zs (wrap64 (base + 1)))) := hP2.cell 6
    have j7 : W2.cell? ⟨a, 7, none⟩ = some (.int .u64 tt) := hP2.cell 7
    have j15 := hP2.free 5
    clear hP2 hF2 P2 F2
    go_wp2_with fail
    go_quiet ((go_at_call 45; exact Calls.quiet_of_same (above_any _ _ _)))
    go_wp2_with fail
    refine (steal_end a _ false _ (HP2.out.fr ((Fr.refl [] W2).drewN _) (by simp))).mono ?_
    rintro e W3 ⟨rfl, hP3, hF3⟩
    have HP3 := Lib.hid hP3
    have HF3 := Lib.hid (show Fr [a] W1 W3 from (HF2.out.drewN _).trans hF3)
    clear hP3 hF3
    go_wp2_with fail
    (try rw [via_ret])
    go_ret
    exact ⟨ret_bool (by rw [HE.out]; rfl), by rw [HE.out]; exact HP3.out, ⟨nn + 1, Nat.le_refl _, by rw [HZ.out]; exact M.keep [a] _ _ _ _ HI1.out HF3.out (fun s hs e => HS.out (by simpa [List.mem_singleton.1 e] using hs))⟩, (HFW.out.trans (HF1.out.mono (by simp +contextual))).trans (HF3.out.mono (by simp))⟩

end

end Go.Proofs.Ytacmlgcoockpcaa
