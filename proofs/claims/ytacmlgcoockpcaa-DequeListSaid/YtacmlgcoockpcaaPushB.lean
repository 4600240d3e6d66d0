/-
  (*deque.Push).Step: some of its Steps.
-/
import Derived.Test.YtacmlgcoockpcaaPush
import Derived.Deep.RegionHeld3
namespace Go.Proofs.Ytacmlgcoockpcaa
open Go.RowKit
section
variable {t : TypeId} {p : Value} {S : List Nat} {I : World → List Int → Nat → Prop} {fl fs fc fa fn : FuncId} {rl rs' rc ra rn : Value}

set_option maxHeartbeats 3200000 in
set_option maxRecDepth 100000 in
theorem push_1f (M : MemI t p S I fl fs fc fa fn rl rs' rc ra rn) (a : Nat) (s : DS) (zs : List Int) (nn : Nat) (d : Int) (w : World) (h : Dq 66 w a s) (hI : I w zs nn) (haS : a ∉ S) (he : s.ended = false) (hd : s.did = 1) (hx : roomv s.cap ≤ wrap64 (IntKind.u64.wrap (s.b - ldv zs s.base))) :
    Calls Try.prog 30 #[.pointer (some ⟨a, 0, none⟩), .iface t p, .int .i64 d] w fun e w' => e = .returned (.bool (pushS s zs).ended) ∧ Dq 66 w' a (pushS s zs) ∧ (∃ m, m ≤ nn + 1 ∧ I w' (pushZ s zs) m) ∧ Fr (a :: S) w w' := by
  have hb := h.lt
  have k0 : w.cell? ⟨a, 0, none⟩ = some (.int .i64 s.base) := h.cell 0
  have k1 : w.cell? ⟨a, 1, none⟩ = some (.int .i64 s.cap) := h.cell 1
  have k2 : w.cell? ⟨a, 2, none⟩ = some (.int .u64 s.n) := h.cell 2
  have k4 : w.cell? ⟨a, 4, none⟩ = some (.bool s.ended) := h.cell 4
  have k5 : w.cell? ⟨a, 5, none⟩ = some (.int .i64 s.did) := h.cell 5
  have k6 : w.cell? ⟨a, 6, none⟩ = some (.int .u64 s.b) := h.cell 6
  have k7 : w.cell? ⟨a, 7, none⟩ = some (.int .u64 s.t) := h.cell 7
  have f5 := h.free 5
  have f6 := h.free 6
  have f7 := h.free 7
  have HE := Lib.hid (show pushS s zs = { s with t := ldv zs s.base, ok := false, ended := true } by unfold pushS; simp [he, hd, hx])
  have HZ := Lib.hid (show pushZ s zs = zs by unfold pushZ; simp [he, hd])
  have dx : decide (roomv s.cap ≤ wrap64 (IntKind.u64.wrap (s.b - ldv zs s.base))) = true := by simpa using hx
  clear hx
  have d0 : (s.did == 0) = false := by simp [hd]
  have d1 : (s.did == 1) = true := by simp [hd]
  have HP := Lib.hid h
  have HI := Lib.hid hI
  have HS := Lib.hid haS
  have hml := M.ml
  have hms := M.ms
  have hnl := M.nl
  have hns := M.ns
  have hel := M.el
  have hes := M.es
  obtain ⟨base, cap, n, ok, ended, did, b, tt, x, won⟩ := s
  dsimp only at *
  subst he
  clear h hI haS
  subst hd
  go_enter Try.func30, Try.ntmps30
  go_wp2_with fail
  refine wp_scope_via 3 ?_
  go_wp2_with fail
  refine (or_some _ _ _).mono ?_
  rintro e w1 ⟨rfl, rfl⟩
  have HDR := Lib.hid (M.keep [] _ _ _ _ HI.out (Fr.refl [] _).drew (by simp))
  go_wp2_with fail
  go_step3
  refine ⟨_, rfl, ?_⟩
  go_wp2_with fail
  go_region_with (refine (M.load _ _ _ _ HDR.out).mono ?_; rintro e W1 ⟨rfl, hI1, hF1⟩; have HI1 := Lib.hid hI1; (try rw [IntWalk.i64_left] at HI1); have HF1 := Lib.hid ((Fr.refl S w1).drew.trans hF1); have HP1 := Lib.hid (HP.out.fr ((Fr.refl S w1).drew.trans hF1) HS.out); have s7 := HP1.out.free 7; have r7 := HP1.out.cell 7; have s6 := HP1.out.free 6; have r6 := HP1.out.cell 6; have s5 := HP1.out.free 5; have r5 := HP1.out.cell 5; have s1 := HP1.out.free 1; have r1 := HP1.out.cell 1; simp only [dcells, List.getElem?_cons_zero, List.getElem?_cons_succ] at r7 r6 r5 r1; clear hI1 hF1)
  all_goals
    have F2 : Fr [a] W1 (W1.setCell ⟨a, 7, none⟩ (.int .u64 (ldv zs base))) := (Fr.refl [a] W1).set (by simp) _
    have P2 : Dq 66 (W1.setCell ⟨a, 7, none⟩ (.int .u64 (ldv zs base))) a ⟨base, cap, n, ok, false, 1, b, ldv zs base, x, won⟩ := HP1.out.set 7 (.int .u64 (ldv zs base))
    go_upto_region 12 with (fail)
    refine wp_gen (fun W => Dq 66 W a ⟨base, cap, n, ok, false, 1, b, ldv zs base, x, won⟩ ∧ Fr [a] W1 W) ⟨P2, F2⟩ ?_
    intro W ⟨hP, hF⟩
    have HPW := Lib.hid hP
    have HFW := Lib.hid hF
    have j1 : W.cell? ⟨a, 1, none⟩ = some (.int .i64 cap) := hP.cell 1
    have j5 : W.cell? ⟨a, 5, none⟩ = some (.int .i64 1) := hP.cell 5
    have j6 : W.cell? ⟨a, 6, none⟩ = some (.int .u64 b) := hP.cell 6
    have j7 : W.cell? ⟨a, 7, none⟩ = some (.int .u64 (ldv zs base)) := hP.cell 7
    have j8 := hP.free 5
    clear hP hF F2 P2 s7 s6 s5 s1 r7 r6 r5 r1
    go_wp2_with fail
    go_quiet ((go_at_call 46; exact Calls.quiet_of_same (room_any _ _)))
    go_wp2_with fail
    refine (pend_any a _ false _ (HPW.out.fr ((Fr.refl [] W).drewN _) (by simp))).mono ?_
    rintro e W2 ⟨rfl, hP, hF⟩
    have HP3 := Lib.hid hP
    have HF3 := Lib.hid (show Fr [a] W1 W2 from (HFW.out.drewN _).trans hF)
    clear hP hF
    go_wp2_with fail
    rw [via_ret]
    go_ret
    exact ⟨ret_bool (by rw [HE.out]), by rw [HE.out]; exact HP3.out, ⟨nn + 1, Nat.le_refl _, by rw [HZ.out]; exact M.keep [a] _ _ _ _ HI1.out HF3.out (fun s hs e => HS.out (by simpa [List.mem_singleton.1 e] using hs))⟩, (HF1.out.mono (by simp +contextual)).trans (HF3.out.mono (by simp))⟩

set_option maxHeartbeats 3200000 in
set_option maxRecDepth 100000 in
theorem push_1n (M : MemI t p S I fl fs fc fa fn rl rs' rc ra rn) (a : Nat) (s : DS) (zs : List Int) (nn : Nat) (d : Int) (w : World) (h : Dq 66 w a s) (hI : I w zs nn) (haS : a ∉ S) (he : s.ended = false) (hd : s.did = 1) (hx : ¬ roomv s.cap ≤ wrap64 (IntKind.u64.wrap (s.b - ldv zs s.base))) :
    Calls Try.prog 30 #[.pointer (some ⟨a, 0, none⟩), .iface t p, .int .i64 d] w fun e w' => e = .returned (.bool (pushS s zs).ended) ∧ Dq 66 w' a (pushS s zs) ∧ (∃ m, m ≤ nn + 1 ∧ I w' (pushZ s zs) m) ∧ Fr (a :: S) w w' := by
  have hb := h.lt
  have k0 : w.cell? ⟨a, 0, none⟩ = some (.int .i64 s.base) := h.cell 0
  have k1 : w.cell? ⟨a, 1, none⟩ = some (.int .i64 s.cap) := h.cell 1
  have k2 : w.cell? ⟨a, 2, none⟩ = some (.int .u64 s.n) := h.cell 2
  have k4 : w.cell? ⟨a, 4, none⟩ = some (.bool s.ended) := h.cell 4
  have k5 : w.cell? ⟨a, 5, none⟩ = some (.int .i64 s.did) := h.cell 5
  have k6 : w.cell? ⟨a, 6, none⟩ = some (.int .u64 s.b) := h.cell 6
  have k7 : w.cell? ⟨a, 7, none⟩ = some (.int .u64 s.t) := h.cell 7
  have f5 := h.free 5
  have f6 := h.free 6
  have f7 := h.free 7
  have HE := Lib.hid (show pushS s zs = { s with t := ldv zs s.base, did := 2 } by unfold pushS; simp [he, hd, hx])
  have HZ := Lib.hid (show pushZ s zs = zs by unfold pushZ; simp [he, hd])
  have dx : decide (roomv s.cap ≤ wrap64 (IntKind.u64.wrap (s.b - ldv zs s.base))) = false := by simpa using hx
  clear hx
  have d0 : (s.did == 0) = false := by simp [hd]
  have d1 : (s.did == 1) = true := by simp [hd]
  have HP := Lib.hid h
  have HI := Lib.hid hI
  have HS := Lib.hid haS
  have hml := M.ml
  have hms := M.ms
  have hnl := M.nl
  have hns := M.ns
  have hel := M.el
  have hes := M.es
  obtain ⟨base, cap, n, ok, ended, did, b, tt, x, won⟩ := s
  dsimp only at *
  subst he
  clear h hI haS
  subst hd
  go_enter Try.func30, Try.ntmps30
  go_wp2_with fail
  refine wp_scope_via 3 ?_
  go_wp2_with fail
  refine (or_some _ _ _).mono ?_
  rintro e w1 ⟨rfl, rfl⟩
  have HDR := Lib.hid (M.keep [] _ _ _ _ HI.out (Fr.refl [] _).drew (by simp))
  go_wp2_with fail
  go_step3
  refine ⟨_, rfl, ?_⟩
  go_wp2_with fail
  go_region_with (refine (M.load _ _ _ _ HDR.out).mono ?_; rintro e W1 ⟨rfl, hI1, hF1⟩; have HI1 := Lib.hid hI1; (try rw [IntWalk.i64_left] at HI1); have HF1 := Lib.hid ((Fr.refl S w1).drew.trans hF1); have HP1 := Lib.hid (HP.out.fr ((Fr.refl S w1).drew.trans hF1) HS.out); have s7 := HP1.out.free 7; have r7 := HP1.out.cell 7; have s6 := HP1.out.free 6; have r6 := HP1.out.cell 6; have s5 := HP1.out.free 5; have r5 := HP1.out.cell 5; have s1 := HP1.out.free 1; have r1 := HP1.out.cell 1; simp only [dcells, List.getElem?_cons_zero, List.getElem?_cons_succ] at r7 r6 r5 r1; clear hI1 hF1)
  all_goals
    have F2 : Fr [a] W1 (W1.setCell ⟨a, 7, none⟩ (.int .u64 (ldv zs base))) := (Fr.refl [a] W1).set (by simp) _
    have P2 : Dq 66 (W1.setCell ⟨a, 7, none⟩ (.int .u64 (ldv zs base))) a ⟨base, cap, n, ok, false, 1, b, ldv zs base, x, won⟩ := HP1.out.set 7 (.int .u64 (ldv zs base))
    go_upto_region 12 with (fail)
    refine wp_gen (fun W => Dq 66 W a ⟨base, cap, n, ok, false, 1, b, ldv zs base, x, won⟩ ∧ Fr [a] W1 W) ⟨P2, F2⟩ ?_
    intro W ⟨hP, hF⟩
    have HPW := Lib.hid hP
    have HFW := Lib.hid hF
    have j1 : W.cell? ⟨a, 1, none⟩ = some (.int .i64 cap) := hP.cell 1
    have j5 : W.cell? ⟨a, 5, none⟩ = some (.int .i64 1) := hP.cell 5
    have j6 : W.cell? ⟨a, 6, none⟩ = some (.int .u64 b) := hP.cell 6
    have j7 : W.cell? ⟨a, 7, none⟩ = some (.int .u64 (ldv zs base)) := hP.cell 7
    have j8 := hP.free 5
    clear hP hF F2 P2 s7 s6 s5 s1 r7 r6 r5 r1
    go_wp2_with fail
    go_quiet ((go_at_call 46; exact Calls.quiet_of_same (room_any _ _)))
    go_wp2_with fail
    go_step3
    refine ⟨_, rfl, ?_⟩
    go_wp2_with fail
    go_ret
    refine ⟨ret_bool (by rw [HE.out]), ?_, ?_, ?_⟩
    · rw [HE.out]; exact (HPW.out.fr ((Fr.refl [] W).drewN _) (by simp)).set 5 _
    · exact ⟨nn + 1, Nat.le_refl _, by rw [HZ.out]; exact M.keep [a] _ _ _ _ HI1.out ((HFW.out.drewN _).set (by simp) _) (fun s hs e => HS.out (by simpa [List.mem_singleton.1 e] using hs))⟩
    · exact (HF1.out.mono (by simp +contextual)).trans (((HFW.out.drewN _).set (by simp) _).mono (by simp))

end

end Go.Proofs.Ytacmlgcoockpcaa
