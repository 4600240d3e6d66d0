/-
  deque: Steps of a pop, a steal: some of them.
-/
import Derived.Test.YtacmlgcoockpcaaDeqEnd
import Derived.Deep.RegionHeld3
namespace Go.Proofs.Ytacmlgcoockpcaa
open Go.RowKit
section
variable {t : TypeId} {p : Value} {S : List Nat} {I : World → List Int → Nat → Prop} {fl fs fc fa fn : FuncId} {rl rs' rc ra rn : Value}

set_option maxHeartbeats 3200000 in
set_option maxRecDepth 100000 in
theorem pop_4 (M : MemI t p S I fl fs fc fa fn rl rs' rc ra rn) (a : Nat) (s : DS) (zs : List Int) (nn : Nat) (d : Int) (w : World) (h : Dq 68 w a s) (hI : I w zs nn) (haS : a ∉ S) (he : s.ended = false) (hd : s.did = 4) :
    Calls Try.prog 31 #[.pointer (some ⟨a, 0, none⟩), .iface t p, .int .i64 d] w fun e w' => e = .returned (.bool (popS s zs).ended) ∧ Dq 68 w' a (popS s zs) ∧ (∃ m, m ≤ nn + 1 ∧ I w' (popZ s zs) m) ∧ Fr (a :: S) w w' := by
  have hb := h.lt
  have k0 : w.cell? ⟨a, 0, none⟩ = some (.int .i64 s.base) := h.cell 0
  have k1 : w.cell? ⟨a, 1, none⟩ = some (.int .i64 s.cap) := h.cell 1
  have k4 : w.cell? ⟨a, 4, none⟩ = some (.bool s.ended) := h.cell 4
  have k5 : w.cell? ⟨a, 5, none⟩ = some (.int .i64 s.did) := h.cell 5
  have k6 : w.cell? ⟨a, 6, none⟩ = some (.int .u64 s.b) := h.cell 6
  have k7 : w.cell? ⟨a, 7, none⟩ = some (.int .u64 s.t) := h.cell 7
  have k8 : w.cell? ⟨a, 8, none⟩ = some (.int .u64 s.x) := h.cell 8
  have k9 : w.cell? ⟨a, 9, none⟩ = some (.bool s.won) := h.cell 9
  have HE := Lib.hid (show popS s zs = { s with won := casb zs s.base s.t, did := 5 } by unfold popS; simp [he, hd])
  have HZ := Lib.hid (show popZ s zs = casv zs s.base s.t (IntKind.u64.wrap (s.t + 1)) by unfold popZ; simp [he, hd])
  have d0 : (s.did == 0) = false := by simp [hd]
  have d1 : (s.did == 1) = false := by simp [hd]
  have d2 : (s.did == 2) = false := by simp [hd]
  have d3 : (s.did == 3) = false := by simp [hd]
  have d4 : (s.did == 4) = true := by simp [hd]
  have HP := Lib.hid h
  have HI := Lib.hid hI
  have HS := Lib.hid haS
  have hml := M.ml
  have hms := M.ms
  have hmc := M.mc
  have hnl := M.nl
  have hns := M.ns
  have hnc := M.nc
  have hel := M.el
  have hes := M.es
  have hec := M.ec
  obtain ⟨base, cap, n, ok, ended, did, b, tt, x, won⟩ := s
  dsimp only at *
  subst he
  clear h hI haS
  subst hd
  go_enter Try.func31, Try.ntmps31
  go_wp2_with fail
  refine wp_scope_via 3 ?_
  go_wp2_with fail
  refine (or_some _ _ _).mono ?_
  rintro e w1 ⟨rfl, rfl⟩
  obtain ⟨W, rfl⟩ : ∃ W : World, W = w1 := ⟨_, rfl⟩
  have HPW := HP
  have HIW := HI
  have HFW := Lib.hid (Fr.refl (a :: S) W)
  go_wp2_with fail
  go_step3
  refine ⟨_, rfl, ?_⟩
  go_wp2_with fail
  have HDR := Lib.hid (M.keep [] _ _ _ _ HIW.out (Fr.refl [] _).drew (by simp))
  go_region_held3 (fun w' => w'.cell? ⟨a, 0, none⟩ = some (.int .i64 base) ∧ w'.cell? ⟨a, 7, none⟩ = some (.int .u64 tt))
    (first
      | go_keep
      | (go_split_ands; exact ⟨HP1.out.cell 0, HP1.out.cell 7⟩)
      | (go_split_ands; exact ⟨set_other (show W1.cell? ⟨a, 0, none⟩ = some (.int .i64 base) from HP1.out.cell 0) (.inr (by simp)), set_other (show W1.cell? ⟨a, 7, none⟩ = some (.int .u64 tt) from HP1.out.cell 7) (.inr (by simp))⟩)
      | assumption)
    (first
      | (go_simp; refine (M.cas _ _ _ _ _ _ HDR.out).mono ?_; rintro e W1 ⟨rfl, hI1, hF1⟩; have HI1 := Lib.hid hI1; (try rw [IntWalk.i64_left] at HI1); have HF1 := Lib.hid ((Fr.refl S W).drew.trans hF1); have HP1 := Lib.hid (HPW.out.fr ((Fr.refl S W).drew.trans hF1) HS.out); have s9 := HP1.out.free 9; have r9 : W1.cell? ⟨a, 9, none⟩ = some (.bool _) := HP1.out.cell 9; have s5 := HP1.out.free 5; have r5 : W1.cell? ⟨a, 5, none⟩ = some (.int .i64 _) := HP1.out.cell 5; clear hI1 hF1; go_wp2_with fail))
  all_goals
    go_wp2_with fail
    go_step3
    go_wp2_with fail
    (try rw [via_ret])
    go_ret
    have F2 : Fr [a] W1 ((W1.setCell ⟨a, 9, none⟩ (.bool (casb zs base tt))).setCell ⟨a, 5, none⟩ (.int .i64 5)) := (((Fr.refl [a] W1).set (by simp) _).set (by simp) _)
    exact ⟨ret_bool (by rw [HE.out]), by rw [HE.out]; exact (HP1.out.set 9 (.bool (casb zs base tt))).set 5 (.int .i64 5), ⟨nn + 1, Nat.le_refl _, by rw [HZ.out]; exact M.keep [a] _ _ _ _ HI1.out F2 (fun s hs e => HS.out (by simpa [List.mem_singleton.1 e] using hs))⟩, (HFW.out.trans (HF1.out.mono (by simp +contextual))).trans (F2.mono (by simp))⟩

set_option maxHeartbeats 3200000 in
set_option maxRecDepth 100000 in
theorem pop_5 (M : MemI t p S I fl fs fc fa fn rl rs' rc ra rn) (a : Nat) (s : DS) (zs : List Int) (nn : Nat) (d : Int) (w : World) (h : Dq 68 w a s) (hI : I w zs nn) (haS : a ∉ S) (he : s.ended = false) (hd : ¬ s.did = 0 ∧ ¬ s.did = 1 ∧ ¬ s.did = 2 ∧ ¬ s.did = 3 ∧ ¬ s.did = 4) :
    Calls Try.prog 31 #[.pointer (some ⟨a, 0, none⟩), .iface t p, .int .i64 d] w fun e w' => e = .returned (.bool (popS s zs).ended) ∧ Dq 68 w' a (popS s zs) ∧ (∃ m, m ≤ nn + 1 ∧ I w' (popZ s zs) m) ∧ Fr (a :: S) w w' := by
  have hb := h.lt
  have k0 : w.cell? ⟨a, 0, none⟩ = some (.int .i64 s.base) := h.cell 0
  have k1 : w.cell? ⟨a, 1, none⟩ = some (.int .i64 s.cap) := h.cell 1
  have k4 : w.cell? ⟨a, 4, none⟩ = some (.bool s.ended) := h.cell 4
  have k5 : w.cell? ⟨a, 5, none⟩ = some (.int .i64 s.did) := h.cell 5
  have k6 : w.cell? ⟨a, 6, none⟩ = some (.int .u64 s.b) := h.cell 6
  have k7 : w.cell? ⟨a, 7, none⟩ = some (.int .u64 s.t) := h.cell 7
  have k8 : w.cell? ⟨a, 8, none⟩ = some (.int .u64 s.x) := h.cell 8
  have k9 : w.cell? ⟨a, 9, none⟩ = some (.bool s.won) := h.cell 9
  have HE := Lib.hid (show popS s zs = endS s s.won by unfold popS; simp [he, hd])
  have HZ := Lib.hid (show popZ s zs = stv zs (wrap64 (s.base + 1)) (IntKind.u64.wrap (s.b + 1)) by unfold popZ; simp [he, hd])
  have d0 : (s.did == 0) = false := by simp [hd]
  have d1 : (s.did == 1) = false := by simp [hd]
  have d2 : (s.did == 2) = false := by simp [hd]
  have d3 : (s.did == 3) = false := by simp [hd]
  have d4 : (s.did == 4) = false := by simp [hd]
  clear hd
  have HP := Lib.hid h
  have HI := Lib.hid hI
  have HS := Lib.hid haS
  have hml := M.ml
  have hms := M.ms
  have hmc := M.mc
  have hnl := M.nl
  have hns := M.ns
  have hnc := M.nc
  have hel := M.el
  have hes := M.es
  have hec := M.ec
  obtain ⟨base, cap, n, ok, ended, did, b, tt, x, won⟩ := s
  dsimp only at *
  subst he
  clear h hI haS
  go_enter Try.func31, Try.ntmps31
  go_wp2_with fail
  refine wp_scope_via 3 ?_
  go_wp2_with fail
  refine (or_some _ _ _).mono ?_
  rintro e w1 ⟨rfl, rfl⟩
  obtain ⟨W, rfl⟩ : ∃ W : World, W = w1 := ⟨_, rfl⟩
  have HPW := HP
  have HIW := HI
  have HFW := Lib.hid (Fr.refl (a :: S) W)
  go_wp2_with fail
  have HDR := Lib.hid (M.keep [] _ _ _ _ HIW.out (Fr.refl [] _).drew (by simp))
  go_region_held3 (fun w' => w'.cell? ⟨a, 0, none⟩ = some (.int .i64 base) ∧ w'.cell? ⟨a, 6, none⟩ = some (.int .u64 b))
    (first
      | go_keep
      | (go_split_ands; exact ⟨HP1.out.cell 0, HP1.out.cell 6⟩)
      | (go_split_ands; exact ⟨set_other (show W1.cell? ⟨a, 0, none⟩ = some (.int .i64 base) from HP1.out.cell 0) (.inr (by simp)), set_other (show W1.cell? ⟨a, 6, none⟩ = some (.int .u64 b) from HP1.out.cell 6) (.inr (by simp))⟩)
      | assumption)
    (first
      | (go_simp; refine (M.store _ _ _ _ _ HDR.out).mono ?_; rintro e W1 ⟨rfl, hI1, hF1⟩; have HI1 := Lib.hid hI1; (try rw [IntWalk.i64_left] at HI1); have HF1 := Lib.hid ((Fr.refl S W).drew.trans hF1); have HP1 := Lib.hid (HPW.out.fr ((Fr.refl S W).drew.trans hF1) HS.out); have s9 := HP1.out.free 9; have r9 : W1.cell? ⟨a, 9, none⟩ = some (.bool _) := HP1.out.cell 9; clear hI1 hF1; go_wp2_with fail))
  all_goals
    go_wp2_with fail
    refine (pop_end a _ won _ HP1.out).mono ?_
    rintro e W2 ⟨rfl, hP2, hF2⟩
    have HP2 := Lib.hid hP2
    have HF2 := Lib.hid hF2
    clear hP2 hF2
    go_wp2_with fail
    (try rw [via_ret])
    go_ret
    exact ⟨ret_bool (by rw [HE.out]; rfl), by rw [HE.out]; exact HP2.out, ⟨nn + 1, Nat.le_refl _, by rw [HZ.out]; exact M.keep [a] _ _ _ _ HI1.out HF2.out (fun s hs e => HS.out (by simpa [List.mem_singleton.1 e] using hs))⟩, (HFW.out.trans (HF1.out.mono (by simp +contextual))).trans (HF2.out.mono (by simp))⟩

end

end Go.Proofs.Ytacmlgcoockpcaa
