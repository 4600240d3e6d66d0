/-
  deque: Steps of a pop, a steal: some of them.
-/
import Derived.Test.YtacmlgcoockpcaaDeqEnd
import Derived.Deep.RegionHeld3
namespace Go.Proofs.Ytacmlgcoockpcaa
open Go.RowKit
section
variable {t : TypeId} {p : Value} {S : List Nat} {I : World → List Int → Nat → Prop} {fl fs fc fa fn : FuncId} {rl rs' rc ra rn : Value}

set_option maxHeartbeats 3200000 in
set_option maxRecDepth 100000 in
theorem steal_ended (M : MemI t p S I fl fs fc fa fn rl rs' rc ra rn) (a : Nat) (s : DS) (zs : List Int) (nn : Nat) (d : Int) (w : World) (h : Dq 69 w a s) (hI : I w zs nn) (haS : a ∉ S) (he : s.ended = true) :
    Calls Try.prog 32 #[.pointer (some ⟨a, 0, none⟩), .iface t p, .int .i64 d] w fun e w' => e = .returned (.bool (stealS s zs).ended) ∧ Dq 69 w' a (stealS s zs) ∧ (∃ m, m ≤ nn + 1 ∧ I w' (stealZ s zs) m) ∧ Fr (a :: S) w w' := by
  have hb := h.lt
  have k0 : w.cell? ⟨a, 0, none⟩ = some (.int .i64 s.base) := h.cell 0
  have k1 : w.cell? ⟨a, 1, none⟩ = some (.int .i64 s.cap) := h.cell 1
  have k4 : w.cell? ⟨a, 4, none⟩ = some (.bool s.ended) := h.cell 4
  have k5 : w.cell? ⟨a, 5, none⟩ = some (.int .i64 s.did) := h.cell 5
  have k6 : w.cell? ⟨a, 6, none⟩ = some (.int .u64 s.b) := h.cell 6
  have k7 : w.cell? ⟨a, 7, none⟩ = some (.int .u64 s.t) := h.cell 7
  have k8 : w.cell? ⟨a, 8, none⟩ = some (.int .u64 s.x) := h.cell 8
  have k9 : w.cell? ⟨a, 9, none⟩ = some (.bool s.won) := h.cell 9
  have HE := Lib.hid (show stealS s zs = s by unfold stealS; simp [he])
  have HZ := Lib.hid (show stealZ s zs = zs by unfold stealZ; simp [he])

  have HP := Lib.hid h
  have HI := Lib.hid hI
  have HS := Lib.hid haS
  have hml := M.ml
  have hms := M.ms
  have hmc := M.mc
  have hnl := M.nl
  have hns := M.ns
  have hnc := M.nc
  have hel := M.el
  have hes := M.es
  have hec := M.ec
  obtain ⟨base, cap, n, ok, ended, did, b, tt, x, won⟩ := s
  dsimp only at *
  subst he
  clear h hI haS
  go_enter Try.func32, Try.ntmps32
  go_wp2_with fail
  refine wp_scope_via 3 ?_
  go_wp2_with fail
  rw [via_ret]
  go_ret
  exact ⟨ret_bool (by rw [HE.out]), by rw [HE.out]; exact HP.out, ⟨nn, by omega, by rw [HZ.out]; exact HI.out⟩, Fr.refl _ _⟩

set_option maxHeartbeats 3200000 in
set_option maxRecDepth 100000 in
theorem steal_0 (M : MemI t p S I fl fs fc fa fn rl rs' rc ra rn) (a : Nat) (s : DS) (zs : List Int) (nn : Nat) (d : Int) (w : World) (h : Dq 69 w a s) (hI : I w zs nn) (haS : a ∉ S) (he : s.ended = false) (hd : s.did = 0) :
    Calls Try.prog 32 #[.pointer (some ⟨a, 0, none⟩), .iface t p, .int .i64 d] w fun e w' => e = .returned (.bool (stealS s zs).ended) ∧ Dq 69 w' a (stealS s zs) ∧ (∃ m, m ≤ nn + 1 ∧ I w' (stealZ s zs) m) ∧ Fr (a :: S) w w' := by
  have hb := h.lt
  have k0 : w.cell? ⟨a, 0, none⟩ = some (.int .i64 s.base) := h.cell 0
  have k1 : w.cell? ⟨a, 1, none⟩ = some (.int .i64 s.cap) := h.cell 1
  have k4 : w.cell? ⟨a, 4, none⟩ = some (.bool s.ended) := h.cell 4
  have k5 : w.cell? ⟨a, 5, none⟩ = some (.int .i64 s.did) := h.cell 5
  have k6 : w.cell? ⟨a, 6, none⟩ = some (.int .u64 s.b) := h.cell 6
  have k7 : w.cell? ⟨a, 7, none⟩ = some (.int .u64 s.t) := h.cell 7
  have k8 : w.cell? ⟨a, 8, none⟩ = some (.int .u64 s.x) := h.cell 8
  have k9 : w.cell? ⟨a, 9, none⟩ = some (.bool s.won) := h.cell 9
  have HE := Lib.hid (show stealS s zs = { s with t := ldv zs s.base, did := 1 } by unfold stealS; simp [he, hd])
  have HZ := Lib.hid (show stealZ s zs = zs by unfold stealZ; simp [he, hd])
  have d0 : (s.did == 0) = true := by simp [hd]
  have HP := Lib.hid h
  have HI := Lib.hid hI
  have HS := Lib.hid haS
  have hml := M.ml
  have hms := M.ms
  have hmc := M.mc
  have hnl := M.nl
  have hns := M.ns
  have hnc := M.nc
  have hel := M.el
  have hes := M.es
  have hec := M.ec
  obtain ⟨base, cap, n, ok, ended, did, b, tt, x, won⟩ := s
  dsimp only at *
  subst he
  clear h hI haS
  subst hd
  go_enter Try.func32, Try.ntmps32
  go_wp2_with fail
  refine wp_scope_via 3 ?_
  go_wp2_with fail
  refine (or_some _ _ _).mono ?_
  rintro e w1 ⟨rfl, rfl⟩
  obtain ⟨W, rfl⟩ : ∃ W : World, W = w1 := ⟨_, rfl⟩
  have HPW := HP
  have HIW := HI
  have HFW := Lib.hid (Fr.refl (a :: S) W)
  go_wp2_with fail
  go_step3
  refine ⟨_, rfl, ?_⟩
  go_wp2_with fail
  have HDR := Lib.hid (M.keep [] _ _ _ _ HIW.out (Fr.refl [] _).drew (by simp))
  go_region_held3 (fun w' => w'.cell? ⟨a, 0, none⟩ = some (.int .i64 base))
    (first
      | go_keep
      | (go_split_ands; exact HP1.out.cell 0)
      | (go_split_ands; exact set_other (show W1.cell? ⟨a, 0, none⟩ = some (.int .i64 base) from HP1.out.cell 0) (.inr (by simp)))
      | assumption)
    (first
      | (go_simp; refine (M.load _ _ _ _ HDR.out).mono ?_; rintro e W1 ⟨rfl, hI1, hF1⟩; have HI1 := Lib.hid hI1; (try rw [IntWalk.i64_left] at HI1); have HF1 := Lib.hid ((Fr.refl S W).drew.trans hF1); have HP1 := Lib.hid (HPW.out.fr ((Fr.refl S W).drew.trans hF1) HS.out); have s7 := HP1.out.free 7; have r7 : W1.cell? ⟨a, 7, none⟩ = some (.int .u64 _) := HP1.out.cell 7; have s5 := HP1.out.free 5; have r5 : W1.cell? ⟨a, 5, none⟩ = some (.int .i64 _) := HP1.out.cell 5; clear hI1 hF1; go_wp2_with fail))
  all_goals
    go_wp2_with fail
    go_step3
    refine ⟨_, rfl, ?_⟩
    go_wp2_with fail
    (try rw [via_ret])
    go_ret
    have F2 : Fr [a] W1 ((W1.setCell ⟨a, 7, none⟩ (.int .u64 (ldv zs base))).setCell ⟨a, 5, none⟩ (.int .i64 1)) := (((Fr.refl [a] W1).set (by simp) _).set (by simp) _)
    exact ⟨ret_bool (by rw [HE.out]), by rw [HE.out]; exact (HP1.out.set 7 (.int .u64 (ldv zs base))).set 5 (.int .i64 1), ⟨nn + 1, Nat.le_refl _, by rw [HZ.out]; exact M.keep [a] _ _ _ _ HI1.out F2 (fun s hs e => HS.out (by simpa [List.mem_singleton.1 e] using hs))⟩, (HFW.out.trans (HF1.out.mono (by simp +contextual))).trans (F2.mono (by simp))⟩

set_option maxHeartbeats 3200000 in
set_option maxRecDepth 100000 in
theorem steal_2 (M : MemI t p S I fl fs fc fa fn rl rs' rc ra rn) (a : Nat) (s : DS) (zs : List Int) (nn : Nat) (d : Int) (w : World) (h : Dq 69 w a s) (hI : I w zs nn) (haS : a ∉ S) (he : s.ended = false) (hd : s.did = 2) :
    Calls Try.prog 32 #[.pointer (some ⟨a, 0, none⟩), .iface t p, .int .i64 d] w fun e w' => e = .returned (.bool (stealS s zs).ended) ∧ Dq 69 w' a (stealS s zs) ∧ (∃ m, m ≤ nn + 1 ∧ I w' (stealZ s zs) m) ∧ Fr (a :: S) w w' := by
  have hb := h.lt
  have k0 : w.cell? ⟨a, 0, none⟩ = some (.int .i64 s.base) := h.cell 0
  have k1 : w.cell? ⟨a, 1, none⟩ = some (.int .i64 s.cap) := h.cell 1
  have k4 : w.cell? ⟨a, 4, none⟩ = some (.bool s.ended) := h.cell 4
  have k5 : w.cell? ⟨a, 5, none⟩ = some (.int .i64 s.did) := h.cell 5
  have k6 : w.cell? ⟨a, 6, none⟩ = some (.int .u64 s.b) := h.cell 6
  have k7 : w.cell? ⟨a, 7, none⟩ = some (.int .u64 s.t) := h.cell 7
  have k8 : w.cell? ⟨a, 8, none⟩ = some (.int .u64 s.x) := h.cell 8
  have k9 : w.cell? ⟨a, 9, none⟩ = some (.bool s.won) := h.cell 9
  have HE := Lib.hid (show stealS s zs = { s with x := ldv zs (placev s.base s.cap s.t), did := 3 } by unfold stealS; simp [he, hd])
  have HZ := Lib.hid (show stealZ s zs = zs by unfold stealZ; simp [he, hd])
  have d0 : (s.did == 0) = false := by simp [hd]
  have d1 : (s.did == 1) = false := by simp [hd]
  have d2 : (s.did == 2) = true := by simp [hd]
  have HP := Lib.hid h
  have HI := Lib.hid hI
  have HS := Lib.hid haS
  have hml := M.ml
  have hms := M.ms
  have hmc := M.mc
  have hnl := M.nl
  have hns := M.ns
  have hnc := M.nc
  have hel := M.el
  have hes := M.es
  have hec := M.ec
  obtain ⟨base, cap, n, ok, ended, did, b, tt, x, won⟩ := s
  dsimp only at *
  subst he
  clear h hI haS
  subst hd
  go_enter Try.func32, Try.ntmps32
  go_wp2_with fail
  refine wp_scope_via 3 ?_
  go_wp2_with fail
  refine (or_some _ _ _).mono ?_
  rintro e w1 ⟨rfl, rfl⟩
  obtain ⟨W, rfl⟩ : ∃ W : World, W = w1 := ⟨_, rfl⟩
  have HPW := HP
  have HIW := HI
  have HFW := Lib.hid (Fr.refl (a :: S) W)
  go_wp2_with fail
  go_step3
  refine ⟨_, rfl, ?_⟩
  go_wp2_with fail
  have HDR := Lib.hid (M.keep [] _ _ _ _ HIW.out (Fr.refl [] _).drew (by simp))
  go_region_held3 (fun w' => w'.cell? ⟨a, 0, none⟩ = some (.int .i64 base) ∧ w'.cell? ⟨a, 1, none⟩ = some (.int .i64 cap) ∧ w'.cell? ⟨a, 7, none⟩ = some (.int .u64 tt))
    (first
      | go_keep
      | (go_split_ands; exact ⟨HP1.out.cell 0, HP1.out.cell 1, HP1.out.cell 7⟩)
      | (go_split_ands; exact ⟨HP9.out.cell 0, HP9.out.cell 1, HP9.out.cell 7⟩)
      | (go_split_ands; exact ⟨set_other (show W1.cell? ⟨a, 0, none⟩ = some (.int .i64 base) from HP1.out.cell 0) (.inr (by simp)), set_other (show W1.cell? ⟨a, 1, none⟩ = some (.int .i64 cap) from HP1.out.cell 1) (.inr (by simp)), set_other (show W1.cell? ⟨a, 7, none⟩ = some (.int .u64 tt) from HP1.out.cell 7) (.inr (by simp))⟩)
      | assumption)
    (first
      | (go_simp; go_at_call 47; refine (place_any _ _ _ _).mono ?_; rintro e w9 ⟨rfl, hB9⟩; have HF9 := Lib.hid (show Fr [] W w9 from (Fr.refl [] W).drew.trans (.of hB9)); have HI9 := Lib.hid (M.keep [] _ _ _ _ HIW.out HF9.out (by simp)); have HP9 := Lib.hid (HPW.out.fr HF9.out (by simp)); clear hB9; go_wp2_with fail)
      | (go_simp; refine (M.load _ _ _ _ HI9.out).mono ?_; rintro e W1 ⟨rfl, hI1, hF1⟩; have HI1 := Lib.hid hI1; (try rw [IntWalk.i64_left] at HI1); have HF1 := Lib.hid ((HF9.out.mono (T := S) (by simp)).trans hF1); have HP1 := Lib.hid (HP9.out.fr (hF1) HS.out); have s8 := HP1.out.free 8; have r8 : W1.cell? ⟨a, 8, none⟩ = some (.int .u64 _) := HP1.out.cell 8; have s5 := HP1.out.free 5; have r5 : W1.cell? ⟨a, 5, none⟩ = some (.int .i64 _) := HP1.out.cell 5; clear hI1 hF1; go_wp2_with fail))
  all_goals
    go_wp2_with fail
    go_step3
    go_wp2_with fail
    (try rw [via_ret])
    go_ret
    have F2 : Fr [a] W1 ((W1.setCell ⟨a, 8, none⟩ (.int .u64 (ldv zs (placev base cap tt)))).setCell ⟨a, 5, none⟩ (.int .i64 3)) := (((Fr.refl [a] W1).set (by simp) _).set (by simp) _)
    exact ⟨ret_bool (by rw [HE.out]), by rw [HE.out]; exact (HP1.out.set 8 (.int .u64 (ldv zs (placev base cap tt)))).set 5 (.int .i64 3), ⟨nn + 1, Nat.le_refl _, by rw [HZ.out]; exact M.keep [a] _ _ _ _ HI1.out F2 (fun s hs e => HS.out (by simpa [List.mem_singleton.1 e] using hs))⟩, (HFW.out.trans (HF1.out.mono (by simp +contextual))).trans (F2.mono (by simp))⟩

end

end Go.Proofs.Ytacmlgcoockpcaa
