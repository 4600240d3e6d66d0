/-
  (*deque.Push).Step: some of its Steps.
-/
import Derived.Test.YtacmlgcoockpcaaPush
import Derived.Deep.RegionHeld3
namespace Go.Proofs.Ytacmlgcoockpcaa
open Go.RowKit
section
variable {t : TypeId} {p : Value} {S : List Nat} {I : World → List Int → Nat → Prop} {fl fs fc fa fn : FuncId} {rl rs' rc ra rn : Value}

set_option maxHeartbeats 3200000 in
set_option maxRecDepth 100000 in
theorem push_2 (M : MemI t p S I fl fs fc fa fn rl rs' rc ra rn) (a : Nat) (s : DS) (zs : List Int) (nn : Nat) (d : Int) (w : World) (h : Dq 66 w a s) (hI : I w zs nn) (haS : a ∉ S) (he : s.ended = false) (hd : s.did = 2) :
    Calls Try.prog 30 #[.pointer (some ⟨a, 0, none⟩), .iface t p, .int .i64 d] w fun e w' => e = .returned (.bool (pushS s zs).ended) ∧ Dq 66 w' a (pushS s zs) ∧ (∃ m, m ≤ nn + 1 ∧ I w' (pushZ s zs) m) ∧ Fr (a :: S) w w' := by
  have hb := h.lt
  have k0 : w.cell? ⟨a, 0, none⟩ = some (.int .i64 s.base) := h.cell 0
  have k1 : w.cell? ⟨a, 1, none⟩ = some (.int .i64 s.cap) := h.cell 1
  have k2 : w.cell? ⟨a, 2, none⟩ = some (.int .u64 s.n) := h.cell 2
  have k4 : w.cell? ⟨a, 4, none⟩ = some (.bool s.ended) := h.cell 4
  have k5 : w.cell? ⟨a, 5, none⟩ = some (.int .i64 s.did) := h.cell 5
  have k6 : w.cell? ⟨a, 6, none⟩ = some (.int .u64 s.b) := h.cell 6
  have k7 : w.cell? ⟨a, 7, none⟩ = some (.int .u64 s.t) := h.cell 7
  have f5 := h.free 5
  have f6 := h.free 6
  have f7 := h.free 7
  have HE := Lib.hid (show pushS s zs = { s with did := 3 } by unfold pushS; simp [he, hd])
  have HZ := Lib.hid (show pushZ s zs = stv zs (placev s.base s.cap s.b) s.n by unfold pushZ; simp [he, hd])
  have d0 : (s.did == 0) = false := by simp [hd]
  have d1 : (s.did == 1) = false := by simp [hd]
  have d2 : (s.did == 2) = true := by simp [hd]
  have HP := Lib.hid h
  have HI := Lib.hid hI
  have HS := Lib.hid haS
  have hml := M.ml
  have hms := M.ms
  have hnl := M.nl
  have hns := M.ns
  have hel := M.el
  have hes := M.es
  obtain ⟨base, cap, n, ok, ended, did, b, tt, x, won⟩ := s
  dsimp only at *
  subst he
  clear h hI haS
  subst hd
  go_enter Try.func30, Try.ntmps30
  go_wp2_with fail
  refine wp_scope_via 3 ?_
  go_wp2_with fail
  refine (or_some _ _ _).mono ?_
  rintro e w1 ⟨rfl, rfl⟩
  have HDR := Lib.hid (M.keep [] _ _ _ _ HI.out (Fr.refl [] _).drew (by simp))
  go_wp2_with fail
  go_step3
  refine ⟨_, rfl, ?_⟩
  go_wp2_with fail
  go_region_held3 (fun w' => w'.cell? ⟨a, 0, none⟩ = some (.int .i64 base) ∧ w'.cell? ⟨a, 1, none⟩ = some (.int .i64 cap) ∧ w'.cell? ⟨a, 2, none⟩ = some (.int .u64 n) ∧ w'.cell? ⟨a, 6, none⟩ = some (.int .u64 b))
    (first
      | go_keep
      | (go_split_ands; exact ⟨HP1.out.cell 0, HP1.out.cell 1, HP1.out.cell 2, HP1.out.cell 6⟩)
      | (go_split_ands; exact ⟨HP9.out.cell 0, HP9.out.cell 1, HP9.out.cell 2, HP9.out.cell 6⟩))
    (first
      | (go_simp; go_at_call 47; refine (place_any _ _ _ _).mono ?_; rintro e w9 ⟨rfl, hB9⟩; have HF9 := Lib.hid (show Fr [] w1 w9 from (Fr.refl [] w1).drew.trans (.of hB9)); have HI9 := Lib.hid (M.keep [] _ _ _ _ HI.out HF9.out (by simp)); have HP9 := Lib.hid (HP.out.fr HF9.out (by simp)); clear hB9; go_wp2_with fail)
      | (go_simp; refine (M.store _ _ _ _ _ HI9.out).mono ?_; rintro e W1 ⟨rfl, hI1, hF1⟩; have HI1 := Lib.hid hI1; have HF1 := Lib.hid ((HF9.out.mono (T := S) (by simp)).trans hF1); have HP1 := Lib.hid (HP9.out.fr hF1 HS.out); clear hI1 hF1; go_wp2_with fail))
  all_goals
    have s5 := HP1.out.free 5
    have r5 : W1.cell? ⟨a, 5, none⟩ = some (.int .i64 2) := HP1.out.cell 5
    go_wp2_with fail
    go_step3
    go_wp2_with fail
    rw [via_ret]
    go_ret
    have F2 : Fr [a] W1 (W1.setCell ⟨a, 5, none⟩ (.int .i64 3)) := (Fr.refl [a] W1).set (by simp) _
    exact ⟨ret_bool (by rw [HE.out]), by rw [HE.out]; exact HP1.out.set 5 _, ⟨nn + 1, Nat.le_refl _, by rw [HZ.out]; exact M.keep [a] _ _ _ _ HI1.out F2 (fun s hs e => HS.out (by simpa [List.mem_singleton.1 e] using hs))⟩, (HF1.out.mono (by simp +contextual)).trans (F2.mono (by simp))⟩

end

end Go.Proofs.Ytacmlgcoockpcaa
