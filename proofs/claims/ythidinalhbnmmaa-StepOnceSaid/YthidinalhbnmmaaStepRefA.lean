/-
  soughref24.Prog.Step: some of its operations.
-/
import Derived.Test.YthidinalhbnmmaaStepRef
namespace Go.Proofs.Ythidinalhbnmmaa
open Go.RowKit

set_option maxHeartbeats 3200000 in
set_option maxRecDepth 100000 in
theorem rs1_any (b gi mb mg : Nat) (sl : Value) (L : List InsT) (rs zs : List Int) (x : InsT) (k : Nat) (d : Int) (w : World) (h : Pq w b sl rs k) (hL : Ins w sl L gi) (hM : Rm w mb mg zs) (hbm : b ≠ mb ∧ b ≠ mg) (hgi : gi ≠ b ∧ gi ≠ mg) (hl : L.length ≤ 100000) (hk : k < L.length) (hdn : dn L k = false) (hx : insAt L k = x) (ho : x.op = 1) :
    Calls Try.prog 28 #[.pointer (some ⟨b, 0, none⟩), .pointer (some ⟨mb, 0, none⟩), .int .i64 d] w fun e w' => e = .returned (.bool (dn L (doA x rs k))) ∧ Pq w' b sl (doR x d rs zs) (doA x rs k) ∧ Rm w' mb mg (doZ x rs zs) ∧ Fr [b, mg] w w' := by
  have hb := h.1.lt
  have hm1 := hM.1.lt
  have hm2 := hM.2.1.lt
  have HR := Lib.hid (show doR x d rs zs = rs.set (rix x.r) (ldv zs x.a) by unfold doR; simp [*])
  have HA := Lib.hid (show doA x rs k = (k : Int) + 1 by unfold doA; simp [*])
  have HZ := Lib.hid (show doZ x rs zs = zs by unfold doZ; simp [*])
  have d1 : (x.op == 1) = true := by simp [ho]
  have HP := Lib.hid h
  have HL := Lib.hid hL
  have HM := Lib.hid hM
  have HD := Lib.hid hdn
  obtain ⟨o, c, rfl, hle, hc⟩ := hL
  obtain ⟨off, rfl, hd⟩ := hc (by omega)
  obtain ⟨c0, c1, c2, c3⟩ := hd k hk
  have HN1 := Lib.hid hbm.1
  have HN2 := Lib.hid hbm.2
  have HG1 := Lib.hid hgi.1
  have HG2 := Lib.hid hgi.2
  rw [hx] at c0 c1 c2 c3
  have C0 := Lib.hid c0
  have C1 := Lib.hid c1
  have C2 := Lib.hid c2
  have C3 := Lib.hid c3
  clear hd hc h hM hbm hgi hdn hx c0 c1 c2 c3 hb hm1 hm2
  obtain ⟨op, r, a, n⟩ := x
  dsimp only at *
  subst ho
  go_enter Try.func28, Try.ntmps28
  go_wp2_with fail
  refine (rdone_any b gi _ rs L _ _ HP.out HL.out).mono ?_
  rintro e w1 ⟨rfl, n1, hw1⟩
  have F1 : Fr [] w w1 := by subst hw1; exact (Fr.refl [] w).drewN n1
  clear hw1
  have HF1 := Lib.hid F1
  have HP1 := Lib.hid (HP.out.fr F1 (by simp))
  have g0 := HP1.out.at'
  have g1 : w1.cell? ⟨b, 0, none⟩ = some (.slice (some ⟨gi, off, none⟩) L.length c) := HP1.out.1.cell 0
  have gf := HP1.out.1.free 5
  have c0 := cell_fr C0.out F1 (by simp)
  have c1 := cell_fr C1.out F1 (by simp)
  have c2 := cell_fr C2.out F1 (by simp)
  have c3 := cell_fr C3.out F1 (by simp)
  have hb := HP1.out.1.lt
  have hgl := cell_lt c0
  have HM1 := Lib.hid (HM.out.fr F1 (by simp) (by simp))
  have hm1 := HM1.out.1.lt
  have hm2 := HM1.out.2.1.lt
  clear F1
  rw [HD.out]
  go_wp2_with fail
  go_region
  go_wp2_with fail
  refine (rget_any b _ rs _ _ _ (HP1.out.fr (((Fr.refl [] _).alloc (.cells #[.int .i64 1, .int .i64 r, .int .i64 a, .int .u64 n] 168)).drewN 1) (by simp))).mono ?_
  rintro e w2 ⟨rfl, rfl⟩
  go_upto_region 6 with (fail)
  refine wp_gen (fun W => Pq W b (.slice (some ⟨gi, off, none⟩) L.length c) rs (k + 1) ∧ Fr [b] w1 W ∧ Bk W w1.heap.size 168 [.int .i64 1, .int .i64 r, .int .i64 a, .int .u64 n]) ?_ ?_
  · have FX : Fr [] w1 ((w1.alloc (.cells #[.int .i64 1, .int .i64 r, .int .i64 a, .int .u64 n] 168)).drewN 1) := ((Fr.refl [] w1).alloc _).drewN 1
    exact ⟨(HP1.out.fr FX (by simp)).seta _, (FX.mono (by simp)).set (by simp) _, ((Bk.new w1 _ [_, _, _, _]).drewN 1).far (p := ⟨b, 5, none⟩) (Nat.ne_of_gt hb) _⟩
  intro W ⟨hP, hF, hB⟩
  have q0 : W.cell? ⟨w1.heap.size, 0, none⟩ = some (.int .i64 1) := hB.cell 0
  have q1 : W.cell? ⟨w1.heap.size, 1, none⟩ = some (.int .i64 r) := hB.cell 1
  have q2 : W.cell? ⟨w1.heap.size, 2, none⟩ = some (.int .i64 a) := hB.cell 2
  have q3 : W.cell? ⟨w1.heap.size, 3, none⟩ = some (.int .u64 n) := hB.cell 3
  have HP0 := Lib.hid hP
  have HF0 := Lib.hid ((HF1.out.mono (T := [b, mg]) (by simp)).trans (hF.mono (T := [b, mg]) (by simp)))
  have HB0 := Lib.hid hB
  have HM0 := Lib.hid (HM1.out.fr hF (by simpa using HN1.out.symm) (by simpa using HN2.out.symm))
  clear hP hF hB g0 g1 gf c0 c1 c2 c3
  go_wp2_with fail
  refine (do_any _ _ _ _ mb mg _ _ HM0.out).mono ?_
  rintro e W1 ⟨rfl, hM, hG⟩
  have hF : Fr [mg] _ _ := Fr.gb hG (by simp)
  have HP1 := Lib.hid (HP0.out.fr hF (by simpa using HN2.out))
  have HF1 := Lib.hid (HF0.out.trans (hF.mono (by simp)))
  have HM1 := Lib.hid hM
  have HB1 := Lib.hid (HB0.out.fr hF (by simp; omega))
  have q0 := HB1.out.cell 0
  have q1 := HB1.out.cell 1
  have q2 := HB1.out.cell 2
  have q3 := HB1.out.cell 3
  simp only [List.getElem?_cons_zero, List.getElem?_cons_succ] at q0 q1 q2 q3
  clear hM hG hF
  go_wp2_with fail
  refine (rset_any b _ _ _ _ _ _ HP1.out).mono ?_
  rintro e W2 ⟨rfl, hP, hF⟩
  have HP2 := Lib.hid hP
  have HF2 := Lib.hid (HF1.out.trans (hF.mono (by simp)))
  have HM2 := Lib.hid (HM1.out.fr hF (by simpa using HN1.out.symm) (by simpa using HN2.out.symm))
  have HB2 := Lib.hid (HB1.out.fr hF (by simp; omega))
  have q0 := HB2.out.cell 0
  have q1 := HB2.out.cell 1
  have q2 := HB2.out.cell 2
  have q3 := HB2.out.cell 3
  simp only [List.getElem?_cons_zero, List.getElem?_cons_succ] at q0 q1 q2 q3
  clear hP hF
  go_wp2_with fail
  refine (rdone_any b gi _ _ L _ _ HP2.out (HL.out.fr HF2.out (fun _ => by simp [HG1.out, HG2.out]))).mono ?_
  rintro e w1 ⟨rfl, n9, rfl⟩
  go_wp2_with fail
  go_ret
  exact ⟨ret_bool (by rw [HA.out]), by rw [HR.out, HA.out]; exact HP2.out.fr ((Fr.refl [] _).drewN n9) (by simp), by rw [HZ.out]; exact (HM2.out.drewN n9 :), HF2.out.drewN n9⟩



set_option maxHeartbeats 3200000 in
set_option maxRecDepth 100000 in
theorem rs2_any (b gi mb mg : Nat) (sl : Value) (L : List InsT) (rs zs : List Int) (x : InsT) (k : Nat) (d : Int) (w : World) (h : Pq w b sl rs k) (hL : Ins w sl L gi) (hM : Rm w mb mg zs) (hbm : b ≠ mb ∧ b ≠ mg) (hgi : gi ≠ b ∧ gi ≠ mg) (hl : L.length ≤ 100000) (hk : k < L.length) (hdn : dn L k = false) (hx : insAt L k = x) (ho : x.op = 2) :
    Calls Try.prog 28 #[.pointer (some ⟨b, 0, none⟩), .pointer (some ⟨mb, 0, none⟩), .int .i64 d] w fun e w' => e = .returned (.bool (dn L (doA x rs k))) ∧ Pq w' b sl (doR x d rs zs) (doA x rs k) ∧ Rm w' mb mg (doZ x rs zs) ∧ Fr [b, mg] w w' := by
  have hb := h.1.lt
  have hm1 := hM.1.lt
  have hm2 := hM.2.1.lt
  have HR := Lib.hid (show doR x d rs zs = rs by unfold doR; simp [*])
  have HA := Lib.hid (show doA x rs k = (k : Int) + 1 by unfold doA; simp [*])
  have HZ := Lib.hid (show doZ x rs zs = stv zs x.a (wd rs (rix x.r)) by unfold doZ; simp [*])
  have d1 : (x.op == 1) = false := by simp [ho]
  have d2 : (x.op == 2) = true := by simp [ho]
  have HP := Lib.hid h
  have HL := Lib.hid hL
  have HM := Lib.hid hM
  have HD := Lib.hid hdn
  obtain ⟨o, c, rfl, hle, hc⟩ := hL
  obtain ⟨off, rfl, hd⟩ := hc (by omega)
  obtain ⟨c0, c1, c2, c3⟩ := hd k hk
  have HN1 := Lib.hid hbm.1
  have HN2 := Lib.hid hbm.2
  have HG1 := Lib.hid hgi.1
  have HG2 := Lib.hid hgi.2
  rw [hx] at c0 c1 c2 c3
  have C0 := Lib.hid c0
  have C1 := Lib.hid c1
  have C2 := Lib.hid c2
  have C3 := Lib.hid c3
  clear hd hc h hM hbm hgi hdn hx c0 c1 c2 c3 hb hm1 hm2
  obtain ⟨op, r, a, n⟩ := x
  dsimp only at *
  subst ho
  go_enter Try.func28, Try.ntmps28
  go_wp2_with fail
  refine (rdone_any b gi _ rs L _ _ HP.out HL.out).mono ?_
  rintro e w1 ⟨rfl, n1, hw1⟩
  have F1 : Fr [] w w1 := by subst hw1; exact (Fr.refl [] w).drewN n1
  clear hw1
  have HF1 := Lib.hid F1
  have HP1 := Lib.hid (HP.out.fr F1 (by simp))
  have g0 := HP1.out.at'
  have g1 : w1.cell? ⟨b, 0, none⟩ = some (.slice (some ⟨gi, off, none⟩) L.length c) := HP1.out.1.cell 0
  have gf := HP1.out.1.free 5
  have c0 := cell_fr C0.out F1 (by simp)
  have c1 := cell_fr C1.out F1 (by simp)
  have c2 := cell_fr C2.out F1 (by simp)
  have c3 := cell_fr C3.out F1 (by simp)
  have hb := HP1.out.1.lt
  have hgl := cell_lt c0
  have HM1 := Lib.hid (HM.out.fr F1 (by simp) (by simp))
  have hm1 := HM1.out.1.lt
  have hm2 := HM1.out.2.1.lt
  clear F1
  rw [HD.out]
  go_wp2_with fail
  go_region
  go_wp2_with fail
  refine (rget_any b _ rs _ _ _ (HP1.out.fr (((Fr.refl [] _).alloc (.cells #[.int .i64 2, .int .i64 r, .int .i64 a, .int .u64 n] 168)).drewN 1) (by simp))).mono ?_
  rintro e w2 ⟨rfl, rfl⟩
  go_upto_region 6 with (fail)
  refine wp_gen (fun W => Pq W b (.slice (some ⟨gi, off, none⟩) L.length c) rs (k + 1) ∧ Fr [b] w1 W ∧ Bk W w1.heap.size 168 [.int .i64 2, .int .i64 r, .int .i64 a, .int .u64 n]) ?_ ?_
  · have FX : Fr [] w1 ((w1.alloc (.cells #[.int .i64 2, .int .i64 r, .int .i64 a, .int .u64 n] 168)).drewN 1) := ((Fr.refl [] w1).alloc _).drewN 1
    exact ⟨(HP1.out.fr FX (by simp)).seta _, (FX.mono (by simp)).set (by simp) _, ((Bk.new w1 _ [_, _, _, _]).drewN 1).far (p := ⟨b, 5, none⟩) (Nat.ne_of_gt hb) _⟩
  intro W ⟨hP, hF, hB⟩
  have q0 : W.cell? ⟨w1.heap.size, 0, none⟩ = some (.int .i64 2) := hB.cell 0
  have q1 : W.cell? ⟨w1.heap.size, 1, none⟩ = some (.int .i64 r) := hB.cell 1
  have q2 : W.cell? ⟨w1.heap.size, 2, none⟩ = some (.int .i64 a) := hB.cell 2
  have q3 : W.cell? ⟨w1.heap.size, 3, none⟩ = some (.int .u64 n) := hB.cell 3
  have HP0 := Lib.hid hP
  have HF0 := Lib.hid ((HF1.out.mono (T := [b, mg]) (by simp)).trans (hF.mono (T := [b, mg]) (by simp)))
  have HB0 := Lib.hid hB
  have HM0 := Lib.hid (HM1.out.fr hF (by simpa using HN1.out.symm) (by simpa using HN2.out.symm))
  clear hP hF hB g0 g1 gf c0 c1 c2 c3
  go_wp2_with fail
  refine (do_any _ _ _ _ mb mg _ _ HM0.out).mono ?_
  rintro e W1 ⟨rfl, hM, hG⟩
  have hF : Fr [mg] _ _ := Fr.gb hG (by simp)
  have HP1 := Lib.hid (HP0.out.fr hF (by simpa using HN2.out))
  have HF1 := Lib.hid (HF0.out.trans (hF.mono (by simp)))
  have HM1 := Lib.hid hM
  have HB1 := Lib.hid (HB0.out.fr hF (by simp; omega))
  have q0 := HB1.out.cell 0
  have q1 := HB1.out.cell 1
  have q2 := HB1.out.cell 2
  have q3 := HB1.out.cell 3
  simp only [List.getElem?_cons_zero, List.getElem?_cons_succ] at q0 q1 q2 q3
  clear hM hG hF
  go_wp2_with fail
  refine (rdone_any b gi _ _ L _ _ HP1.out (HL.out.fr HF1.out (fun _ => by simp [HG1.out, HG2.out]))).mono ?_
  rintro e w1 ⟨rfl, n9, rfl⟩
  go_wp2_with fail
  go_ret
  exact ⟨ret_bool (by rw [HA.out]), by rw [HR.out, HA.out]; exact HP1.out.fr ((Fr.refl [] _).drewN n9) (by simp), by rw [HZ.out]; exact (HM1.out.drewN n9 :), HF1.out.drewN n9⟩


end Go.Proofs.Ythidinalhbnmmaa
