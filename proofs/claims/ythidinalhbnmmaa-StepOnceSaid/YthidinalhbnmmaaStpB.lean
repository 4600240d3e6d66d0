/-
  step.Prog: what an instruction does: some of them.
-/
import Derived.Test.YthidinalhbnmmaaStep
import Derived.Test.YthidinalhbnmmaaMemJ
namespace Go.Proofs.Ythidinalhbnmmaa
open Go.RowKit
section
variable {t : TypeId} {p : Value} {I : World → List Int → Nat → List Nat → Prop} {fl fs fc fa fn : FuncId} {rl rs' rc ra rn : Value}

set_option maxHeartbeats 3200000 in
set_option maxRecDepth 100000 in
theorem do3tj_any (M : MemJ t p I fl fs fc fa fn rl rs' rc ra rn) (S : List Nat) (b : Nat) (sl : Value) (rs zs : List Int) (nn : Nat) (x : InsT) (at' d : Int) (w : World) (h : Pg w b sl rs at') (hI : I w zs nn S) (hnn : nn ≤ 100000) (hbS : b ∉ S) (hat : 0 ≤ at' ∧ at' ≤ 1000000000) (ho : x.op = 3) (hc : casb zs x.a (wd rs (rix x.r)) = true) :
    Calls Try.prog 95 #[.pointer (some ⟨b, 0, none⟩), .agg #[.int .i64 x.op, .int .i64 x.r, .int .i64 x.a, .int .u64 x.n], .iface t p, .int .i64 d] w fun e w' => e = .returned (.tuple #[]) ∧ Pg w' b sl (doR x d rs zs) (doA x rs at') ∧ Svd I b w w' (doZ x rs zs) (doN x nn) S := by
  have l1 := rix_lt x.r
  have l2 := rix_lt (x.r + 1)
  have l1' : (rix x.r : Int) < 4 := by omega
  have l2' : (rix (x.r + 1) : Int) < 4 := by omega
  have hb := h.1.lt
  have g0 := h.reg _ l1
  have g1 := h.reg _ l2
  have g2 := h.at'
  have g3 := h.1.free 5
  have Hlt := Lib.hid (M.lt _ _ _ _ hI)
  have HR := Lib.hid (show doR x d rs zs = rs.set (rix x.r) (1) by unfold doR; simp [ho, hc])
  have HA := Lib.hid (show doA x rs at' = at' + 1 by unfold doA; simp [ho])
  have HZ := Lib.hid (show doZ x rs zs = casv zs x.a (wd rs (rix x.r)) (wd rs (rix (x.r + 1))) by unfold doZ; simp [ho])
  have HN := Lib.hid (show doN x nn = nn + 1 by unfold doN; simp [ho])
  have HC := Lib.hid hc
  clear hc
  have d1 : (x.op == 1) = false := by simp [ho]
  have d2 : (x.op == 2) = false := by simp [ho]
  have d3 : (x.op == 3) = true := by simp [ho]
  have HP := Lib.hid h
  have HI := Lib.hid hI
  have HS := Lib.hid hbS
  have hml := M.ml
  have hms := M.ms
  have hmc := M.mc
  have hma := M.ma
  have hnl := M.nl
  have hel := M.el
  have hes := M.es
  have hec := M.ec
  have hea := M.ea
  have hns := M.ns
  have hnc := M.nc
  have hna := M.na
  obtain ⟨op, r, a, n⟩ := x
  dsimp only at *
  subst ho
  have e1 := and3 r
  have e2 := and3 (IntKind.i64.wrap (r + 1))
  rw [rix_wrap] at e2
  generalize rix r = k at *
  generalize rix (r + 1) = j at *
  clear h hI hbS
  go_enter Try.func95, Try.ntmps95
  go_wp2_with fail
  refine wp_scope_via 1 ?_
  go_wp2_with fail
  go_region
  go_wp2_with fail
  go_region
  go_upto_region 4 with (fail)
  refine wp_gen (fun W => Pg W b sl rs (at' + 1) ∧ Fr (b :: S) w W ∧ Bk W w.heap.size 166 [.int .i64 3, .int .i64 r, .int .i64 a, .int .u64 n] ∧ I W zs nn S) ?_ ?_
  · have F0 : Fr [b] w ((w.setCell ⟨b, 5, none⟩ (.int .i64 (at' + 1))).alloc (.cells #[.int .i64 3, .int .i64 r, .int .i64 a, .int .u64 n] 166)).drew.drew := (((Fr.refl _ _).set (by simp) _).alloc _).drew.drew
    have P0 := (HP.out.seta (at' + 1)).1.alloc (.cells #[.int .i64 3, .int .i64 r, .int .i64 a, .int .u64 n] 166)
    exact ⟨⟨P0, HP.out.2⟩, F0.mono (by simp), Bk.new' _ _ [_, _, _, _] (by simp [World.setCell]), M.keep [b] _ _ _ _ _ HI.out F0 (fun s hs e => HS.out (by simpa [List.mem_singleton.1 e] using hs))⟩
  intro W ⟨hP, hF, hB, hI⟩
  have q0 : W.cell? ⟨w.heap.size, 0, none⟩ = some (.int .i64 3) := hB.cell 0
  have q1 : W.cell? ⟨w.heap.size, 1, none⟩ = some (.int .i64 r) := hB.cell 1
  have q2 : W.cell? ⟨w.heap.size, 2, none⟩ = some (.int .i64 a) := hB.cell 2
  have q3 : W.cell? ⟨w.heap.size, 3, none⟩ = some (.int .u64 n) := hB.cell 3
  have r0 := hP.reg _ l1
  have r1 := hP.1.free (1 + k)
  have r2 := hP.1.free 5
  have r3 := hP.at'
  have HPW := Lib.hid hP
  have HFW := Lib.hid hF
  have HIW := Lib.hid hI
  have HBW := Lib.hid hB
  clear hP hF hB hI g0 g1 g2 g3
  have HID := Lib.hid (M.keep [] _ _ _ _ _ HIW.out (Fr.refl [] W).drew (by simp))
  go_wp2_with fail
  go_region_with (refine (M.cas _ _ _ _ _ _ _ hnn HID.out).mono ?_; rintro e W1 ⟨rfl, hV⟩; obtain ⟨S1, hI1, hF1, hS1, hbS1⟩ := hV.not b HS.out HPW.out.1.lt; have HI1 := Lib.hid hI1; have HF1 := Lib.hid hF1; have HS1 := Lib.hid hS1; have HBS := Lib.hid hbS1; clear hI1 hF1 hS1 hbS1 hV; rw [HC.out])
  all_goals
    have F1 := Lib.hid (show Fr S W W1 from (Fr.refl S W).drew.trans HF1.out)
    have HPV := Lib.hid (HPW.out.fr F1.out HS.out)
    have s0 := HPV.out.reg _ l1
    have s1 := HPV.out.1.free (1 + k)
    go_wp2_with fail
    go_step3
    refine ⟨_, rfl, ?_⟩
    go_wp2_with fail
    have F2 : Fr [b] W1 (W1.setCell ⟨b, 1 + k, none⟩ (.int .u64 (1))) := (Fr.refl _ _).set (by simp) _
    exact bodyPost_ret (v := .tuple #[]) (by simp [results, Try.results95, go_sem]) rfl ⟨rfl, by rw [HR.out, HA.out]; exact HPV.out.setr _ l1 _, by rw [HZ.out, HN.out]; exact ⟨S1, M.keep [b] _ _ _ _ _ HI1.out F2 (fun s hs e => HBS.out (by simpa [List.mem_singleton.1 e] using hs)), (HFW.out.trans (F1.out.mono (by simp +contextual))).trans (F2.mono (by simp)), fun q hq => (HS1.out q hq).imp_right (Nat.le_trans HFW.out.size)⟩⟩

set_option maxHeartbeats 3200000 in
set_option maxRecDepth 100000 in
theorem do3fj_any (M : MemJ t p I fl fs fc fa fn rl rs' rc ra rn) (S : List Nat) (b : Nat) (sl : Value) (rs zs : List Int) (nn : Nat) (x : InsT) (at' d : Int) (w : World) (h : Pg w b sl rs at') (hI : I w zs nn S) (hnn : nn ≤ 100000) (hbS : b ∉ S) (hat : 0 ≤ at' ∧ at' ≤ 1000000000) (ho : x.op = 3) (hc : casb zs x.a (wd rs (rix x.r)) = false) :
    Calls Try.prog 95 #[.pointer (some ⟨b, 0, none⟩), .agg #[.int .i64 x.op, .int .i64 x.r, .int .i64 x.a, .int .u64 x.n], .iface t p, .int .i64 d] w fun e w' => e = .returned (.tuple #[]) ∧ Pg w' b sl (doR x d rs zs) (doA x rs at') ∧ Svd I b w w' (doZ x rs zs) (doN x nn) S := by
  have l1 := rix_lt x.r
  have l2 := rix_lt (x.r + 1)
  have l1' : (rix x.r : Int) < 4 := by omega
  have l2' : (rix (x.r + 1) : Int) < 4 := by omega
  have hb := h.1.lt
  have g0 := h.reg _ l1
  have g1 := h.reg _ l2
  have g2 := h.at'
  have g3 := h.1.free 5
  have Hlt := Lib.hid (M.lt _ _ _ _ hI)
  have HR := Lib.hid (show doR x d rs zs = rs.set (rix x.r) (0) by unfold doR; simp [ho, hc])
  have HA := Lib.hid (show doA x rs at' = at' + 1 by unfold doA; simp [ho])
  have HZ := Lib.hid (show doZ x rs zs = casv zs x.a (wd rs (rix x.r)) (wd rs (rix (x.r + 1))) by unfold doZ; simp [ho])
  have HN := Lib.hid (show doN x nn = nn + 1 by unfold doN; simp [ho])
  have HC := Lib.hid hc
  clear hc
  have d1 : (x.op == 1) = false := by simp [ho]
  have d2 : (x.op == 2) = false := by simp [ho]
  have d3 : (x.op == 3) = true := by simp [ho]
  have HP := Lib.hid h
  have HI := Lib.hid hI
  have HS := Lib.hid hbS
  have hml := M.ml
  have hms := M.ms
  have hmc := M.mc
  have hma := M.ma
  have hnl := M.nl
  have hel := M.el
  have hes := M.es
  have hec := M.ec
  have hea := M.ea
  have hns := M.ns
  have hnc := M.nc
  have hna := M.na
  obtain ⟨op, r, a, n⟩ := x
  dsimp only at *
  subst ho
  have e1 := and3 r
  have e2 := and3 (IntKind.i64.wrap (r + 1))
  rw [rix_wrap] at e2
  generalize rix r = k at *
  generalize rix (r + 1) = j at *
  clear h hI hbS
  go_enter Try.func95, Try.ntmps95
  go_wp2_with fail
  refine wp_scope_via 1 ?_
  go_wp2_with fail
  go_region
  go_wp2_with fail
  go_region
  go_upto_region 4 with (fail)
  refine wp_gen (fun W => Pg W b sl rs (at' + 1) ∧ Fr (b :: S) w W ∧ Bk W w.heap.size 166 [.int .i64 3, .int .i64 r, .int .i64 a, .int .u64 n] ∧ I W zs nn S) ?_ ?_
  · have F0 : Fr [b] w ((w.setCell ⟨b, 5, none⟩ (.int .i64 (at' + 1))).alloc (.cells #[.int .i64 3, .int .i64 r, .int .i64 a, .int .u64 n] 166)).drew.drew := (((Fr.refl _ _).set (by simp) _).alloc _).drew.drew
    have P0 := (HP.out.seta (at' + 1)).1.alloc (.cells #[.int .i64 3, .int .i64 r, .int .i64 a, .int .u64 n] 166)
    exact ⟨⟨P0, HP.out.2⟩, F0.mono (by simp), Bk.new' _ _ [_, _, _, _] (by simp [World.setCell]), M.keep [b] _ _ _ _ _ HI.out F0 (fun s hs e => HS.out (by simpa [List.mem_singleton.1 e] using hs))⟩
  intro W ⟨hP, hF, hB, hI⟩
  have q0 : W.cell? ⟨w.heap.size, 0, none⟩ = some (.int .i64 3) := hB.cell 0
  have q1 : W.cell? ⟨w.heap.size, 1, none⟩ = some (.int .i64 r) := hB.cell 1
  have q2 : W.cell? ⟨w.heap.size, 2, none⟩ = some (.int .i64 a) := hB.cell 2
  have q3 : W.cell? ⟨w.heap.size, 3, none⟩ = some (.int .u64 n) := hB.cell 3
  have r0 := hP.reg _ l1
  have r1 := hP.1.free (1 + k)
  have r2 := hP.1.free 5
  have r3 := hP.at'
  have HPW := Lib.hid hP
  have HFW := Lib.hid hF
  have HIW := Lib.hid hI
  have HBW := Lib.hid hB
  clear hP hF hB hI g0 g1 g2 g3
  have HID := Lib.hid (M.keep [] _ _ _ _ _ HIW.out (Fr.refl [] W).drew (by simp))
  go_wp2_with fail
  go_region_with (refine (M.cas _ _ _ _ _ _ _ hnn HID.out).mono ?_; rintro e W1 ⟨rfl, hV⟩; obtain ⟨S1, hI1, hF1, hS1, hbS1⟩ := hV.not b HS.out HPW.out.1.lt; have HI1 := Lib.hid hI1; have HF1 := Lib.hid hF1; have HS1 := Lib.hid hS1; have HBS := Lib.hid hbS1; clear hI1 hF1 hS1 hbS1 hV; rw [HC.out])
  all_goals
    have F1 := Lib.hid (show Fr S W W1 from (Fr.refl S W).drew.trans HF1.out)
    have HPV := Lib.hid (HPW.out.fr F1.out HS.out)
    have s0 := HPV.out.reg _ l1
    have s1 := HPV.out.1.free (1 + k)
    go_wp2_with fail
    rw [via_ret]
    have F2 : Fr [b] W1 (W1.setCell ⟨b, 1 + k, none⟩ (.int .u64 (0))) := (Fr.refl _ _).set (by simp) _
    exact bodyPost_ret (v := .tuple #[]) (by simp [results, Try.results95, go_sem]) rfl ⟨rfl, by rw [HR.out, HA.out]; exact HPV.out.setr _ l1 _, by rw [HZ.out, HN.out]; exact ⟨S1, M.keep [b] _ _ _ _ _ HI1.out F2 (fun s hs e => HBS.out (by simpa [List.mem_singleton.1 e] using hs)), (HFW.out.trans (F1.out.mono (by simp +contextual))).trans (F2.mono (by simp)), fun q hq => (HS1.out q hq).imp_right (Nat.le_trans HFW.out.size)⟩⟩

end

end Go.Proofs.Ythidinalhbnmmaa
