/-
  step.Prog: what an instruction does: some of them.
-/
import Derived.Test.YthidinalhbnmmaaStep
import Derived.Test.YthidinalhbnmmaaMemJ
namespace Go.Proofs.Ythidinalhbnmmaa
open Go.RowKit
section
variable {t : TypeId} {p : Value} {I : World → List Int → Nat → List Nat → Prop} {fl fs fc fa fn : FuncId} {rl rs' rc ra rn : Value}

set_option maxHeartbeats 3200000 in
set_option maxRecDepth 100000 in
theorem do5j_any (M : MemJ t p I fl fs fc fa fn rl rs' rc ra rn) (S : List Nat) (b : Nat) (sl : Value) (rs zs : List Int) (nn : Nat) (x : InsT) (at' d : Int) (w : World) (h : Pg w b sl rs at') (hI : I w zs nn S) (_hnn : nn ≤ 100000) (hbS : b ∉ S) (hat : 0 ≤ at' ∧ at' ≤ 1000000000) (ho : x.op = 5) :
    Calls Try.prog 95 #[.pointer (some ⟨b, 0, none⟩), .agg #[.int .i64 x.op, .int .i64 x.r, .int .i64 x.a, .int .u64 x.n], .iface t p, .int .i64 d] w fun e w' => e = .returned (.tuple #[]) ∧ Pg w' b sl (doR x d rs zs) (doA x rs at') ∧ Svd I b w w' (doZ x rs zs) (doN x nn) S := by
  have l1 := rix_lt x.r
  have l2 := rix_lt (x.r + 1)
  have l1' : (rix x.r : Int) < 4 := by omega
  have l2' : (rix (x.r + 1) : Int) < 4 := by omega
  have hb := h.1.lt
  have g0 := h.reg _ l1
  have g1 := h.reg _ l2
  have g2 := h.at'
  have g3 := h.1.free 5
  have Hlt := Lib.hid (M.lt _ _ _ _ hI)
  have HR := Lib.hid (show doR x d rs zs = rs.set (rix x.r) (x.n) by unfold doR; simp [ho])
  have HA := Lib.hid (show doA x rs at' = at' + 1 by unfold doA; simp [ho])
  have HZ := Lib.hid (show doZ x rs zs = zs by unfold doZ; simp [ho])
  have HN := Lib.hid (show doN x nn = nn by unfold doN; simp [ho])
  have d1 : (x.op == 1) = false := by simp [ho]
  have d2 : (x.op == 2) = false := by simp [ho]
  have d3 : (x.op == 3) = false := by simp [ho]
  have d4 : (x.op == 4) = false := by simp [ho]
  have d5 : (x.op == 5) = true := by simp [ho]
  have HP := Lib.hid h
  have HI := Lib.hid hI
  have HS := Lib.hid hbS
  have hml := M.ml
  have hms := M.ms
  have hmc := M.mc
  have hma := M.ma
  have hnl := M.nl
  have hel := M.el
  have hes := M.es
  have hec := M.ec
  have hea := M.ea
  have hns := M.ns
  have hnc := M.nc
  have hna := M.na
  obtain ⟨op, r, a, n⟩ := x
  dsimp only at *
  subst ho
  have e1 := and3 r
  have e2 := and3 (IntKind.i64.wrap (r + 1))
  rw [rix_wrap] at e2
  generalize rix r = k at *
  generalize rix (r + 1) = j at *
  clear h hI hbS
  go_enter Try.func95, Try.ntmps95
  go_wp2_with fail
  refine wp_scope_via 1 ?_
  go_wp2_with fail
  go_region
  go_wp2_with fail
  go_region
  go_upto_region 4 with (fail)
  refine wp_gen (fun W => Pg W b sl rs (at' + 1) ∧ Fr (b :: S) w W ∧ Bk W w.heap.size 166 [.int .i64 5, .int .i64 r, .int .i64 a, .int .u64 n] ∧ I W zs nn S) ?_ ?_
  · have F0 : Fr [b] w ((w.setCell ⟨b, 5, none⟩ (.int .i64 (at' + 1))).alloc (.cells #[.int .i64 5, .int .i64 r, .int .i64 a, .int .u64 n] 166)).drew.drew := (((Fr.refl _ _).set (by simp) _).alloc _).drew.drew
    have P0 := (HP.out.seta (at' + 1)).1.alloc (.cells #[.int .i64 5, .int .i64 r, .int .i64 a, .int .u64 n] 166)
    exact ⟨⟨P0, HP.out.2⟩, F0.mono (by simp), Bk.new' _ _ [_, _, _, _] (by simp [World.setCell]), M.keep [b] _ _ _ _ _ HI.out F0 (fun s hs e => HS.out (by simpa [List.mem_singleton.1 e] using hs))⟩
  intro W ⟨hP, hF, hB, hI⟩
  have q0 : W.cell? ⟨w.heap.size, 0, none⟩ = some (.int .i64 5) := hB.cell 0
  have q1 : W.cell? ⟨w.heap.size, 1, none⟩ = some (.int .i64 r) := hB.cell 1
  have q2 : W.cell? ⟨w.heap.size, 2, none⟩ = some (.int .i64 a) := hB.cell 2
  have q3 : W.cell? ⟨w.heap.size, 3, none⟩ = some (.int .u64 n) := hB.cell 3
  have r0 := hP.reg _ l1
  have r1 := hP.1.free (1 + k)
  have r2 := hP.1.free 5
  have r3 := hP.at'
  have HPW := Lib.hid hP
  have HFW := Lib.hid hF
  have HIW := Lib.hid hI
  have HBW := Lib.hid hB
  clear hP hF hB hI g0 g1 g2 g3
  go_wp2_with fail

  rw [via_ret]
  have F1 : Fr [b] W (W.setCell ⟨b, 1 + k, none⟩ (.int .u64 (n))) := ((Fr.refl _ _).set (by simp) _)
  exact bodyPost_ret (v := .tuple #[]) (by simp [results, Try.results95, go_sem]) rfl ⟨rfl, by rw [HR.out, HA.out]; exact HPW.out.setr _ l1 _, by rw [HZ.out, HN.out]; exact ⟨S, M.keep [b] _ _ _ _ _ HIW.out F1 (fun s hs e => HS.out (by simpa [List.mem_singleton.1 e] using hs)), HFW.out.trans (F1.mono (by simp)), fun q hq => .inl hq⟩⟩

set_option maxHeartbeats 3200000 in
set_option maxRecDepth 100000 in
theorem do6j_any (M : MemJ t p I fl fs fc fa fn rl rs' rc ra rn) (S : List Nat) (b : Nat) (sl : Value) (rs zs : List Int) (nn : Nat) (x : InsT) (at' d : Int) (w : World) (h : Pg w b sl rs at') (hI : I w zs nn S) (_hnn : nn ≤ 100000) (hbS : b ∉ S) (hat : 0 ≤ at' ∧ at' ≤ 1000000000) (ho : x.op = 6) :
    Calls Try.prog 95 #[.pointer (some ⟨b, 0, none⟩), .agg #[.int .i64 x.op, .int .i64 x.r, .int .i64 x.a, .int .u64 x.n], .iface t p, .int .i64 d] w fun e w' => e = .returned (.tuple #[]) ∧ Pg w' b sl (doR x d rs zs) (doA x rs at') ∧ Svd I b w w' (doZ x rs zs) (doN x nn) S := by
  have l1 := rix_lt x.r
  have l2 := rix_lt (x.r + 1)
  have l1' : (rix x.r : Int) < 4 := by omega
  have l2' : (rix (x.r + 1) : Int) < 4 := by omega
  have hb := h.1.lt
  have g0 := h.reg _ l1
  have g1 := h.reg _ l2
  have g2 := h.at'
  have g3 := h.1.free 5
  have Hlt := Lib.hid (M.lt _ _ _ _ hI)
  have HR := Lib.hid (show doR x d rs zs = rs.set (rix x.r) (IntKind.u64.wrap (wd rs (rix x.r) + x.n)) by unfold doR; simp [ho])
  have HA := Lib.hid (show doA x rs at' = at' + 1 by unfold doA; simp [ho])
  have HZ := Lib.hid (show doZ x rs zs = zs by unfold doZ; simp [ho])
  have HN := Lib.hid (show doN x nn = nn by unfold doN; simp [ho])
  have d1 : (x.op == 1) = false := by simp [ho]
  have d2 : (x.op == 2) = false := by simp [ho]
  have d3 : (x.op == 3) = false := by simp [ho]
  have d4 : (x.op == 4) = false := by simp [ho]
  have d5 : (x.op == 5) = false := by simp [ho]
  have d6 : (x.op == 6) = true := by simp [ho]
  have HP := Lib.hid h
  have HI := Lib.hid hI
  have HS := Lib.hid hbS
  have hml := M.ml
  have hms := M.ms
  have hmc := M.mc
  have hma := M.ma
  have hnl := M.nl
  have hel := M.el
  have hes := M.es
  have hec := M.ec
  have hea := M.ea
  have hns := M.ns
  have hnc := M.nc
  have hna := M.na
  obtain ⟨op, r, a, n⟩ := x
  dsimp only at *
  subst ho
  have e1 := and3 r
  have e2 := and3 (IntKind.i64.wrap (r + 1))
  rw [rix_wrap] at e2
  generalize rix r = k at *
  generalize rix (r + 1) = j at *
  clear h hI hbS
  go_enter Try.func95, Try.ntmps95
  go_wp2_with fail
  refine wp_scope_via 1 ?_
  go_wp2_with fail
  go_region
  go_wp2_with fail
  go_region
  go_upto_region 4 with (fail)
  refine wp_gen (fun W => Pg W b sl rs (at' + 1) ∧ Fr (b :: S) w W ∧ Bk W w.heap.size 166 [.int .i64 6, .int .i64 r, .int .i64 a, .int .u64 n] ∧ I W zs nn S) ?_ ?_
  · have F0 : Fr [b] w ((w.setCell ⟨b, 5, none⟩ (.int .i64 (at' + 1))).alloc (.cells #[.int .i64 6, .int .i64 r, .int .i64 a, .int .u64 n] 166)).drew.drew := (((Fr.refl _ _).set (by simp) _).alloc _).drew.drew
    have P0 := (HP.out.seta (at' + 1)).1.alloc (.cells #[.int .i64 6, .int .i64 r, .int .i64 a, .int .u64 n] 166)
    exact ⟨⟨P0, HP.out.2⟩, F0.mono (by simp), Bk.new' _ _ [_, _, _, _] (by simp [World.setCell]), M.keep [b] _ _ _ _ _ HI.out F0 (fun s hs e => HS.out (by simpa [List.mem_singleton.1 e] using hs))⟩
  intro W ⟨hP, hF, hB, hI⟩
  have q0 : W.cell? ⟨w.heap.size, 0, none⟩ = some (.int .i64 6) := hB.cell 0
  have q1 : W.cell? ⟨w.heap.size, 1, none⟩ = some (.int .i64 r) := hB.cell 1
  have q2 : W.cell? ⟨w.heap.size, 2, none⟩ = some (.int .i64 a) := hB.cell 2
  have q3 : W.cell? ⟨w.heap.size, 3, none⟩ = some (.int .u64 n) := hB.cell 3
  have r0 := hP.reg _ l1
  have r1 := hP.1.free (1 + k)
  have r2 := hP.1.free 5
  have r3 := hP.at'
  have HPW := Lib.hid hP
  have HFW := Lib.hid hF
  have HIW := Lib.hid hI
  have HBW := Lib.hid hB
  clear hP hF hB hI g0 g1 g2 g3
  go_wp2_with fail
  go_region
  go_wp2_with fail
  rw [via_ret]
  have F1 : Fr [b] W (W.setCell ⟨b, 1 + k, none⟩ (.int .u64 (IntKind.u64.wrap (wd rs k + n)))).drew := ((Fr.refl _ _).set (by simp) _).drew
  exact bodyPost_ret (v := .tuple #[]) (by simp [results, Try.results95, go_sem]) rfl ⟨rfl, by rw [HR.out, HA.out]; exact HPW.out.setr _ l1 _, by rw [HZ.out, HN.out]; exact ⟨S, M.keep [b] _ _ _ _ _ HIW.out F1 (fun s hs e => HS.out (by simpa [List.mem_singleton.1 e] using hs)), HFW.out.trans (F1.mono (by simp)), fun q hq => .inl hq⟩⟩

set_option maxHeartbeats 3200000 in
set_option maxRecDepth 100000 in
theorem do9j_any (M : MemJ t p I fl fs fc fa fn rl rs' rc ra rn) (S : List Nat) (b : Nat) (sl : Value) (rs zs : List Int) (nn : Nat) (x : InsT) (at' d : Int) (w : World) (h : Pg w b sl rs at') (hI : I w zs nn S) (_hnn : nn ≤ 100000) (hbS : b ∉ S) (hat : 0 ≤ at' ∧ at' ≤ 1000000000) (ho : x.op = 9) :
    Calls Try.prog 95 #[.pointer (some ⟨b, 0, none⟩), .agg #[.int .i64 x.op, .int .i64 x.r, .int .i64 x.a, .int .u64 x.n], .iface t p, .int .i64 d] w fun e w' => e = .returned (.tuple #[]) ∧ Pg w' b sl (doR x d rs zs) (doA x rs at') ∧ Svd I b w w' (doZ x rs zs) (doN x nn) S := by
  have l1 := rix_lt x.r
  have l2 := rix_lt (x.r + 1)
  have l1' : (rix x.r : Int) < 4 := by omega
  have l2' : (rix (x.r + 1) : Int) < 4 := by omega
  have hb := h.1.lt
  have g0 := h.reg _ l1
  have g1 := h.reg _ l2
  have g2 := h.at'
  have g3 := h.1.free 5
  have Hlt := Lib.hid (M.lt _ _ _ _ hI)
  have HR := Lib.hid (show doR x d rs zs = rs.set (rix x.r) (IntKind.u64.wrap d) by unfold doR; simp [ho])
  have HA := Lib.hid (show doA x rs at' = at' + 1 by unfold doA; simp [ho])
  have HZ := Lib.hid (show doZ x rs zs = zs by unfold doZ; simp [ho])
  have HN := Lib.hid (show doN x nn = nn by unfold doN; simp [ho])
  have d1 : (x.op == 1) = false := by simp [ho]
  have d2 : (x.op == 2) = false := by simp [ho]
  have d3 : (x.op == 3) = false := by simp [ho]
  have d4 : (x.op == 4) = false := by simp [ho]
  have d5 : (x.op == 5) = false := by simp [ho]
  have d6 : (x.op == 6) = false := by simp [ho]
  have d7 : (x.op == 7) = false := by simp [ho]
  have d8 : (x.op == 8) = false := by simp [ho]
  have d9 : (x.op == 9) = true := by simp [ho]
  have HP := Lib.hid h
  have HI := Lib.hid hI
  have HS := Lib.hid hbS
  have hml := M.ml
  have hms := M.ms
  have hmc := M.mc
  have hma := M.ma
  have hnl := M.nl
  have hel := M.el
  have hes := M.es
  have hec := M.ec
  have hea := M.ea
  have hns := M.ns
  have hnc := M.nc
  have hna := M.na
  obtain ⟨op, r, a, n⟩ := x
  dsimp only at *
  subst ho
  have e1 := and3 r
  have e2 := and3 (IntKind.i64.wrap (r + 1))
  rw [rix_wrap] at e2
  generalize rix r = k at *
  generalize rix (r + 1) = j at *
  clear h hI hbS
  go_enter Try.func95, Try.ntmps95
  go_wp2_with fail
  refine wp_scope_via 1 ?_
  go_wp2_with fail
  go_region
  go_wp2_with fail
  go_region
  go_upto_region 4 with (fail)
  refine wp_gen (fun W => Pg W b sl rs (at' + 1) ∧ Fr (b :: S) w W ∧ Bk W w.heap.size 166 [.int .i64 9, .int .i64 r, .int .i64 a, .int .u64 n] ∧ I W zs nn S) ?_ ?_
  · have F0 : Fr [b] w ((w.setCell ⟨b, 5, none⟩ (.int .i64 (at' + 1))).alloc (.cells #[.int .i64 9, .int .i64 r, .int .i64 a, .int .u64 n] 166)).drew.drew := (((Fr.refl _ _).set (by simp) _).alloc _).drew.drew
    have P0 := (HP.out.seta (at' + 1)).1.alloc (.cells #[.int .i64 9, .int .i64 r, .int .i64 a, .int .u64 n] 166)
    exact ⟨⟨P0, HP.out.2⟩, F0.mono (by simp), Bk.new' _ _ [_, _, _, _] (by simp [World.setCell]), M.keep [b] _ _ _ _ _ HI.out F0 (fun s hs e => HS.out (by simpa [List.mem_singleton.1 e] using hs))⟩
  intro W ⟨hP, hF, hB, hI⟩
  have q0 : W.cell? ⟨w.heap.size, 0, none⟩ = some (.int .i64 9) := hB.cell 0
  have q1 : W.cell? ⟨w.heap.size, 1, none⟩ = some (.int .i64 r) := hB.cell 1
  have q2 : W.cell? ⟨w.heap.size, 2, none⟩ = some (.int .i64 a) := hB.cell 2
  have q3 : W.cell? ⟨w.heap.size, 3, none⟩ = some (.int .u64 n) := hB.cell 3
  have r0 := hP.reg _ l1
  have r1 := hP.1.free (1 + k)
  have r2 := hP.1.free 5
  have r3 := hP.at'
  have HPW := Lib.hid hP
  have HFW := Lib.hid hF
  have HIW := Lib.hid hI
  have HBW := Lib.hid hB
  clear hP hF hB hI g0 g1 g2 g3
  go_wp2_with fail

  rw [via_ret]
  have F1 : Fr [b] W (W.setCell ⟨b, 1 + k, none⟩ (.int .u64 (IntKind.u64.wrap d))) := ((Fr.refl _ _).set (by simp) _)
  exact bodyPost_ret (v := .tuple #[]) (by simp [results, Try.results95, go_sem]) rfl ⟨rfl, by rw [HR.out, HA.out]; exact HPW.out.setr _ l1 _, by rw [HZ.out, HN.out]; exact ⟨S, M.keep [b] _ _ _ _ _ HIW.out F1 (fun s hs e => HS.out (by simpa [List.mem_singleton.1 e] using hs)), HFW.out.trans (F1.mono (by simp)), fun q hq => .inl hq⟩⟩

end

end Go.Proofs.Ythidinalhbnmmaa
