/-
  soughlaw24: awake, instrs, same, StepPlays: contracts.
-/
import Derived.Test.YthidinalhbnmmaaStepRefA
import Derived.Test.YthidinalhbnmmaaStepRefB
import Derived.Test.YthidinalhbnmmaaStepRefC
import Derived.Test.YthidinalhbnmmaaStepRefD
import Derived.Test.YthidinalhbnmmaaIntsIn
namespace Go.Proofs.Ythidinalhbnmmaa
open Go.RowKit

theorem rstep_any (b gi mb mg : Nat) (sl : Value) (L : List InsT) (rs zs : List Int) (at' d : Int) (w : World) (h : Pq w b sl rs at') (hL : Ins w sl L gi) (hM : Rm w mb mg zs) (hbm : b ≠ mb ∧ b ≠ mg) (hgi : 0 < L.length → gi ≠ b ∧ gi ≠ mg) (hl : L.length ≤ 100000) :
    Calls Try.prog 28 #[.pointer (some ⟨b, 0, none⟩), .pointer (some ⟨mb, 0, none⟩), .int .i64 d] w fun e w' => e = .returned (.bool (dn L (nxA L rs at'))) ∧ Pq w' b sl (nxR L d rs zs at') (nxA L rs at') ∧ Rm w' mb mg (nxZ L rs zs at') ∧ Fr [b, mg] w w' := by
  cases hdn : dn L at' with
  | true =>
    have H1 : nxA L rs at' = at' := by unfold nxA; rw [if_pos hdn]
    have H2 : nxR L d rs zs at' = rs := by unfold nxR; rw [if_pos hdn]
    have H3 : nxZ L rs zs at' = zs := by unfold nxZ; rw [if_pos hdn]
    rw [H1, H2, H3]
    clear H1 H2 H3
    have HD := Lib.hid hdn
    have HP := Lib.hid h
    have HM := Lib.hid hM
    have HL := Lib.hid hL
    clear h hM hdn hL
    go_enter Try.func28, Try.ntmps28
    go_wp2_with fail
    refine (rdone_any b gi _ rs L at' _ HP.out HL.out).mono ?_
    rintro e w1 ⟨rfl, n1, rfl⟩
    rw [HD.out]
    go_wp2_with fail
    go_ret
    exact ⟨ret_bool HD.out.symm, HP.out.fr ((Fr.refl [] w).drewN n1) (by simp), HM.out.drewN n1, (Fr.refl _ w).drewN n1⟩
  | false =>
    have hx : 0 ≤ at' ∧ at' < L.length := by
      unfold dn at hdn
      simp only [Bool.or_eq_false_iff, decide_eq_false_iff_not] at hdn
      omega
    obtain ⟨k, rfl⟩ : ∃ k : Nat, at' = k := ⟨at'.toNat, by omega⟩
    have H1 : nxA L rs k = doA (insAt L k) rs k := by unfold nxA; rw [if_neg (by rw [hdn]; simp)]; rfl
    have H2 : nxR L d rs zs k = doR (insAt L k) d rs zs := by unfold nxR; rw [if_neg (by rw [hdn]; simp)]; rfl
    have H3 : nxZ L rs zs k = doZ (insAt L k) rs zs := by unfold nxZ; rw [if_neg (by rw [hdn]; simp)]; rfl
    have hk : k < L.length := by omega
    have hg := hgi (by omega)
    rw [H1, H2, H3]
    clear H1 H2 H3 hgi hx
    obtain ⟨x, hx⟩ : ∃ x, insAt L k = x := ⟨_, rfl⟩
    rw [hx]
    rcases (show x.op = 1 ∨ x.op = 2 ∨ x.op = 3 ∨ x.op = 4 ∨ x.op = 5 ∨ x.op = 6 ∨ x.op = 7 ∨ x.op = 8 ∨ x.op = 9 ∨ (x.op < 1 ∨ 9 < x.op) by omega) with ho | ho | ho | ho | ho | ho | ho | ho | ho | ho
    · exact rs1_any b gi mb mg sl L rs zs x k d w h hL hM hbm hg hl hk hdn hx ho
    · exact rs2_any b gi mb mg sl L rs zs x k d w h hL hM hbm hg hl hk hdn hx ho
    · cases hc : casb zs x.a (wd rs (rix x.r))
      · exact rs3f_any b gi mb mg sl L rs zs x k d w h hL hM hbm hg hl hk hdn hx ho hc
      · exact rs3t_any b gi mb mg sl L rs zs x k d w h hL hM hbm hg hl hk hdn hx ho hc
    · exact rs4_any b gi mb mg sl L rs zs x k d w h hL hM hbm hg hl hk hdn hx ho
    · exact rs5_any b gi mb mg sl L rs zs x k d w h hL hM hbm hg hl hk hdn hx ho
    · exact rs6_any b gi mb mg sl L rs zs x k d w h hL hM hbm hg hl hk hdn hx ho
    · exact rs7_any b gi mb mg sl L rs zs x k d w h hL hM hbm hg hl hk hdn hx ho
    · by_cases hz : wd rs (rix x.r) = 0
      · exact rs8t_any b gi mb mg sl L rs zs x k d w h hL hM hbm hg hl hk hdn hx ho hz
      · exact rs8f_any b gi mb mg sl L rs zs x k d w h hL hM hbm hg hl hk hdn hx ho hz
    · exact rs9_any b gi mb mg sl L rs zs x k d w h hL hM hbm hg hl hk hdn hx ho
    · exact rso_any b gi mb mg sl L rs zs x k d w h hL hM hbm hg hl hk hdn hx ho

def icellsK (L : List InsT) (k : Nat) : List Value := icells (L.take k)
theorem icellsK_succ (L : List InsT) (k : Nat) (h : k < L.length) : icellsK L (k + 1) = icellsK L k ++ [.int .i64 (insAt L k).op, .int .i64 (insAt L k).r, .int .i64 (insAt L k).a, .int .u64 (insAt L k).n] := by
  unfold icellsK
  rw [List.take_succ_eq_append_getElem h]
  unfold icells
  rw [List.flatMap_append]
  congr 1
  simp [insCells, insAt, h]

set_option maxHeartbeats 1600000 in
set_option maxRecDepth 100000 in
theorem instrs_any (v : Value) (L : List InsT) (gi : Nat) (w : World) (h : Ins w v L gi) (hl : L.length ≤ 1000) :
    Calls Try.prog 26 #[v] w fun e w' => ∃ v', e = .returned v' ∧ w'.ownsRow w.heap.size 166 4 v' L.length (icells L) ∧ Below w.heap.size w w' := by
  obtain ⟨i0, hi, hz0, hz1, hz2⟩ := info_parts ins_info
  obtain ⟨o, c, rfl, hle, hc⟩ := h
  have HC := Lib.hid hc
  clear hc
  go_enter Try.func26, Try.ntmps26
  go_wp2_with fail
  go_loopw [3, 8] (fun v i wr => ∃ k : Nat, k ≤ L.length ∧ i = .int .i64 k ∧ wr.ownsRow w.heap.size 166 4 v k (icellsK L k) ∧ Below w.heap.size w wr)
    (fun _ i _ => L.length - (intOf i).toNat)
  case atStart => exact ⟨0, Nat.zero_le _, rfl, World.ownsRow_nil _ _ _ _, Below.refl _ _⟩
  case round =>
    obtain ⟨k, hk, rfl, hown, hB⟩ := hrel
    have HB := Lib.hid hB
    have HO := Lib.hid hown
    clear hB hown
    by_cases hlt : k < L.length
    · obtain ⟨off, rfl, hd⟩ := HC.out (by omega)
      obtain ⟨c0, c1, c2, c3⟩ := hd k hlt
      replace c0 := keepc c0 HB.out
      replace c1 := keepc c1 HB.out
      replace c2 := keepc c2 HB.out
      replace c3 := keepc c3 HB.out
      have HE := Lib.hid (icellsK_succ L k hlt)
      clear hd
      generalize insAt L k = x at *
      go_wp2_with (at_builtin; refine wpList_append_own _ rfl _ _ 46 rfl w.heap.size 166 i0 (.agg #[.int .i64 0, .int .i64 0, .int .i64 0, .int .u64 0]) 4 32 Try.underlying46 hi hz0 hz1 hz2 rfl (by decide) _ _ _ rfl ((HO.out.alloc _).alloc _) ⟨wr.heap.size + 1, 0, none⟩ 1 1 [.int .i64 x.op, .int .i64 x.r, .int .i64 x.a, .int .u64 x.n] rfl rfl ?c1 ?c2 ?c3 ?c4 ?c5 ?_)
      case c1 =>
        intro j u hj
        match j, hj with
        | 0, hj => simp at hj; subst hj; simp [Addr.add]
        | 1, hj => simp at hj; subst hj; simp [Addr.add]
        | 2, hj => simp at hj; subst hj; simp [Addr.add]
        | 3, hj => simp at hj; subst hj; simp [Addr.add]
      case c2 => simp [Value.oneCell']
      case c3 => unfold maxLen; omega
      case c4 => omega
      case c5 => have := HB.out.size; simp; omega
      intro v' w3 hown' hgrow _
      rw [← HE.out] at hown'
      have HO' := Lib.hid hown'
      have HB' := Lib.hid (((HB.out.alloc (by have := HB.out.size; omega) _).alloc (by have := HB.out.size; simp; omega) _).grown hgrow (by have := HB.out.size; simp; omega) (fun k hk => (HO.out.lt k hk).1))
      clear hown' hgrow
      go_wp2
      go_roundw
      case rel => exact ⟨k + 1, by omega, by go_num, HO'.out, HB'.out⟩
      case measure => simp [intOf]; omega
    · obtain rfl : k = L.length := by omega
      go_wp2
      go_ret
      exact ⟨_, rfl, by have h := HO.out; unfold icellsK at h; rw [List.take_length] at h; exact h, HB.out⟩

set_option maxHeartbeats 1600000 in
set_option maxRecDepth 100000 in
theorem same_any (b q gi gj : Nat) (sl sm : Value) (L : List InsT) (rs : List Int) (at' : Int) (w : World) (h : Pg w b sl rs at') (hq : Pq w q sm rs at') (hL : Ins w sl L gi) (hM : Ins w sm L gj) :
    Calls Try.prog 29 #[.pointer (some ⟨b, 0, none⟩), .pointer (some ⟨q, 0, none⟩)] w fun e w' => e = .returned (.bool true) ∧ Below w.heap.size w w' := by
  obtain ⟨a0, a1, a2, a3, rfl⟩ : ∃ a0 a1 a2 a3, rs = [a0, a1, a2, a3] := by
    match rs, h.2 with
    | [a0, a1, a2, a3], _ => exact ⟨a0, a1, a2, a3, rfl⟩
  have HP := Lib.hid h
  have HQ := Lib.hid hq
  have HL := Lib.hid hL
  have HM := Lib.hid hM
  clear h hq hL hM
  go_enter Try.func29, Try.ntmps29
  go_wp2_with fail
  refine (regs_any b sl a0 a1 a2 a3 at' _ HP.out).mono ?_
  rintro e w1 ⟨rfl, hB⟩
  have F1 : Fr [] w w1 := .of hB
  have HB1 := Lib.hid hB
  have HP1 := Lib.hid (HP.out.fr F1 (by simp))
  have HQ1 := Lib.hid (HQ.out.fr F1 (by simp))
  have HL1 := Lib.hid (HL.out.fr F1 (by simp))
  have HM1 := Lib.hid (HM.out.fr F1 (by simp))
  clear hB F1
  go_wp2_with fail
  have F2 : Fr [] w1 (w1.alloc (.cells #[.int .u64 a0, .int .u64 a1, .int .u64 a2, .int .u64 a3] 57)) := (Fr.refl [] w1).alloc _
  refine wp_gen (fun W => Pg W b sl [a0, a1, a2, a3] at' ∧ Pq W q sm [a0, a1, a2, a3] at' ∧ Ins W sl L gi ∧ Ins W sm L gj ∧ Bk W w1.heap.size 57 [.int .u64 a0, .int .u64 a1, .int .u64 a2, .int .u64 a3] ∧ Below w.heap.size w W) ?_ ?_
  · exact ⟨HP1.out.fr F2 (by simp), HQ1.out.fr F2 (by simp), HL1.out.fr F2 (by simp), HM1.out.fr F2 (by simp), Bk.new _ _ [_, _, _, _], HB1.out.alloc HB1.out.size _⟩
  intro W ⟨hP, hQ, hL, hM, hK, hB⟩
  have HP2 := Lib.hid hP
  have HQ2 := Lib.hid hQ
  have HL2 := Lib.hid hL
  have HM2 := Lib.hid hM
  have HB2 := Lib.hid hB
  have k0 : W.cell? ⟨w1.heap.size, 0, none⟩ = some (.int .u64 a0) := hK.cell 0
  have k1 : W.cell? ⟨w1.heap.size, 1, none⟩ = some (.int .u64 a1) := hK.cell 1
  have k2 : W.cell? ⟨w1.heap.size, 2, none⟩ = some (.int .u64 a2) := hK.cell 2
  have k3 : W.cell? ⟨w1.heap.size, 3, none⟩ = some (.int .u64 a3) := hK.cell 3
  have g0 : W.cell? ⟨q, 1, none⟩ = some (.int .u64 a0) := hQ.reg 0 (by omega)
  have g1 : W.cell? ⟨q, 2, none⟩ = some (.int .u64 a1) := hQ.reg 1 (by omega)
  have g2 : W.cell? ⟨q, 3, none⟩ = some (.int .u64 a2) := hQ.reg 2 (by omega)
  have g3 : W.cell? ⟨q, 4, none⟩ = some (.int .u64 a3) := hQ.reg 3 (by omega)
  have g4 := hQ.at'
  clear hP hQ hL hM hK hB
  go_quiet ((first
    | (go_at_call 33; exact Calls.quiet_of_same (at_any b sl _ at' _ (HP2.out.fr ((Fr.refl [] W).drewN _) (by simp))))
    | (go_at_call 32; exact Calls.quiet_of (done_any b gi sl _ L at' _ (HP2.out.fr ((Fr.refl [] W).drewN _) (by simp)) (HL2.out.fr ((Fr.refl [] W).drewN _) (by simp))))
    | (go_at_call 96; exact Calls.quiet_of (rdone_any q gj sm _ L at' _ (HQ2.out.fr ((Fr.refl [] W).drewN _) (by simp)) (HM2.out.fr ((Fr.refl [] W).drewN _) (by simp))))))
  go_wp2_with fail
  go_ret
  exact ⟨rfl, bel_drewN HB2.out _⟩

end Go.Proofs.Ythidinalhbnmmaa
