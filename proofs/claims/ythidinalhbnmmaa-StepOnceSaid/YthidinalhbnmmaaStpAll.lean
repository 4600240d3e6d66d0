/-
  step.Prog: what an instruction does.
-/
import Derived.Test.YthidinalhbnmmaaStpA
import Derived.Test.YthidinalhbnmmaaStpB
import Derived.Test.YthidinalhbnmmaaStpC
import Derived.Test.YthidinalhbnmmaaStpD
import Derived.Test.YthidinalhbnmmaaIns
namespace Go.Proofs.Ythidinalhbnmmaa
open Go.RowKit
section
variable {t : TypeId} {p : Value} {I : World → List Int → Nat → List Nat → Prop} {fl fs fc fa fn : FuncId} {rl rs' rc ra rn : Value}

theorem pdoj_any (M : MemJ t p I fl fs fc fa fn rl rs' rc ra rn) (S : List Nat) (b : Nat) (sl : Value) (rs zs : List Int) (nn : Nat) (x : InsT) (at' d : Int) (w : World) (h : Pg w b sl rs at') (hI : I w zs nn S) (hnn : nn ≤ 100000) (hbS : b ∉ S) (hat : 0 ≤ at' ∧ at' ≤ 1000000000) :
    Calls Try.prog 95 #[.pointer (some ⟨b, 0, none⟩), .agg #[.int .i64 x.op, .int .i64 x.r, .int .i64 x.a, .int .u64 x.n], .iface t p, .int .i64 d] w fun e w' => e = .returned (.tuple #[]) ∧ Pg w' b sl (doR x d rs zs) (doA x rs at') ∧ Svd I b w w' (doZ x rs zs) (doN x nn) S := by
  rcases (show x.op = 1 ∨ x.op = 2 ∨ x.op = 3 ∨ x.op = 4 ∨ x.op = 5 ∨ x.op = 6 ∨ x.op = 7 ∨ x.op = 8 ∨ x.op = 9 ∨ (x.op < 1 ∨ 9 < x.op) by omega) with ho | ho | ho | ho | ho | ho | ho | ho | ho | ho
  · exact do1j_any M S b sl rs zs nn x at' d w h hI hnn hbS hat ho
  · exact do2j_any M S b sl rs zs nn x at' d w h hI hnn hbS hat ho
  · cases hc : casb zs x.a (wd rs (rix x.r))
    · exact do3fj_any M S b sl rs zs nn x at' d w h hI hnn hbS hat ho hc
    · exact do3tj_any M S b sl rs zs nn x at' d w h hI hnn hbS hat ho hc
  · exact do4j_any M S b sl rs zs nn x at' d w h hI hnn hbS hat ho
  · exact do5j_any M S b sl rs zs nn x at' d w h hI hnn hbS hat ho
  · exact do6j_any M S b sl rs zs nn x at' d w h hI hnn hbS hat ho
  · exact do7j_any M S b sl rs zs nn x at' d w h hI hnn hbS hat ho
  · by_cases hz : wd rs (rix x.r) = 0
    · exact do8tj_any M S b sl rs zs nn x at' d w h hI hnn hbS hat ho hz
    · exact do8fj_any M S b sl rs zs nn x at' d w h hI hnn hbS hat ho hz
  · exact do9j_any M S b sl rs zs nn x at' d w h hI hnn hbS hat ho
  · exact dooj_any M S b sl rs zs nn x at' d w h hI hnn hbS hat ho

set_option maxHeartbeats 3200000 in
set_option maxRecDepth 100000 in
theorem stepj_any (M : MemJ t p I fl fs fc fa fn rl rs' rc ra rn) (S : List Nat) (b gi : Nat) (sl : Value) (L : List InsT) (rs zs : List Int) (nn : Nat) (at' d : Int) (w : World) (h : Pg w b sl rs at') (hL : Ins w sl L gi) (hI : I w zs nn S) (hnn : nn ≤ 100000) (hbS : b ∉ S) (hgi : 0 < L.length → gi ∉ b :: S) (hl : L.length ≤ 100000) :
    Calls Try.prog 27 #[.pointer (some ⟨b, 0, none⟩), .iface t p, .int .i64 d] w fun e w' => e = .returned (.bool (dn L (nxA L rs at'))) ∧ Pg w' b sl (nxR L d rs zs at') (nxA L rs at') ∧ Svd I b w w' (nxZ L rs zs at') (nxN L at' nn) S := by
  have HP := Lib.hid h
  have HL := Lib.hid hL
  have HI := Lib.hid hI
  have HG := Lib.hid hgi
  have HS := Lib.hid hbS
  obtain ⟨o, c, rfl, hle, hc⟩ := hL
  clear hI hbS hgi
  cases hdn : dn L at' with
  | true =>
    have H1 := Lib.hid (show nxA L rs at' = at' by unfold nxA; rw [if_pos hdn])
    have H2 := Lib.hid (show nxR L d rs zs at' = rs by unfold nxR; rw [if_pos hdn])
    have H3 := Lib.hid (show nxZ L rs zs at' = zs by unfold nxZ; rw [if_pos hdn])
    have H4 := Lib.hid (show nxN L at' nn = nn by unfold nxN; rw [if_pos hdn])
    have HD := Lib.hid hdn
    clear hdn hc h
    go_enter Try.func27, Try.ntmps27
    go_wp2_with fail
    refine (done_any b gi _ rs L at' _ HP.out HL.out).mono ?_
    rintro e w1 ⟨rfl, n1, rfl⟩
    rw [HD.out]
    go_wp2_with fail
    refine (done_any b gi _ rs L at' _ (HP.out.fr ((Fr.refl [] w).drewN n1) (by simp)) (HL.out.fr ((Fr.refl [] w).drewN n1) (by simp))).mono ?_
    rintro e w1 ⟨rfl, n2, rfl⟩
    go_wp2_with fail
    go_ret
    have F : Fr [] w (w.drewN (n1 + n2)) := (Fr.refl [] w).drewN _
    exact ⟨ret_bool (by rw [H1.out, HD.out]), by rw [H1.out, H2.out]; exact HP.out.fr F (by simp), by rw [H3.out, H4.out]; exact ⟨S, M.keep [] _ _ _ _ _ HI.out F (by simp), F.mono (by simp), fun q hq => .inl hq⟩⟩
  | false =>
    have hx : 0 ≤ at' ∧ at' < L.length := by
      unfold dn at hdn
      simp only [Bool.or_eq_false_iff, decide_eq_false_iff_not] at hdn
      omega
    obtain ⟨k, rfl⟩ : ∃ k : Nat, at' = k := ⟨at'.toNat, by omega⟩
    have hk : k < L.length := by omega
    obtain ⟨off, rfl, hd⟩ := hc (by omega)
    obtain ⟨c0, c1, c2, c3⟩ := hd k hk
    have H1 := Lib.hid (show nxA L rs k = doA (insAt L k) rs k by unfold nxA; rw [if_neg (by rw [hdn]; simp)]; rfl)
    have H2 := Lib.hid (show nxR L d rs zs k = doR (insAt L k) d rs zs by unfold nxR; rw [if_neg (by rw [hdn]; simp)]; rfl)
    have H3 := Lib.hid (show nxZ L rs zs k = doZ (insAt L k) rs zs by unfold nxZ; rw [if_neg (by rw [hdn]; simp)]; rfl)
    have H4 := Lib.hid (show nxN L k nn = doN (insAt L k) nn by unfold nxN; rw [if_neg (by rw [hdn]; simp)]; rfl)
    have HD := Lib.hid hdn
    clear hdn hd hc
    generalize insAt L k = x at *
    have g0 := h.at'
    have g1 : w.cell? ⟨b, 0, none⟩ = some (.slice (some ⟨gi, off, none⟩) L.length c) := h.1.cell 0
    clear h
    go_enter Try.func27, Try.ntmps27
    go_wp2_with fail
    refine (done_any b gi _ rs L _ _ HP.out HL.out).mono ?_
    rintro e w1 ⟨rfl, n1, rfl⟩
    rw [HD.out]
    go_wp2_with fail
    go_region_with (first
      | (go_at_call 93; refine (or_some _ _ _).mono ?_; rintro e w9 ⟨rfl, rfl⟩)
      | (go_at_call 95; refine (pdoj_any M S b _ rs zs nn x _ d _ (HP.out.fr ((Fr.refl [] w).drewN (n1 + 1)) (by simp)) (M.drewN HI.out (n1 + 1)) hnn HS.out (by omega)).mono ?_; rintro e w9 ⟨rfl, hP9, hV⟩; obtain ⟨S9, hI9, hF9, hS9⟩ := hV; have HS9 := Lib.hid hS9; clear hS9; have HP9 := Lib.hid hP9; have HI9 := Lib.hid hI9; have HF9 := Lib.hid hF9; clear hP9 hI9 hF9))
    all_goals
      have F9 := Lib.hid (show Fr (b :: S) w w9 from ((Fr.refl _ w).drewN (n1 + 1)).trans HF9.out)
      go_wp2_with fail
      refine (done_any b gi _ _ L _ _ HP9.out (HL.out.fr F9.out HG.out)).mono ?_
      rintro e w1 ⟨rfl, n2, rfl⟩
      go_wp2_with fail
      go_ret
      exact ⟨ret_bool (by rw [H1.out]), by rw [H1.out, H2.out]; exact HP9.out.fr ((Fr.refl [] _).drewN n2) (by simp), by rw [H3.out, H4.out]; exact ⟨S9, M.drewN HI9.out n2, F9.out.drewN n2, HS9.out⟩⟩
end

end Go.Proofs.Ythidinalhbnmmaa
