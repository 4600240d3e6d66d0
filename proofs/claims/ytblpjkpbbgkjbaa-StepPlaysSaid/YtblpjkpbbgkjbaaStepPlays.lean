/-
  soughlaw24: awake; StepPlays: the walk.
-/
import Derived.Test.YtblpjkpbbgkjbaaStepLaw
namespace Go.Proofs.Ytblpjkpbbgkjbaa
open Go.RowKit

def L0 : List InsT := [⟨5, 0, 0, 5⟩, ⟨2, 0, 0, 0⟩, ⟨0, 0, 0, 0⟩]

set_option maxHeartbeats 1600000 in
set_option maxRecDepth 100000 in
theorem awake24_any (w : World) : Calls Try.prog 13 #[] w fun e w' => e = .returned (.bool true) ∧ Below w.heap.size w w' := by
  go_enter Try.func13, Try.ntmps13
  go_wp2_with fail
  refine (newPlain_any _ _).mono ?_
  rintro e w1 ⟨b1, g1, rfl, hP, hB, hb, hg⟩
  rw [show List.replicate (memn 1) (0 : Int) = [0] from rfl] at hP
  have HM1 := Lib.hid hP
  have HB1 := Lib.hid hB
  have hbl := hP.1.lt
  have hgl := hP.2.1.lt
  clear hP hB
  go_wp2_with fail
  have hI : Ins (w1.alloc (.cells #[.int .i64 5, .int .i64 0, .int .i64 0, .int .u64 5, .int .i64 2, .int .i64 0, .int .i64 0, .int .u64 0, .int .i64 0, .int .i64 0, .int .i64 0, .int .u64 0] 73)) (.slice (some ⟨w1.heap.size, 0, none⟩) 3 3) L0 w1.heap.size := by
    have hk := Bk.new w1 73 [.int .i64 5, .int .i64 0, .int .i64 0, .int .u64 5, .int .i64 2, .int .i64 0, .int .i64 0, .int .u64 0, .int .i64 0, .int .i64 0, .int .i64 0, .int .u64 0]
    refine ⟨_, _, rfl, by decide, fun _ => ⟨0, rfl, fun j hj => ?_⟩⟩
    match j, hj with
    | 0, _ => exact ⟨hk.cell 0, hk.cell 1, hk.cell 2, hk.cell 3⟩
    | 1, _ => exact ⟨hk.cell 4, hk.cell 5, hk.cell 6, hk.cell 7⟩
    | 2, _ => exact ⟨hk.cell 8, hk.cell 9, hk.cell 10, hk.cell 11⟩
  refine (new_any L0 _ _ _ hI (by decide)).mono ?_
  rintro e w2 ⟨b, g, sl, rfl, hP, hL, hg2, hb2, hb3, hB2⟩
  have F2 : Fr [] w1 w2 := ((Fr.refl [] w1).alloc _).trans (.of hB2)
  have hg3 := hg2 (by decide)
  simp only [World.size_alloc] at hb2 hg3
  have HP2 := Lib.hid hP
  have HL2 := Lib.hid hL
  have HM2 := Lib.hid (show Pm w2 b1 g1 [0] from ⟨HM1.out.1.fr F2 (by simp), HM1.out.2.1.fr F2 (by simp), HM1.out.2.2⟩)
  have HB2 := Lib.hid (HB1.out.trans (F2.below.mono HB1.out.size))
  have HS := Lib.hid (show b ∉ [b1, g1] by simp; omega)
  have HG := Lib.hid (show 0 < L0.length → g ∉ b :: [b1, g1] from fun _ => by simp; omega)
  clear hI hg2 hP hL hB2 F2
  go_wp2_with fail
  refine (step_any (plainI b1 g1) b g sl L0 [0, 0, 0, 0] [0] 0 0 0 _ HP2.out HL2.out HM2.out HS.out HG.out (by decide)).mono ?_
  rintro e w3 ⟨rfl, hP, hM, hF⟩
  rw [show dn L0 (nxA L0 [0, 0, 0, 0] 0) = false from by kernel_rfl]
  rw [show nxR L0 0 [0, 0, 0, 0] [0] 0 = [5, 0, 0, 0] from by kernel_rfl, show nxA L0 [0, 0, 0, 0] 0 = 1 from by kernel_rfl] at hP
  rw [show nxZ L0 [0, 0, 0, 0] [0] 0 = [0] from by kernel_rfl] at hM
  have HP3 := Lib.hid hP
  have HL3 := Lib.hid (HL2.out.fr hF HG.out)
  have HM3 := Lib.hid hM
  have HF3 := Lib.hid hF
  clear hP hM hF
  go_wp2_with fail
  refine (step_any (plainI b1 g1) b g sl L0 [5, 0, 0, 0] [0] 0 1 0 _ HP3.out HL3.out HM3.out HS.out HG.out (by decide)).mono ?_
  rintro e w4 ⟨rfl, hP, hM, hF⟩
  rw [show dn L0 (nxA L0 [5, 0, 0, 0] 1) = true from by kernel_rfl]
  rw [show nxR L0 0 [5, 0, 0, 0] [0] 1 = [5, 0, 0, 0] from by kernel_rfl, show nxA L0 [5, 0, 0, 0] 1 = 2 from by kernel_rfl] at hP
  rw [show nxZ L0 [5, 0, 0, 0] [0] 1 = [5] from by kernel_rfl] at hM
  have HP4 := Lib.hid hP
  have HL4 := Lib.hid (HL3.out.fr hF HG.out)
  have HM4 := Lib.hid (show Pm w4 b1 g1 [5] from hM)
  have HF4 := Lib.hid (HF3.out.trans hF)
  clear hP hM hF
  go_wp2_with fail
  refine (load_any _ b1 g1 [5] _ HM4.out).mono ?_
  rintro e w5 ⟨rfl, hB⟩
  have HF5 := Lib.hid (show Fr [] w4 w5 from .of hB)
  clear hB
  rw [show ldv [5] 0 = 5 from by kernel_rfl]
  go_wp2_with fail
  refine (done_any b g sl _ L0 _ _ (HP4.out.fr HF5.out (by simp)) (HL4.out.fr HF5.out (by simp))).mono ?_
  rintro e w6 ⟨rfl, n6, hw6⟩
  rw [show dn L0 2 = true from by kernel_rfl]
  have HF6 := Lib.hid (show Fr [] w5 w6 by subst hw6; exact (Fr.refl [] _).drewN n6)
  clear hw6
  go_wp2_with fail
  refine (at_any b sl _ _ _ ((HP4.out.fr HF5.out (by simp)).fr HF6.out (by simp))).mono ?_
  rintro e w7 ⟨rfl, rfl⟩
  go_wp2_with fail
  go_ret
  have F : Fr [] w w7 := ((Fr.of HB2.out).from (HF4.out.trans ((HF5.out.trans HF6.out).mono (by simp))) (by simp; omega))
  exact ⟨rfl, F.below⟩

/-- What holds at each round: both machines are in one state, both memories hold the same words. -/
structure Rd (W w : World) (v sl : Value) (L : List InsT) (b q gi gs mb mg nb ng : Nat) (rs zs : List Int) (at' : Int) : Prop where
  p : Pg w b sl rs at'
  q : Pq w q v rs at'
  l : Ins w sl L gs
  m : Ins w v L gi
  i : Pm w mb mg zs
  r : Rm w nb ng zs
  fr : Below W.heap.size W w
theorem nxZ_len (L : List InsT) (rs zs : List Int) (a : Int) : (nxZ L rs zs a).length = zs.length := by
  unfold nxZ doZ casv addv
  repeat' split
  all_goals first | rfl | exact stv_len _ _ _

set_option maxHeartbeats 6400000 in
set_option maxRecDepth 100000 in
theorem stepPlays_walk (v vd : Value) (L : List InsT) (D : List Int) (gi : Nat) (W : World) (hL : Ins W v L gi) (hgi : 0 < L.length → gi < W.heap.size) (hD : Nums W vd D) :
    Calls Try.prog 5 #[v, vd] W fun e w' => e = .returned (.bool true) ∧ Below W.heap.size W w' := by
  have HL := Lib.hid hL
  have HD := Lib.hid hD
  have HGI := Lib.hid hgi
  obtain ⟨o, c, rfl, hle, _⟩ := hL
  obtain ⟨o2, c2, rfl, hle2, hcd⟩ := hD
  have HCD := Lib.hid hcd
  clear hcd hgi
  by_cases h1 : 30 < L.length
  · have d1 : decide ((30 : Int) < L.length) = true := by simp; omega
    clear h1
    go_enter Try.func5, Try.ntmps5
    go_wp2_with fail
    refine (awake24_any _).mono ?_
    rintro e w1 ⟨rfl, hB⟩
    go_wp2_with fail
    go_ret
    exact ⟨rfl, hB⟩
  have d1 : decide ((30 : Int) < L.length) = false := by simp; omega
  by_cases h2 : 60 < D.length
  · have d2 : decide ((60 : Int) < D.length) = true := by simp; omega
    clear h2
    go_enter Try.func5, Try.ntmps5
    go_wp2_with fail
    refine (awake24_any _).mono ?_
    rintro e w1 ⟨rfl, hB⟩
    go_wp2_with fail
    go_ret
    exact ⟨rfl, hB⟩
  have d2 : decide ((60 : Int) < D.length) = false := by simp; omega
  go_enter Try.func5, Try.ntmps5
  go_wp2_with fail
  refine (awake24_any _).mono ?_
  rintro e w1 ⟨rfl, hB⟩
  have HB1 := Lib.hid hB
  have HF1 := Lib.hid (show Fr [] W w1 from .of hB)
  clear hB
  go_wp2_with fail
  refine (instrs_any _ L gi _ (HL.out.fr HF1.out (by simp)) (by omega)).mono ?_
  rintro e w2 ⟨v', rfl, hown, hB⟩
  obtain ⟨g0, hI0, _⟩ := Ins.of_owns hown
  have HI0 := Lib.hid hI0
  have HF2 := Lib.hid (show Fr [] W w2 from HF1.out.trans (.of hB))
  clear hown hI0 hB
  go_wp2_with fail
  refine (new_any L g0 _ _ HI0.out (by omega)).mono ?_
  rintro e w3 ⟨b, gs, sl, rfl, hP, hI, hg, hb1, hb2, hB⟩
  have hs1 := HF2.out.size
  have HF3 := Lib.hid (show Fr [] W w3 from HF2.out.trans (.of hB))
  have HP3 := Lib.hid hP
  have HI3 := Lib.hid hI
  have HGS := Lib.hid hg
  clear hP hI hB hg
  go_wp2_with fail
  have F4 : Fr [] w3 (w3.alloc (.cells #[.slice o L.length c, .int .u64 0, .int .u64 0, .int .u64 0, .int .u64 0, .int .i64 0] 35)) := (Fr.refl [] w3).alloc _
  have HQ4 := Lib.hid (show Pq (w3.alloc (.cells #[.slice o L.length c, .int .u64 0, .int .u64 0, .int .u64 0, .int .u64 0, .int .i64 0] 35)) w3.heap.size (.slice o L.length c) [0, 0, 0, 0] 0 from ⟨Bk.new _ _ [_, _, _, _, _, _], rfl⟩)
  have HP4 := Lib.hid (HP3.out.fr F4 (by simp))
  have HI4 := Lib.hid (HI3.out.fr F4 (by simp))
  have HF4 := Lib.hid (HF3.out.trans F4)
  clear F4
  refine (newPlain_any _ _).mono ?_
  rintro e w5 ⟨mb, mg, rfl, hM, hB, hmb, hmg⟩
  simp only [World.size_alloc] at hmb hmg
  have F5 : Fr [] _ w5 := .of hB
  have hmbl := hM.1.lt
  have hmgl := hM.2.1.lt
  have hmn := hM.ne
  have HM5 := Lib.hid hM
  have HQ5 := Lib.hid (HQ4.out.fr F5 (by simp))
  have HP5 := Lib.hid (HP4.out.fr F5 (by simp))
  have HI5 := Lib.hid (HI4.out.fr F5 (by simp))
  have HF5 := Lib.hid (HF4.out.trans F5)
  clear hM hB F5
  go_wp2_with fail
  refine (rnew_any _ _).mono ?_
  rintro e w6 ⟨nb, ng, rfl, hR, hB, hnb, hng⟩
  have F6 : Fr [] _ w6 := .of hB
  have hnbl := hR.1.lt
  have hngl := hR.2.1.lt
  have hnn := hR.ne
  have HR0 : Rd W w6 (.slice o L.length c) sl L b w3.heap.size gi gs mb mg nb ng [0, 0, 0, 0] (List.replicate (memn 4) 0) 0 :=
    ⟨HP5.out.fr F6 (by simp), HQ5.out.fr F6 (by simp), HI5.out.fr F6 (by simp), HL.out.fr (HF5.out.trans F6) (by simp), ⟨HM5.out.1.fr F6 (by simp), HM5.out.2.1.fr F6 (by simp), HM5.out.2.2⟩, hR, (HF5.out.trans F6).below⟩
  have HR0 := Lib.hid HR0
  have HN := Lib.hid (show w3.heap.size = w3.heap.size from rfl)
  clear hR hB F6
  generalize hq : w3.heap.size = q at *
  have NE := Lib.hid (show W.heap.size ≤ b ∧ b < q ∧ q < mb ∧ q < mg ∧ mb ≠ mg ∧ mb < nb ∧ mg < nb ∧ mb < ng ∧ mg < ng ∧ nb ≠ ng by omega)
  have NG := Lib.hid (show 0 < L.length → W.heap.size ≤ gs ∧ gs < b from fun h0 => by have := HGS.out h0; omega)
  clear hq HN HM5 HQ5 HP5 HI5 HF5 HP4 HI4 HF4 HQ4 HP3 HI3 HGS HF3 HF2 HF1 HI0 hmb hmg hmbl hmgl hmn hnb hng hnbl hngl hnn hb1 hb2 hs1
  go_wp2_with fail
  go_loopw [31] (fun i wr => ∃ k : Nat, k ≤ D.length ∧ i = .int .i64 k ∧ ∃ rs zs at', zs.length = memn 4 ∧ Rd W wr (.slice o L.length c) sl L b q gi gs mb mg nb ng rs zs at')
    (fun i _ => D.length - (intOf i).toNat)
  case atStart => exact ⟨0, Nat.zero_le _, rfl, _, _, _, List.length_replicate, HR0.out⟩
  case round =>
    obtain ⟨k, hk, rfl, rs, zs, at', hzl, hR⟩ := hrel
    have HR := Lib.hid hR
    have HZ := Lib.hid hzl
    clear hR hzl HR0
    by_cases hlt : k < D.length
    · obtain ⟨bd, od, rfl, hcd⟩ := HCD.out (by omega)
      have c0 := keepc (hcd k hlt) HR.out.fr
      clear hcd
      generalize intAt D k = d at *
      have N := NE.out
      go_wp2_with fail
      refine (step_any (plainI mb mg) b gs sl L rs zs 0 at' d _ HR.out.p HR.out.l HR.out.i (by simp; omega) (fun h0 => by have := NG.out h0; simp; omega) (by omega)).mono ?_
      rintro e w7 ⟨rfl, hP, hM, hF⟩
      have HP7 := Lib.hid hP
      have HM7 := Lib.hid hM
      have HQ7 := Lib.hid (HR.out.q.fr hF (by simp; omega))
      have HR7 := Lib.hid (HR.out.r.fr hF (by simp; omega) (by simp; omega))
      have HL7 := Lib.hid (HR.out.l.fr hF (fun h0 => by have := NG.out h0; simp; omega))
      have HI7 := Lib.hid (HR.out.m.fr hF (fun h0 => by have := HGI.out h0; simp; omega))
      have HF7 := Lib.hid ((Fr.of (S := []) HR.out.fr).from hF (by simp; omega))
      clear hP hM hF N
      go_wp2_with fail
      have N := NE.out
      refine (rstep_any q gi nb ng _ L rs zs at' d _ HQ7.out HI7.out HR7.out (by omega) (fun h0 => by have := HGI.out h0; omega) (by omega)).mono ?_
      rintro e w8 ⟨rfl, hQ, hR, hF⟩
      have HQ8 := Lib.hid hQ
      have HR8 := Lib.hid hR
      have HP8 := Lib.hid (HP7.out.fr hF (by simp; omega))
      have HM8 := Lib.hid (show Pm w8 mb mg _ from ⟨HM7.out.1.fr hF (by simp; omega), HM7.out.2.1.fr hF (by simp; omega), HM7.out.2.2⟩)
      have HL8 := Lib.hid (HL7.out.fr hF (fun h0 => by have := NG.out h0; simp; omega))
      have HI8 := Lib.hid (HI7.out.fr hF (fun h0 => by have := HGI.out h0; simp; omega))
      have HF8 := Lib.hid (HF7.out.from hF (by simp; omega))
      clear hQ hR hF N HQ7 HR7 HP7 HM7 HL7 HI7 HF7
      generalize dn L (nxA L rs at') = dd at *
      cases dd
      all_goals
        go_wp2_with fail
        refine (same_any b q gs gi sl _ L _ _ _ HP8.out HQ8.out HL8.out HI8.out).mono ?_
        rintro e w9 ⟨rfl, hB⟩
        have F9 : Fr [] w8 w9 := .of hB
        have HX := Lib.hid (show Rd W w9 (.slice o L.length c) sl L b q gi gs mb mg nb ng (nxR L d rs zs at') (nxZ L rs zs at') (nxA L rs at') from
          ⟨HP8.out.fr F9 (by simp), HQ8.out.fr F9 (by simp), HL8.out.fr F9 (by simp), HI8.out.fr F9 (by simp), ⟨HM8.out.1.fr F9 (by simp), HM8.out.2.1.fr F9 (by simp), HM8.out.2.2⟩, HR8.out.fr F9 (by simp) (by simp), (HF8.out.trans F9).below⟩)
        clear hB F9
        go_wp2_with fail
        go_roundw
        case rel => exact ⟨k + 1, by omega, by go_num, _, _, _, by rw [nxZ_len]; exact HZ.out, HX.out⟩
        case measure => simp [intOf]; omega
    · obtain rfl : k = D.length := by omega
      go_wp2_with fail
      have g1 := HR.out.r.row
      have hz8 : zs.length ≤ 1048576 := HR.out.i.2.2
      go_region_with (first
        | (go_at_call 22; refine (all_any mb mg zs _ (HR.out.i.drewN 1)).mono ?_; rintro e w7 ⟨va, rfl, hU, hB⟩; have HU := Lib.hid hU; have HB7 := Lib.hid hB; have g2 := ((HR.out.r.drewN 1).below hB).row; clear hU hB)
        | (go_at_call 21; refine (us_any _ _ zs zs _ HU.out (Us.of_bk ((HR.out.r.drewN 1).below HB7.out).2.1 _) (by omega) (by omega)).mono ?_; rintro e w8 ⟨rfl, nq, rfl⟩))
      all_goals
        go_wp2_with fail
        go_ret
        have F7 : Fr [] (wr.drewN 1) w7 := .of HB7.out
        exact ⟨ret_bool (by simp), bel_drewN (((Fr.of (S := []) HR.out.fr).drewN 1).trans F7).below _⟩

theorem ins_of {H : Type} {enc : TypeId × Value → H} {w : World} {base : Nat} {spare : Nat → Bool} {held : Bool} {fuel : Nat} {o : Option Addr} {n c : Nat} {x : DataW H × List MemPlace}
    (h : DataW.trod enc Try.prog w base spare held fuel 27 [.slice o n c] = some x) : ∃ L, (∃ gi, Ins w (.slice o n c) L gi ∧ (0 < L.length → gi < w.heap.size)) ∧ L.length ≤ maxLen := by
  rcases rows_ints Try.underlying27 Try.underlying76 (by kernel_rfl) (by kernel_rfl) (by decide) h with h | ⟨a, len, cap, h, hl, hm, hi⟩
  · simp only [List.cons.injEq, Value.slice.injEq, and_true] at h
    obtain ⟨rfl, rfl, rfl⟩ := h
    exact ⟨[], ⟨0, ⟨none, 0, rfl, by simp, by simp⟩, by simp⟩, by simp⟩
  · simp only [List.cons.injEq, Value.slice.injEq, and_true] at h
    obtain ⟨rfl, rfl, rfl⟩ := h
    have hx : ∀ i, ∃ t : InsT, i < n → a.spot = none ∧ w.cell? ⟨a.block, a.off + i * 4, none⟩ = some (.int .i64 t.op) ∧ w.cell? ⟨a.block, a.off + i * 4 + 1, none⟩ = some (.int .i64 t.r) ∧
        w.cell? ⟨a.block, a.off + i * 4 + 2, none⟩ = some (.int .i64 t.a) ∧ w.cell? ⟨a.block, a.off + i * 4 + 3, none⟩ = some (.int .u64 t.n) := fun i => by
      by_cases hlt : i < n
      · obtain ⟨hs, hj⟩ := hi i hlt
        obtain ⟨k, hk, _⟩ := hj 0 _ .i64 rfl Try.underlying3
        obtain ⟨b, hb, _⟩ := hj 1 _ .i64 rfl Try.underlying3
        obtain ⟨y, hy, _⟩ := hj 2 _ .i64 rfl Try.underlying3
        obtain ⟨z, hz, _⟩ := hj 3 _ .u64 rfl Try.underlying33
        exact ⟨⟨k, b, y, z⟩, fun _ => ⟨hs, hk, hb, hy, hz⟩⟩
      · exact ⟨ins0, fun h => absurd h hlt⟩
    refine ⟨(List.range n).map fun i => (hx i).choose, ⟨a.block, ⟨some a, c, by simp, by simpa using hl, fun h0 => ?_⟩, fun h0 => ?_⟩, by simp; omega⟩
    · have hsp : a.spot = none := ((hx 0).choose_spec (by simpa using h0)).1
      refine ⟨a.off, by cases a; simp at hsp; subst hsp; rfl, fun j hj => ?_⟩
      have hj' : j < n := by simpa using hj
      have e : insAt ((List.range n).map fun i => (hx i).choose) j = (hx j).choose := by
        unfold insAt
        rw [List.getElem?_map, List.getElem?_range hj']
        rfl
      rw [e]
      exact ((hx j).choose_spec hj').2
    · have h1 := cell_lt ((hx 0).choose_spec (by simpa using h0)).2.1
      exact h1

end Go.Proofs.Ytblpjkpbbgkjbaa
