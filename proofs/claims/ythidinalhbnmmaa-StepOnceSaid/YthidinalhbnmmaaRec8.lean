/-
  soughlaw24.StepOnce: its walk. Written by wip/gen/mkrec8.py.
-/
import Derived.Test.YthidinalhbnmmaaRec7
namespace Go.Proofs.Ythidinalhbnmmaa
open Go.RowKit

theorem regs_same (w : World) : (binOp .eql 57 (.agg #[.int .u64 0, .int .u64 0, .int .u64 0, .int .u64 0]) (.agg #[.int .u64 0, .int .u64 0, .int .u64 0, .int .u64 0])).run Try.prog w = .ok (.bool true) w := by kernel_rfl
/-- What holds at each round: a machine, and a Log, in blocks from N on. -/
structure So (W w : World) (N lb mb mg b gs : Nat) (sl : Value) (L : List InsT) (rs zs : List Int) (at' : Int) (evs : List EvT) (lv : Value) : Prop where
  p : Pg w b sl rs at'
  l : Ins w sl L gs
  log : Lg w 0 lb mb mg zs evs lv
  new : ∀ i ∈ lgB lb mb mg lv, N ≤ i
  fr : Below W.heap.size W w

set_option maxHeartbeats 3200000 in
set_option maxRecDepth 100000 in
theorem stepOnce_walk (v vd : Value) (L : List InsT) (D : List Int) (gi : Nat) (W : World) (hL : Ins W v L gi) (hD : Nums W vd D) :
    Calls Try.prog 5 #[v, vd] W fun e w' => e = .returned (.bool true) ∧ Below W.heap.size W w' := by
  have HL := Lib.hid hL
  have HD := Lib.hid hD
  obtain ⟨o, c, rfl, hle, _⟩ := hL
  obtain ⟨o2, c2, rfl, hle2, hcd⟩ := hD
  have HCD := Lib.hid hcd
  clear hcd
  by_cases h1 : 30 < L.length
  · have d1 : decide ((30 : Int) < L.length) = true := by simp; omega
    clear h1
    go_enter Try.func5, Try.ntmps5
    go_wp2_with fail
    refine (awake24j_any _).mono ?_
    rintro e w1 ⟨rfl, hB⟩
    go_wp2_with fail
    go_ret
    exact ⟨rfl, hB⟩
  have d1 : decide ((30 : Int) < L.length) = false := by simp; omega
  by_cases h2 : 60 < D.length
  · have d2 : decide ((60 : Int) < D.length) = true := by simp; omega
    clear h2
    go_enter Try.func5, Try.ntmps5
    go_wp2_with fail
    refine (awake24j_any _).mono ?_
    rintro e w1 ⟨rfl, hB⟩
    go_wp2_with fail
    go_ret
    exact ⟨rfl, hB⟩
  have d2 : decide ((60 : Int) < D.length) = false := by simp; omega
  go_enter Try.func5, Try.ntmps5
  go_wp2_with fail
  refine (awake24j_any _).mono ?_
  rintro e w1 ⟨rfl, hB⟩
  have HF1 := Lib.hid (show Fr [] W w1 from .of hB)
  clear hB
  go_wp2_with fail
  refine (instrs_any _ L gi _ (HL.out.fr HF1.out (by simp)) (by omega)).mono ?_
  rintro e w2 ⟨v', rfl, hown, hB⟩
  obtain ⟨g0, hI0, _⟩ := Ins.of_owns hown
  have HI0 := Lib.hid hI0
  have HF2 := Lib.hid (show Fr [] W w2 from HF1.out.trans (.of hB))
  clear hown hI0 hB
  go_wp2_with fail
  refine (new_any L g0 _ _ HI0.out (by omega)).mono ?_
  rintro e w3 ⟨b, gs, sl, rfl, hP, hI, hg, hb1, hb2, hB⟩
  have hs1 := HF2.out.size
  have hs2 := hB.size
  have HF3 := Lib.hid (show Fr [] W w3 from HF2.out.trans (.of hB))
  have HP3 := Lib.hid hP
  have HI3 := Lib.hid hI
  have HGS := Lib.hid hg
  clear hP hI hB hg
  go_wp2_with fail
  refine (newPlain_any _ _).mono ?_
  rintro e w4 ⟨mb, mg, rfl, hM, hB, hmb, hmg⟩
  have hs3 := hB.size
  have HM4 := Lib.hid hM
  have HP4 := Lib.hid (HP3.out.fr (S := []) (.of hB) (by simp))
  have HI4 := Lib.hid (HI3.out.fr (S := []) (.of hB) (by simp))
  have HF4 := Lib.hid (show Fr [] W w4 from HF3.out.trans (.of hB))
  clear hM hB
  go_wp2_with fail
  refine (lnew_any mb mg _ _ HM4.out).mono ?_
  rintro e w5 ⟨rfl, hLg, hB, _⟩
  have HS0 := Lib.hid (show So W w5 w3.heap.size w4.heap.size mb mg b gs sl L [0, 0, 0, 0] (List.replicate (memn 4) 0) 0 [] (.slice none 0 0) from
    ⟨HP4.out.fr (S := []) (.of hB) (by simp), HI4.out.fr (S := []) (.of hB) (by simp), hLg 0, fun i hi => by
      simp only [lgB, rowB, Value.ownBlock, Option.toList_none, List.mem_cons, List.not_mem_nil, or_false] at hi
      rcases hi with rfl | rfl | rfl <;> omega, (HF4.out.trans (.of hB)).below⟩)
  have HN := Lib.hid (show W.heap.size ≤ b ∧ b < w3.heap.size ∧ (0 < L.length → gs < b) ∧ W.heap.size ≤ w3.heap.size from ⟨by omega, hb2, fun h0 => (HGS.out h0).2, by omega⟩)
  generalize List.replicate (memn 4) (0 : Int) = z0 at *
  generalize w3.heap.size = N at *
  generalize w4.heap.size = lb at *
  clear hLg hB hs1 hs2 hs3 hmb hmg hb1 hb2 HM4 HP4 HI4 HF4 HP3 HI3 HGS HF3 HF2 HF1 HI0
  go_wp2_with fail
  go_loopw [29] (fun i wr => ∃ k : Nat, k ≤ D.length ∧ i = .int .i64 k ∧ ∃ rs zs at' evs lv, evs.length ≤ k ∧ So W wr N lb mb mg b gs sl L rs zs at' evs lv)
    (fun i _ => D.length - (intOf i).toNat)
  case atStart => exact ⟨0, Nat.zero_le _, rfl, _, _, _, _, _, Nat.le_refl _, HS0.out⟩
  case round =>
    obtain ⟨k, hk, rfl, rs, zs, at', evs, lv, hev, hS⟩ := hrel
    have HS := Lib.hid hS
    clear hS HS0
    by_cases hlt : k < D.length
    · obtain ⟨bd, od, rfl, hcd⟩ := HCD.out (by omega)
      have c0 := keepc (hcd k hlt) HS.out.fr
      clear hcd
      generalize intAt D k = d at *
      obtain ⟨n, hn⟩ : ∃ n, n = evs.length := ⟨_, rfl⟩
      have HNL := Lib.hid hn
      have hn60 : n ≤ 60 := by omega
      have hnk : n ≤ k := by omega
      clear hn hev
      go_wp2_with fail
      refine (lcount_n 0 lb mb mg zs evs lv _ (n : Int) (by rw [HNL.out]) HS.out.log).mono ?_
      rintro e w6 ⟨rfl, hww⟩
      subst w6
      go_wp2_with fail
      refine (stepj_any (logJ lb mb mg) (lgB lb mb mg lv) b gs sl L rs zs n at' d _ HS.out.p HS.out.l ⟨evs, lv, HS.out.log, HNL.out.symm, rfl⟩ (by omega) (fun hm => by have := HS.out.new b hm; have := HN.out; omega) (fun h0 hm => by
        have hx := HN.out.2.2.1 h0
        have hy := HN.out.2.1
        rcases List.mem_cons.1 hm with h | h
        · omega
        · have := HS.out.new gs h; omega) (by omega)).mono ?_
      rintro e w7 ⟨rfl, hP, hV⟩
      obtain ⟨S', ⟨evs', lv', hlog, hlen, rfl⟩, hF, hSn⟩ := hV
      have hle := (nxN_le L at' n).2
      have hsz : N ≤ wr.heap.size := by
        have := HS.out.log.lt lb (by simp [lgB])
        have := HS.out.new lb (by simp [lgB])
        omega
      have HS7 := Lib.hid (show So W w7 N lb mb mg b gs sl L (nxR L d rs zs at') (nxZ L rs zs at') (nxA L rs at') evs' lv' from
        ⟨hP, HS.out.l.fr hF (fun h0 hm => by
          have hx := HN.out.2.2.1 h0
          have hy := HN.out.2.1
          rcases List.mem_cons.1 hm with h | h
          · omega
          · have := HS.out.new gs h; omega), hlog, fun i hi => by
            rcases hSn i hi with h | h
            · exact HS.out.new i h
            · omega, ((Fr.of (S := []) HS.out.fr).from hF (fun i hi hl => by
            have hx := HN.out.1
            have hy := HN.out.2.2.2
            rcases List.mem_cons.1 hi with h | h
            · omega
            · have := HS.out.new i h; omega)).below⟩)
      obtain ⟨n2, hn2⟩ : ∃ n2, n2 = evs'.length := ⟨_, rfl⟩
      have hn3 : (n2 : Int) ≤ (n : Int) + 1 := by omega
      have hn4 : n2 ≤ k + 1 := by omega
      have HN2 := Lib.hid hn2
      clear hP hlog hlen hF hSn hle hsz hn2
      go_wp2_with fail
      refine (lcount_n 0 lb mb mg _ evs' lv' _ (n2 : Int) (by rw [HN2.out]) HS7.out.log).mono ?_
      rintro e w8 ⟨rfl, hww⟩
      subst w8
      go_wp2_with fail
      go_roundw
      case rel => exact ⟨k + 1, by omega, by go_num, _, _, _, _, _, by rw [← HN2.out]; exact hn4, HS7.out⟩
      case measure => simp [intOf]; omega
    · obtain rfl : k = D.length := by omega
      have hre := regs_same
      go_wp2_with fail
      refine (stepnone_any _ _ _).mono ?_
      rintro e w6 ⟨rfl, n6, rfl⟩
      go_wp2_with fail
      refine (done_none _).mono ?_
      rintro e w7 ⟨rfl, n7, rfl⟩
      go_wp2_with fail
      refine (at_none _).mono ?_
      rintro e w8 ⟨rfl, hww⟩
      subst w8
      go_wp2_with fail
      refine (regs_none _).mono ?_
      rintro e w9 ⟨rfl, hB⟩
      have F9 := Lib.hid (show Fr [] wr w9 from ((Fr.refl [] wr).drewN (n6 + n7)).trans (.of hB))
      clear hB
      go_wp2_with fail
      have hp0 : Pg (w9.alloc (.cells #[.slice none 0 0, .int .u64 0, .int .u64 0, .int .u64 0, .int .u64 0, .int .i64 0] 60)) w9.heap.size (.slice none 0 0) [0, 0, 0, 0] 0 := ⟨Bk.new w9 _ [_, _, _, _, _, _], rfl⟩
      refine (stepdone_any w9.heap.size 0 (.slice none 0 0) [] [0, 0, 0, 0] 0 _ _ _ hp0 ⟨none, 0, rfl, by simp, by simp⟩ (by decide)).mono ?_
      rintro e w10 ⟨rfl, n10, rfl⟩
      have F10 := Lib.hid (show Fr [] wr ((w9.alloc (.cells #[.slice none 0 0, .int .u64 0, .int .u64 0, .int .u64 0, .int .u64 0, .int .i64 0] 60)).drewN n10) from (F9.out.alloc _).drewN n10)
      clear hp0
      go_wp2_with fail
      refine (stepnil_any b gs sl L rs at' 0 _ (HS.out.p.fr F10.out (by simp)) (HS.out.l.fr F10.out (by simp)) (fun h0 => ⟨by have := HN.out.2.2.1 h0; omega, by
        have h3 := HN.out.2.2.1 h0
        have h4 := HS.out.p.1.lt
        have h5 := F10.out.size
        omega⟩) (by omega)).mono ?_
      rintro e w11 ⟨rfl, hP, hF⟩
      have HP11 := Lib.hid hP
      have F11 := Lib.hid (show Fr [b] wr w11 from (F10.out.mono (by simp)).trans hF)
      have HL11 := Lib.hid (HS.out.l.fr F11.out (fun h0 => by have := HN.out.2.2.1 h0; simp; omega))
      clear hP hF
      go_wp2_with fail
      refine (done_any b gs sl _ L _ _ HP11.out HL11.out).mono ?_
      rintro e w12 ⟨rfl, n12, rfl⟩
      have FIN := Lib.hid (show Below W.heap.size W (w11.drewN n12) from ((Fr.of (S := []) HS.out.fr).from (F11.out.drewN n12) (fun i hi hl => by have := HN.out.1; have := List.mem_singleton.1 hi; omega)).below)
      generalize dn L (nxA L rs at') = dd at *
      cases dd
      all_goals
        go_wp2_with fail
        go_ret
        exact ⟨ret_bool (by first | rfl | simp), FIN.out⟩


end Go.Proofs.Ythidinalhbnmmaa
