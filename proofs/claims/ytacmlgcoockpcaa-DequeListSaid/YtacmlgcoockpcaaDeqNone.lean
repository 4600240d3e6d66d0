/-
  soughlaw27: awake; what nobody made; DequeNone: the walk.
-/
import Derived.Test.YtacmlgcoockpcaaPushAll
import Derived.Test.YtacmlgcoockpcaaDeqList
namespace Go.Proofs.Ytacmlgcoockpcaa
open Go.RowKit

theorem words_any (n : Int) (w : World) : Calls Try.prog 26 #[.int .i64 n] w fun e w' => e = .returned (.int .i64 (2 + roomv n)) ∧ w' = w := by
  have hr := roomv_bd n
  go_enter Try.func26, Try.ntmps26
  go_wp2_with fail
  refine (room_any _ _).mono ?_
  rintro e w1 ⟨rfl, rfl⟩
  go_wp2_with fail
  go_ret
  exact ⟨rfl, rfl⟩
theorem rroom_any (n : Int) (w : World) : Calls Try.prog 29 #[.int .i64 n] w fun e w' => e = .returned (.int .i64 (roomv n)) ∧ w' = w := by
  rcases (show (n < 1 ∧ roomv n = 1) ∨ (1 ≤ n ∧ n ≤ 4096 ∧ roomv n = n) ∨ (4096 < n ∧ roomv n = 4096) from by unfold roomv; omega) with ⟨h, hr⟩ | ⟨h, h', hr⟩ | ⟨h, hr⟩
  all_goals
    have Hr := Lib.hid hr
    clear hr
    go_enter Try.func29, Try.ntmps29
    go_wp2
    go_ret
    exact ⟨ret_int Hr.out.symm, rfl⟩
set_option maxRecDepth 100000 in
theorem push_none (v : Value) (d : Int) (w : World) : Calls Try.prog 30 #[.pointer none, v, .int .i64 d] w fun e w' => e = .returned (.bool true) ∧ w' = w := by
  go_enter Try.func30, Try.ntmps30
  go_wp2_with fail
  refine wp_scope_via 3 ?_
  go_wp2_with fail
  rw [via_ret]
  go_ret
  exact ⟨rfl, rfl⟩
set_option maxRecDepth 100000 in
theorem pop_none (v : Value) (d : Int) (w : World) : Calls Try.prog 31 #[.pointer none, v, .int .i64 d] w fun e w' => e = .returned (.bool true) ∧ w' = w := by
  go_enter Try.func31, Try.ntmps31
  go_wp2_with fail
  refine wp_scope_via 3 ?_
  go_wp2_with fail
  rw [via_ret]
  go_ret
  exact ⟨rfl, rfl⟩
set_option maxRecDepth 100000 in
theorem steal_none (v : Value) (d : Int) (w : World) : Calls Try.prog 32 #[.pointer none, v, .int .i64 d] w fun e w' => e = .returned (.bool true) ∧ w' = w := by
  go_enter Try.func32, Try.ntmps32
  go_wp2_with fail
  refine wp_scope_via 3 ?_
  go_wp2_with fail
  rw [via_ret]
  go_ret
  exact ⟨rfl, rfl⟩

/-- The machine of the chapter's example, and the words, behind each Step. -/
def exS : Nat → DS × List Int
  | 0 => (⟨0, 4, 7, false, false, 0, 0, 0, 0, false⟩, [1, 1, 0, 0, 0, 0])
  | k + 1 => (pushS (exS k).1 (exS k).2, pushZ (exS k).1 (exS k).2)

set_option maxHeartbeats 3200000 in
set_option maxRecDepth 100000 in
theorem awake27_any (w : World) : Calls Try.prog 16 #[] w fun e w' => e = .returned (.bool true) ∧ Below w.heap.size w w' := by
  go_enter Try.func16, Try.ntmps16
  go_wp2_with fail
  refine (newPlain_any _ _).mono ?_
  rintro e w1 ⟨mb, mg, rfl, hP, hB, hb, hg⟩
  rw [show List.replicate (memn 6) (0 : Int) = [0, 0, 0, 0, 0, 0] from rfl] at hP
  have HM1 := Lib.hid hP
  have HB1 := Lib.hid hB
  have hbl := hP.1.lt
  have hgl := hP.2.1.lt
  clear hP hB
  go_wp2_with fail
  have F2 : Fr [] w1 (w1.alloc (.cells #[.int .i64 0, .int .i64 4] 44)) := (Fr.refl [] w1).alloc _
  have HD2 := Lib.hid (Bk.new w1 44 [.int .i64 0, .int .i64 4])
  have HM2 := Lib.hid ((plainI mb mg).keep [] _ 0 _ _ HM1.out F2 (by simp))
  have HF2 := Lib.hid ((Fr.of (S := []) HB1.out).trans F2)
  clear F2
  refine (reset_any (plainI mb mg) 0 4 _ 0 _ HM2.out).mono ?_
  rintro e w3 ⟨rfl, ⟨m3, hM⟩, hF⟩
  rw [show stv (stv [0, 0, 0, 0, 0, 0] 0 1) (wrap64 (0 + 1)) 1 = [1, 1, 0, 0, 0, 0] from by kernel_rfl] at hM
  have HM3 := Lib.hid (show Pm w3 mb mg [1, 1, 0, 0, 0, 0] from hM)
  have hs3 := hF.size
  simp only [World.size_alloc] at hs3
  have HD3 := Lib.hid (HD2.out.fr hF (by simp; omega))
  have HF3 := Lib.hid (HF2.out.from hF (by simp; omega))
  have q0 : w3.cell? ⟨w1.heap.size, 0, none⟩ = some (.int .i64 0) := HD3.out.cell 0
  have q1 : w3.cell? ⟨w1.heap.size, 1, none⟩ = some (.int .i64 4) := HD3.out.cell 1
  clear hM hF
  go_wp2_with fail
  have F4 : Fr [] w3 (w3.alloc (.cells #[.int .i64 0, .int .i64 4, .int .u64 7, .bool false, .bool false, .int .i64 0, .int .u64 0, .int .u64 0, .int .u64 0, .bool false] 66)) := (Fr.refl [] w3).alloc _
  have HP4 := Lib.hid (show Dq 66 (w3.alloc (.cells #[.int .i64 0, .int .i64 4, .int .u64 7, .bool false, .bool false, .int .i64 0, .int .u64 0, .int .u64 0, .int .u64 0, .bool false] 66)) w3.heap.size (exS 0).1 from Bk.new _ _ [_, _, _, _, _, _, _, _, _, _])
  have HM4 := Lib.hid ((plainI mb mg).keep [] _ 0 _ _ HM3.out F4 (by simp))
  have HD4 := Lib.hid (HD3.out.fr F4 (by simp))
  have HF4 := Lib.hid (HF3.out.trans F4)
  clear F4 q0 q1
  obtain ⟨d, hd⟩ : ∃ d, d = w1.heap.size := ⟨_, rfl⟩
  obtain ⟨a, ha⟩ : ∃ a, a = w3.heap.size := ⟨_, rfl⟩
  rw [← hd] at HD4
  rw [← ha] at HP4
  have NE := Lib.hid (show w.heap.size ≤ mb ∧ w.heap.size ≤ mg ∧ mb < d ∧ mg < d ∧ d < a by omega)
  rw [← hd, ← ha]
  have HDE := Lib.hid hd
  clear hd ha hbl hgl hb hg hs3 HM1 HB1 HD2 HM2 HF2 HM3 HD3 HF3
  go_wp2_with fail
  go_loopw [4] (fun nv wr => ∃ i : Nat, 1 ≤ i ∧ i ≤ 4 ∧ nv = .int .i64 i ∧ Dq 66 wr a (exS (i - 1)).1 ∧ Pm wr mb mg (exS (i - 1)).2 ∧ Bk wr d 44 [.int .i64 0, .int .i64 4] ∧ Below w.heap.size w wr)
    (fun nv _ => 5 - (intOf nv).toNat)
  case atStart => exact ⟨1, by omega, by omega, rfl, HP4.out, HM4.out, HD4.out, HF4.out.below⟩
  case round =>
    obtain ⟨i, hi1, hi2, rfl, hP, hM, hD, hB⟩ := hrel
    have HP := Lib.hid hP
    have HM := Lib.hid hM
    have HD := Lib.hid hD
    have HB := Lib.hid hB
    clear hP hM hD hB
    have N := NE.out
    go_wp2_with fail
    refine (push_any (plainI mb mg) a (exS (i - 1)).1 (exS (i - 1)).2 0 0 _ HP.out HM.out (by simp; omega)).mono ?_
    rintro e w5 ⟨rfl, hP, ⟨m5, _, hM⟩, hF⟩
    have HP5 := Lib.hid (show Dq 66 w5 a (exS (i - 1 + 1)).1 from hP)
    have HM5 := Lib.hid (show Pm w5 mb mg (exS (i - 1 + 1)).2 from hM)
    have HD5 := Lib.hid (HD.out.fr hF (by simp; omega))
    have HF5 := Lib.hid ((Fr.of (S := []) HB.out).from hF (by simp; omega))
    rw [Nat.sub_add_cancel hi1] at HP5 HM5
    clear hP hM hF N
    rcases (show i = 1 ∨ i = 2 ∨ i = 3 ∨ i = 4 by omega) with rfl | rfl | rfl | rfl
    · rw [show (pushS (exS (1 - 1)).1 (exS (1 - 1)).2).ended = false from by kernel_rfl]
      go_wp2_with fail
      go_roundw
      case rel => exact ⟨2, by omega, by omega, rfl, HP5.out, HM5.out, HD5.out, HF5.out.below⟩
      case measure => simp [intOf]
    · rw [show (pushS (exS (2 - 1)).1 (exS (2 - 1)).2).ended = false from by kernel_rfl]
      go_wp2_with fail
      go_roundw
      case rel => exact ⟨3, by omega, by omega, rfl, HP5.out, HM5.out, HD5.out, HF5.out.below⟩
      case measure => simp [intOf]
    · rw [show (pushS (exS (3 - 1)).1 (exS (3 - 1)).2).ended = false from by kernel_rfl]
      go_wp2_with fail
      go_roundw
      case rel => exact ⟨4, by omega, by omega, rfl, HP5.out, HM5.out, HD5.out, HF5.out.below⟩
      case measure => simp [intOf]
    · rw [show (pushS (exS (4 - 1)).1 (exS (4 - 1)).2).ended = true from by kernel_rfl]
      have k3 : w5.cell? ⟨a, 3, none⟩ = some (.bool true) := by have h := Bk.cell HP5.out 3; rwa [show (dcells (exS 4).1)[3]? = some (.bool true) from by kernel_rfl] at h
      have HM6 := Lib.hid (show Pm w5 mb mg [1, 2, 0, 7, 0, 0] from by have h := HM5.out; rwa [show (exS 4).2 = [1, 2, 0, 7, 0, 0] from by kernel_rfl] at h)
      have q0 : w5.cell? ⟨d, 0, none⟩ = some (.int .i64 0) := HD5.out.cell 0
      have q1 : w5.cell? ⟨d, 1, none⟩ = some (.int .i64 4) := HD5.out.cell 1
      go_wp2_with fail
      refine (list_any mb mg 0 4 _ _ HM6.out).mono ?_
      rintro e w6 ⟨v6, K, rfl, hU, hK, hj, he, hB⟩
      obtain rfl : K = 1 := by
        have t0 : abv (ldv [1, 2, 0, 7, 0, 0] (wrap64 (0 + 1))) (tk (ldv [1, 2, 0, 7, 0, 0] 0) 0) = true := by kernel_rfl
        have t1 : abv (ldv [1, 2, 0, 7, 0, 0] (wrap64 (0 + 1))) (tk (ldv [1, 2, 0, 7, 0, 0] 0) 1) = false := by kernel_rfl
        rcases (show K = 0 ∨ K = 1 ∨ 2 ≤ K by omega) with rfl | h | h
        · rcases he with h | h
          · exfalso; unfold roomv at h; omega
          · rw [t0] at h; cases h
        · exact h
        · have := hj 1 (by omega)
          rw [t1] at this; cases this
      rw [show lk [1, 2, 0, 7, 0, 0] 0 4 (ldv [1, 2, 0, 7, 0, 0] 0) 1 = [7] from by kernel_rfl] at hU
      have HU6 := Lib.hid hU
      have HF6 := Lib.hid (show Fr [] w5 w6 from .of hB)
      obtain ⟨o6, c6, rfl, _⟩ := hU
      replace q0 := keepc q0 hB
      replace q1 := keepc q1 hB
      have HM7 := Lib.hid (HM6.out.below hB)
      clear hK hj he hB k3
      go_wp2_with fail
      refine (list_any mb mg 0 4 _ _ HM7.out).mono ?_
      rintro e w7 ⟨v7, K, rfl, hU, hK, hj, he, hB⟩
      obtain rfl : K = 1 := by
        have t0 : abv (ldv [1, 2, 0, 7, 0, 0] (wrap64 (0 + 1))) (tk (ldv [1, 2, 0, 7, 0, 0] 0) 0) = true := by kernel_rfl
        have t1 : abv (ldv [1, 2, 0, 7, 0, 0] (wrap64 (0 + 1))) (tk (ldv [1, 2, 0, 7, 0, 0] 0) 1) = false := by kernel_rfl
        rcases (show K = 0 ∨ K = 1 ∨ 2 ≤ K by omega) with rfl | h | h
        · rcases he with h | h
          · exfalso; unfold roomv at h; omega
          · rw [t0] at h; cases h
        · exact h
        · have := hj 1 (by omega)
          rw [t1] at this; cases this
      rw [show lk [1, 2, 0, 7, 0, 0] 0 4 (ldv [1, 2, 0, 7, 0, 0] 0) 1 = [7] from by kernel_rfl] at hU
      have HF7 := Lib.hid (show Fr [] w6 w7 from .of hB)
      obtain ⟨o7, c7, rfl, hc7⟩ := hU
      obtain ⟨b7, f7, rfl, hd7⟩ := hc7 (by simp)
      have r7 : w7.cell? ⟨b7, f7, none⟩ = some (.int .u64 7) := hd7 0 (by simp)
      clear hK hj he hB hc7 hd7
      go_wp2_with fail
      go_ret
      exact ⟨rfl, ((HF5.out.trans HF6.out).trans HF7.out).below⟩

theorem deqNone_walk (room : Int) (W : World) :
    Calls Try.prog 6 #[.int .i64 room] W fun e w' => e = .returned (.bool true) ∧ Below W.heap.size W w' := by
  have hr := roomv_bd room
  go_enter Try.func6, Try.ntmps6
  go_wp2_with fail
  refine (awake27_any _).mono ?_
  rintro e w1 ⟨rfl, hB⟩
  have HB := Lib.hid hB
  clear hB
  go_wp2_with fail
  refine (push_none _ _ _).mono ?_
  rintro e w2 ⟨rfl, rfl⟩
  go_wp2_with fail
  refine (pop_none _ _ _).mono ?_
  rintro e w3 ⟨rfl, rfl⟩
  go_wp2_with fail
  refine (steal_none _ _ _).mono ?_
  rintro e w4 ⟨rfl, rfl⟩
  go_wp2_with fail
  refine (words_any _ _).mono ?_
  rintro e w5 ⟨rfl, rfl⟩
  go_wp2_with fail
  refine (rroom_any _ _).mono ?_
  rintro e w6 ⟨rfl, rfl⟩
  go_wp2_with fail
  go_ret
  exact ⟨rfl, HB.out⟩

end Go.Proofs.Ytacmlgcoockpcaa
