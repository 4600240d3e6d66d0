/-
  Layer 37's draws: the contracts of threads.Draws, soughref37.Draws, soughref07.Ints and soughlaw37.awake.
-/
import Derived.Test.YtgjcfmkaeffffaaDrawsM
import Derived.WalkKit
import Derived.Lib.Hide
import Derived.Test.YtgjcfmkaeffffaaInts
import Derived.Maps.AppendAt
namespace Go.Proofs.Ytgjcfmkaeffffaa
open Go.RowKit

theorem Dr.infoI : (Try.prog.info? 3).map (fun i => (i.zero, i.size, i.bytes)) = some (some (.int .i64 0), 1, 8) := by kernel_rfl

theorem Dr.u64_nonneg (a : Int) : 0 ≤ IntKind.u64.wrap a := by
  unfold IntKind.wrap; simp [IntKind.bits, IntKind.signed]; omega

/-- What a round of either loop does to what has been gathered. -/
theorem Dr.rel_step {w wr w1 : World} {x : Int} {k : Nat} {v v' : Value} (hB : Below w.heap.size w wr)
    (hown : wr.ownsRow w.heap.size 3 1 v k ((Dr.out x k).map (Value.int .i64)))
    (o : Obj) (hown' : w1.ownsRow w.heap.size 3 1 v' (k + 1) ((Dr.out x k).map (Value.int .i64) ++ [.int .i64 (Dr.st x (k + 1) / 65536)]))
    (hgrow : (wr.alloc o).grownBy w1 v.ownBlock) :
    w1.ownsRow w.heap.size 3 1 v' (k + 1) ((Dr.out x (k + 1)).map (Value.int .i64)) ∧ Below w.heap.size w w1 := by
  refine ⟨by simpa [Dr.out] using hown', ?_⟩
  exact (hB.alloc hB.size _).grown hgrow (Nat.le_trans hB.size (by simp)) (fun k hk => (hown.lt k hk).1)

set_option maxHeartbeats 1600000 in
set_option maxRecDepth 100000 in
theorem Dr.draws_any (a0 a1 : Int) (w : World) (n : Nat) (hn1 : a1 < 0 → (n : Int) ≤ 0) (hn2 : 0 ≤ a1 → a1 ≤ 4096 → a1 ≤ n ∧ n ≤ a1) (hn3 : 4096 < a1 → 4096 ≤ n ∧ n ≤ 4096) :
    Calls Try.prog 18 #[.int .i64 a0, .int .i64 a1] w fun e w' => ∃ v, e = .returned v ∧ w'.ownsRow w.heap.size 3 1 v n ((Dr.out (IntKind.u64.wrap a0 % 2147483648) n).map (Value.int .i64)) ∧ Below w.heap.size w w' := by
  obtain ⟨i0, hi, hz0, hz1, hz2⟩ := info_parts Dr.infoI
  have hw0 := Dr.u64_nonneg a0
  have hn : n ≤ 4096 := by omega
  have hx : 0 ≤ IntKind.u64.wrap a0 % 2147483648 ∧ IntKind.u64.wrap a0 % 2147483648 < 2147483648 := by omega
  have Hx := Lib.hid hx
  clear hx
  rcases (show (a1 < 0 ∧ (n : Int) ≤ 0) ∨ (0 ≤ a1 ∧ a1 ≤ 4096 ∧ a1 ≤ n ∧ n ≤ a1) ∨ (4096 < a1 ∧ 4096 ≤ n ∧ n ≤ 4096) from by omega) with ⟨h, h1⟩ | ⟨h, h', h1, h2⟩ | ⟨h, h1, h2⟩
  all_goals
    clear hn1 hn2 hn3
    go_enter Try.func18, Try.ntmps18
    go_wp2
    go_loopw [5, 6, 13] (fun x v i wr => ∃ k : Nat, k ≤ n ∧ i = .int .i64 k ∧ x = .int .u64 (Dr.st (IntKind.u64.wrap a0 % 2147483648) k) ∧ wr.ownsRow w.heap.size 3 1 v k ((Dr.out (IntKind.u64.wrap a0 % 2147483648) k).map (Value.int .i64)) ∧ Below w.heap.size w wr)
      (fun _ _ i _ => n - (intOf i).toNat)
    case atStart => exact ⟨0, Nat.zero_le _, rfl, rfl, World.ownsRow_nil _ _ _ _, Below.refl _ _⟩
    case round =>
      obtain ⟨k, hk, rfl, rfl, hown, hB⟩ := hrel
      have hb := Dr.st_bd _ Hx.out k
      by_cases hlt : k < n
      · try (exfalso; omega)
        all_goals
          go_wp2_with (at_builtin; refine wpList_append_own _ rfl _ _ 32 rfl w.heap.size 3 i0 (.int .i64 0) 1 8 Try.underlying32 hi hz0 hz1 hz2 rfl (by decide) _ _ _ rfl (hown.alloc _) ⟨wr.heap.size, 0, none⟩ 1 1 [.int .i64 ((Dr.st (IntKind.u64.wrap a0 % 2147483648) k * 1103515245 + 12345) % 2147483648 / 65536)] rfl rfl (cell_one_new _ _ _) (by simp [Value.oneCell']) (by unfold maxLen; omega) (by omega) (by have := hB.size; simp; omega) ?_; intro v' w1 hown' hgrow _)
          have R := Dr.rel_step hB hown _ hown' hgrow
          clear hown' hgrow hown hB
          go_wp2
          go_roundw
          case rel => exact ⟨k + 1, by omega, by go_num, rfl, R.1, R.2⟩
          case measure => simp [intOf]; omega
      · obtain rfl : k = n := by omega
        go_wp2
        go_ret
        exact ⟨_, rfl, hown, hB⟩

set_option maxHeartbeats 1600000 in
set_option maxRecDepth 100000 in
theorem Dr.ref_any (a0 a1 : Int) (w : World) (n : Nat) (hn1 : a1 < 0 → (n : Int) ≤ 0) (hn2 : 0 ≤ a1 → a1 ≤ 4096 → a1 ≤ n ∧ n ≤ a1) (hn3 : 4096 < a1 → 4096 ≤ n ∧ n ≤ 4096) :
    Calls Try.prog 19 #[.int .i64 a0, .int .i64 a1] w fun e w' => ∃ v, e = .returned v ∧ w'.ownsRow w.heap.size 3 1 v n ((Dr.out (IntKind.u64.wrap a0 % 2147483648) n).map (Value.int .i64)) ∧ Below w.heap.size w w' := by
  obtain ⟨i0, hi, hz0, hz1, hz2⟩ := info_parts Dr.infoI
  have hw0 := Dr.u64_nonneg a0
  have hn : n ≤ 4096 := by omega
  have hx : 0 ≤ IntKind.u64.wrap a0 % 2147483648 ∧ IntKind.u64.wrap a0 % 2147483648 < 2147483648 := by omega
  have Hx := Lib.hid hx
  clear hx
  have h1 : a1 ≤ n ∨ 4096 ≤ n := by omega
  have h2 : (n : Int) ≤ a1 ∨ (n : Int) ≤ 0 := by omega
  clear hn1 hn2 hn3
  go_enter Try.func19, Try.ntmps19
  go_wp2
  go_loopw [5, 6, 7] (fun v x i wr => ∃ k : Nat, k ≤ n ∧ i = .int .i64 k ∧ x = .int .u64 (Dr.st (IntKind.u64.wrap a0 % 2147483648) k) ∧ wr.ownsRow w.heap.size 3 1 v k ((Dr.out (IntKind.u64.wrap a0 % 2147483648) k).map (Value.int .i64)) ∧ Below w.heap.size w wr)
    (fun _ _ i _ => n - (intOf i).toNat)
  case atStart => exact ⟨0, Nat.zero_le _, rfl, rfl, World.ownsRow_nil _ _ _ _, Below.refl _ _⟩
  case round =>
    obtain ⟨k, hk, rfl, rfl, hown, hB⟩ := hrel
    have hb := Dr.st_bd _ Hx.out k
    by_cases hlt : k < n
    · have hlt1 : (k : Int) < a1 := by omega
      have hlt2 : (k : Int) < 4096 := by omega
      go_wp2_with (at_builtin; refine wpList_append_own _ rfl _ _ 32 rfl w.heap.size 3 i0 (.int .i64 0) 1 8 Try.underlying32 hi hz0 hz1 hz2 rfl (by decide) _ _ _ rfl (hown.alloc _) ⟨wr.heap.size, 0, none⟩ 1 1 [.int .i64 ((Dr.st (IntKind.u64.wrap a0 % 2147483648) k * 1103515245 + 12345) % 2147483648 / 65536)] rfl rfl (cell_one_new _ _ _) (by simp [Value.oneCell']) (by unfold maxLen; omega) (by omega) (by have := hB.size; simp; omega) ?_; intro v' w1 hown' hgrow _)
      have R := Dr.rel_step hB hown _ hown' hgrow
      clear hown' hgrow hown hB
      go_wp2
      go_roundw
      case rel => exact ⟨k + 1, by omega, by go_num, rfl, R.1, R.2⟩
      case measure => simp [intOf]; omega
    · obtain rfl : k = n := by omega
      by_cases hlt1 : (k : Int) < a1
      · have hlt2 : ¬ (k : Int) < 4096 := by omega
        go_wp2
        go_ret
        exact ⟨_, rfl, hown, hB⟩
      · go_wp2
        go_ret
        exact ⟨_, rfl, hown, hB⟩

set_option maxHeartbeats 1600000 in
set_option maxRecDepth 100000 in
theorem Dr.awake_any (w : World) : Calls Try.prog 16 #[] w fun e w' => e = .returned (.bool true) ∧ Below w.heap.size w w' := by
  go_enter Try.func16, Try.ntmps16
  go_wp2_with fail
  refine (Dr.draws_any 0 1 w 1 (by omega) (by omega) (by omega)).mono ?_
  rintro e w1 ⟨v, rfl, hown, hB⟩
  have hB0 := Lib.hid hB
  have hI := IntsAt.of_owns hown
  have hd : Dr.out (IntKind.u64.wrap 0 % 2147483648) 1 = [0] := by decide
  rw [hd] at hI
  clear hown hB hd
  obtain ⟨o, c, rfl, hc⟩ := hI
  obtain ⟨b, f, rfl, hd⟩ := hc (by simp)
  have hc0 : w1.cell? ⟨b, f, none⟩ = some (.int .i64 0) := hd 0 (by simp)
  clear hc hd
  go_wp2
  go_ret
  exact ⟨rfl, hB0.out⟩

end Go.Proofs.Ytgjcfmkaeffffaa
