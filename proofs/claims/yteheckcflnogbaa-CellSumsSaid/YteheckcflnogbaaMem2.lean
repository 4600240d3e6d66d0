/-
  mem.NewPlain, Len; what nobody made.
-/
import Derived.Test.YteheckcflnogbaaMem
import Derived.Deep.OwnRows
namespace Go.Proofs.Yteheckcflnogbaa
open Go.RowKit

/-- How many words a new memory has. -/
def memn (n : Int) : Nat := (min (max n 0) 1048576).toNat
theorem memn_le (n : Int) : memn n ≤ 1048576 := by unfold memn; omega

theorem u64_info : (Try.prog.info? 29).map (fun i => (i.zero, i.size, i.bytes)) = some (some (.int .u64 0), 1, 8) := by kernel_rfl

theorem madeCells_one (n : Nat) : madeCells #[Value.int .u64 0] n = (List.replicate n (Value.int .u64 0)).toArray := by
  rw [← Array.toList_inj, toList_madeCells_one]

theorem newSize_any (n : Int) (w : World) :
    Calls Try.prog 124 #[.int .i64 n] w fun e w' => e = .returned (.agg #[.int .i64 (memn n)]) ∧ Below w.heap.size w w' := by
  rcases (show (n < 0 ∧ memn n = 0) ∨ (0 ≤ n ∧ n ≤ 1048576 ∧ (memn n : Int) = n) ∨ (1048576 < n ∧ memn n = 1048576) from by unfold memn; omega) with ⟨h, hr⟩ | ⟨h, h', hr⟩ | ⟨h, hr⟩
  all_goals
    have Hr := Lib.hid hr
    clear hr
    go_enter Try.func124, Try.ntmps124
    go_wp2
    refine bodyPost_ret (v := .agg #[.int .i64 (memn n)]) ?_ rfl ⟨rfl, (Below.refl _ _).alloc (Nat.le_refl _) _⟩
    rw [Hr.out]
    simp [results, Try.results124, go_sem]

theorem newPlain_any (n : Int) (w : World) :
    Calls Try.prog 49 #[.int .i64 n] w fun e w' => ∃ b g, e = .returned (.pointer (some ⟨b, 0, none⟩)) ∧ Pm w' b g (List.replicate (memn n) 0) ∧ Below w.heap.size w w' ∧ w.heap.size ≤ b ∧ w.heap.size ≤ g := by
  have hl := memn_le n
  have hmk := run_make_row' (P := Try.prog) 22 29 (.int .u64 0) 8 Try.underlying22 u64_info rfl .i64 .i64 (memn n) (by omega) (by omega)
  go_enter Try.func49, Try.ntmps49
  go_wp2_with fail
  refine (newSize_any _ _).mono ?_
  rintro e w1 ⟨rfl, hB⟩
  go_wp2_with fail
  go_region
  go_wp2
  go_ret
  refine ⟨_, w1.heap.size + 1, rfl, ⟨?_, ?_, ?_⟩, (((hB.alloc hB.size _).alloc (by have := hB.size; simp; omega) _).alloc (by have := hB.size; simp; omega) _).drew, ?_, ?_⟩
  · rw [List.length_replicate]
    exact (Bk.new' _ _ [_, _] (by simp)).drew
  · rw [List.map_replicate]
    have e := Bk.new' (w1.alloc (Obj.cells #[Value.int IntKind.i64 ↑(memn n)] 195)) 29 (List.replicate (memn n) (.int .u64 0)) (g := w1.heap.size + 1) (by simp)
    rw [madeCells_one]
    exact (e.alloc _).drew
  · rw [List.length_replicate]; exact hl
  · have := hB.size; omega
  · have := hB.size; omega

end Go.Proofs.Yteheckcflnogbaa
