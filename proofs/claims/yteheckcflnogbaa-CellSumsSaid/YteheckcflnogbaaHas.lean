/-
  wordset.Has: contract over a slice of words.
-/
import Derived.Test.YteheckcflnogbaaWords
import Derived.Laws.BitsLemmas
import Derived.Laws.Bits64
namespace Go.Proofs.Yteheckcflnogbaa
open Go.RowKit

/-- A slice of words that may be read. -/
def Ws (w : World) (v : Value) (zs : List Nat) : Prop :=
  (∀ z ∈ zs, z < 18446744073709551616) ∧ ((v = .slice none 0 0 ∧ zs = []) ∨ ∃ (a : Addr) (cap : Nat), v = .slice (some a) zs.length cap ∧ ∀ i, i < zs.length → w.cell? (a.add i) = some (.int .u64 (zs[i]?.getD 0 : Nat)))
/-- Is a number in a set? -/
def hasE (zs : List Nat) (n : Int) : Bool := decide (0 ≤ n) && (decide (n / 64 < zs.length) && ((zs[(n / 64).toNat]?.getD 0)).testBit (n % 64).toNat)

theorem wraps_u64 (n : Int) (h0 : 0 ≤ n) (h1 : n < 2 ^ 64) : IntKind.u64.wrap n = n := by rw [IntKind.wrap_u64]; omega
theorem bit_one (z k : Nat) (hz : z < 18446744073709551616) : (bits .and .u64 ((z : Int) / 2 ^ k) 1 == 1) = z.testBit k := by
  have h1 : z / 2 ^ k < 18446744073709551616 := Nat.lt_of_le_of_lt (Nat.div_le_self _ _) hz
  have e : ((z : Int) / 2 ^ k) = ((z / 2 ^ k : Nat) : Int) := by
    rw [Int.natCast_ediv, Int.natCast_pow]; rfl
  have h := (bits_nat .u64 64 (by decide) wraps_u64 (z / 2 ^ k) 1 (by omega) (by decide)).1
  rw [e, show (1 : Int) = ((1 : Nat) : Int) from rfl, h, Nat.and_one_is_mod, Nat.testBit_eq_decide_div_mod_eq]
  clear e h h1
  generalize z / 2 ^ k = y
  rw [Bool.eq_iff_iff]
  simp only [beq_iff_eq, decide_eq_true_eq]
  omega


theorem rhas10_any (n : Int) (v : Value) (zs : List Nat) (w : World) (hw : Ws w v zs) (h0 : -9223372036854775808 ≤ n ∧ n ≤ 9223372036854775807) :
    Calls Try.prog 160 #[v, .int .i64 n] w fun e w' => e = .returned (.bool (hasE zs n)) ∧ w' = w := by
  by_cases hn : 0 ≤ n
  · have e0 : decide (0 ≤ n) = true := by simpa using hn
    have e1 : n.tdiv 64 = n / 64 := Int.tdiv_eq_ediv_of_nonneg hn
    have e3 : n.tmod 64 = n % 64 := Int.tmod_eq_emod_of_nonneg hn
    obtain ⟨hz, hw⟩ := hw
    rcases hw with ⟨rfl, rfl⟩ | ⟨a, cap, rfl, hc⟩
    · have Hr := Lib.hid (show hasE [] n = false by simp [hasE])
      have e2 : decide (n / 64 < 0) = false := by simp; omega
      go_enter Try.func160, Try.ntmps160
      go_wp2
      go_ret
      exact ⟨ret_bool Hr.out.symm, rfl⟩
    · by_cases hi : n / 64 < zs.length
      · have e2 : decide (n / 64 < (zs.length : Int)) = true := by simpa using hi
        replace hc := hc (n / 64).toNat (by omega)
        have Hr := Lib.hid (show hasE zs n = ((zs[(n / 64).toNat]?.getD 0)).testBit (n % 64).toNat by unfold hasE; rw [e0, e2]; simp)
        have hz := Lib.hid (hz (zs[(n / 64).toNat]?.getD 0) (by rw [List.getElem?_eq_getElem (by omega)]; exact List.getElem_mem _))
        generalize (zs[(n / 64).toNat]?.getD 0) = z at *
        have i0 : (0 : Int) ≤ n / 64 := by omega
        have i1 : (0 : Int) ≤ n % 64 := by omega
        have i2 : n % 64 < 64 := by omega
        go_enter Try.func160, Try.ntmps160
        go_wp2
        go_ret
        refine ⟨ret_bool ?_, rfl⟩
        rw [Hr.out]
        exact bit_one _ _ hz.out
      · have Hr := Lib.hid (show hasE zs n = false by simp [hasE]; omega)
        have e2 : decide (n / 64 < (zs.length : Int)) = false := by simp; omega
        clear hi
        go_enter Try.func160, Try.ntmps160
        go_wp2
        go_ret
        exact ⟨ret_bool Hr.out.symm, rfl⟩
  · have Hr := Lib.hid (show hasE zs n = false by simp [hasE]; omega)
    have e0 : decide (0 ≤ n) = false := by simpa using hn
    clear hn
    go_enter Try.func160, Try.ntmps160
    go_wp2
    go_ret
    exact ⟨ret_bool Hr.out.symm, rfl⟩

theorem ws_len {w : World} {v : Value} {zs : List Nat} (h : Ws w v zs) : ∃ p cap, v = .slice p zs.length cap := by
  rcases h.2 with ⟨rfl, rfl⟩ | ⟨a, cap, rfl, _⟩
  · exact ⟨_, _, rfl⟩
  · exact ⟨_, _, rfl⟩
theorem Ws.below {w w' : World} {v : Value} {zs : List Nat} (h : Ws w v zs) (k : Below w.heap.size w w') : Ws w' v zs := by
  refine ⟨h.1, ?_⟩
  rcases h.2 with h | ⟨a, cap, rfl, hc⟩
  · exact .inl h
  · exact .inr ⟨a, cap, rfl, fun i hi => keepc (hc i hi) k⟩

end Go.Proofs.Yteheckcflnogbaa
