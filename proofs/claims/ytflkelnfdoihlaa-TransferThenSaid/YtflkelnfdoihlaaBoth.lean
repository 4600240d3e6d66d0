/-
  wordset.both with its three closures: Union, Inter, Minus; Within: contracts.
-/
import Derived.Test.YtflkelnfdoihlaaHas
import Derived.Test.YtflkelnfdoihlaaLen
import Derived.Test.YtflkelnfdoihlaaBlk
import Derived.Deep.OwnRows
namespace Go.Proofs.Ytflkelnfdoihlaa
open Go.RowKit

def wAt (zs : List Nat) (i : Nat) : Nat := zs[i]?.getD 0
/-- Two sets word by word. -/
def bothE (f : Nat → Nat → Nat) (xs ys : List Nat) : List Nat := (List.range (max xs.length ys.length)).map fun i => f (wAt xs i) (wAt ys i)
theorem bothE_len (f : Nat → Nat → Nat) (xs ys : List Nat) : (bothE f xs ys).length = max xs.length ys.length := by simp [bothE]
/-- The first k of them, and nothing behind. -/
def bothK (f : Nat → Nat → Nat) (xs ys : List Nat) (n k : Nat) : List Value := (List.range n).map fun i => .int .u64 (if i < k then f (wAt xs i) (wAt ys i) else 0 : Nat)
theorem bothK_zero (f : Nat → Nat → Nat) (xs ys : List Nat) (n : Nat) : bothK f xs ys n 0 = List.replicate n (.int .u64 0) := by
  refine List.ext_getElem (by simp [bothK]) fun i h1 h2 => ?_
  simp [bothK]
theorem bothK_at (f : Nat → Nat → Nat) (xs ys : List Nat) (n k i : Nat) (h : i < n) : (bothK f xs ys n k)[i]? = some (.int .u64 (if i < k then f (wAt xs i) (wAt ys i) else 0 : Nat)) := by
  simp [bothK, h]
theorem bothK_step (f : Nat → Nat → Nat) (xs ys : List Nat) (n k : Nat) (_h : k < n) : (bothK f xs ys n k).set k (.int .u64 (f (wAt xs k) (wAt ys k) : Nat)) = bothK f xs ys n (k + 1) := by
  refine List.ext_getElem (by simp [bothK]) fun i h1 h2 => ?_
  have hi : i < n := by simpa [bothK] using h2
  rw [List.getElem_set]
  by_cases hk : k = i
  · subst hk
    simp [bothK]
  · rw [if_neg hk]
    simp only [bothK, List.getElem_map, List.getElem_range]
    by_cases hik : i < k
    · rw [if_pos hik, if_pos (by omega)]
    · rw [if_neg hik, if_neg (by omega)]
theorem wAt_lt {zs : List Nat} (h : ∀ z ∈ zs, z < 18446744073709551616) (i : Nat) : wAt zs i < 18446744073709551616 := by
  unfold wAt
  rcases Nat.lt_or_ge i zs.length with hi | hi
  · rw [List.getElem?_eq_getElem hi]; exact h _ (List.getElem_mem _)
  · rw [List.getElem?_eq_none hi]; decide
theorem u64_info : (Try.prog.info? 29).map (fun i => (i.zero, i.size, i.bytes)) = some (some (.int .u64 0), 1, 8) := by kernel_rfl
theorem make_u64 (n : Nat) (k : Int) (hk : (n : Int) = k) (hn : n ≤ 1048576) (w : World) :
    (Instr.makeSlice 22 (.int .i64 k) (.int .i64 k)).run Try.prog w = .ok (.slice (some ⟨w.heap.size, 0, none⟩) n n) (w.alloc (.cells (List.replicate n (Value.int .u64 0)).toArray 29)) := by
  subst hk
  have e : madeCells #[Value.int .u64 0] n = (List.replicate n (Value.int .u64 0)).toArray := by rw [← Array.toList_inj, toList_madeCells_one]
  rw [← e]
  exact run_make_row' (P := Try.prog) 22 29 (.int .u64 0) 8 Try.underlying22 u64_info rfl .i64 .i64 n (by omega) (by omega) w

set_option maxHeartbeats 3200000 in
set_option maxRecDepth 100000 in
theorem both_any (F : FuncId) (f : Nat → Nat → Nat) (v1 v2 : Value) (xs ys : List Nat) (w : World) (h1 : Ws w v1 xs) (h2 : Ws w v2 ys) (hx : xs.length ≤ 100000) (hy : ys.length ≤ 100000)
    (el : ∀ args w, (callFunc F args).run Try.prog w = .ok (.enter F args) w)
    (hf : ∀ x y w, x < 18446744073709551616 → y < 18446744073709551616 → Calls Try.prog F #[.int .u64 (x : Nat), .int .u64 (y : Nat)] w fun e w' => e = .returned (.int .u64 (f x y : Nat)) ∧ w' = w)
    (hb : ∀ x y, x < 18446744073709551616 → y < 18446744073709551616 → f x y < 18446744073709551616) :
    Calls Try.prog 83 #[v1, v2, .func (.func F) #[] #[]] w fun e w' => ∃ v, e = .returned v ∧ Ws w' v (bothE f xs ys) ∧ Below w.heap.size w w' := by
  have HF := Lib.hid hf
  have B1 := Lib.hid (wAt_lt h1.1)
  have B2 := Lib.hid (wAt_lt h2.1)
  have HBD := Lib.hid hb
  obtain ⟨p1, c1, rfl, hc1⟩ := ws_row h1
  obtain ⟨p2, c2, rfl, hc2⟩ := ws_row h2
  have H1 := Lib.hid hc1
  have H2 := Lib.hid hc2
  clear hf hb h1 h2 hc1 hc2
  have hmk1 := make_u64 xs.length xs.length rfl (by omega)
  have hmk2 := make_u64 ys.length ys.length rfl (by omega)
  go_enter Try.func83, Try.ntmps83
  rcases (show (ys.length : Int) ≤ xs.length ∨ (xs.length : Int) < ys.length by omega) with hle | hle
  · go_wp2_with fail
    have HN := Lib.hid (show xs.length = max xs.length ys.length by omega)
    clear hmk1 hmk2
    go_loopw [19] (fun i wr => ∃ k : Nat, k ≤ xs.length ∧ i = .int .i64 k ∧ Bk wr w.heap.size 29 (bothK f xs ys xs.length k) ∧ Below w.heap.size w wr)
      (fun i _ => xs.length - (intOf i).toNat)
    case atStart => exact ⟨0, Nat.zero_le _, rfl, by rw [bothK_zero]; exact Bk.new _ _ _, (Below.refl _ _).alloc (Nat.le_refl _) _⟩
    case round =>
      obtain ⟨k, hk, rfl, hb, hB⟩ := hrel
      have HK := Lib.hid hb
      have HB := Lib.hid hB
      clear hb hB
      by_cases hlt : k < xs.length
      · have hcell : wr.cell? ⟨w.heap.size, k, none⟩ = some (.int .u64 0) := by
          rw [HK.out.cell, bothK_at _ _ _ _ _ _ hlt, if_neg (Nat.lt_irrefl k)]; rfl
        have hfree := HK.out.free k
        have HS := Lib.hid (HK.out.set k (.int .u64 (f (wAt xs k) (wAt ys k) : Nat)))
        have HS := Lib.hid (show Bk (wr.setCell ⟨w.heap.size, k, none⟩ (.int .u64 (f (wAt xs k) (wAt ys k) : Nat))) w.heap.size 29 (bothK f xs ys xs.length (k + 1)) by have h7 := HS.out; rw [bothK_step _ _ _ _ _ hlt] at h7; exact h7)
        have HFK := Lib.hid (HF.out (wAt xs k) (wAt ys k) wr (B1.out k) (B2.out k))
        by_cases hkx : k < xs.length
        · have hkx2 : (k : Int) < xs.length := by omega
          obtain ⟨a1, rfl, q1⟩ := H1.out (by omega)
          replace q1 := keepc (q1 k hkx) HB.out
          have hwx : xs[k]?.getD 0 = wAt xs k := rfl
          rw [hwx] at q1
          by_cases hky : k < ys.length
          · have hky2 : (k : Int) < ys.length := by omega
            obtain ⟨a2, rfl, q2⟩ := H2.out (by omega)
            replace q2 := keepc (q2 k hky) HB.out
            have hwy : ys[k]?.getD 0 = wAt ys k := rfl
            rw [hwy] at q2
            have HX := Lib.hid (And.intro hwx hwy)
            clear hwx hwy
            go_wp2_with fail
            refine HFK.out.mono ?_
            rintro e w1 ⟨rfl, rfl⟩
            go_wp2_with fail
            go_roundw
            case rel => exact ⟨k + 1, by omega, by go_num, HS.out, HB.out.setCell (p := ⟨w.heap.size, k, none⟩) (Nat.le_refl _) _⟩
            case measure => simp [intOf]; omega
          · have hky2 : ¬ (k : Int) < ys.length := by omega
            have hwy : wAt ys k = 0 := by unfold wAt; rw [List.getElem?_eq_none (by omega)]; rfl
            rw [hwy] at HFK HS
            have HX := Lib.hid (And.intro hwx hwy)
            clear hwx hwy
            go_wp2_with fail
            refine HFK.out.mono ?_
            rintro e w1 ⟨rfl, rfl⟩
            go_wp2_with fail
            go_roundw
            case rel => exact ⟨k + 1, by omega, by go_num, HS.out, HB.out.setCell (p := ⟨w.heap.size, k, none⟩) (Nat.le_refl _) _⟩
            case measure => simp [intOf]; omega
        · have hkx2 : ¬ (k : Int) < xs.length := by omega
          have hwx : wAt xs k = 0 := by unfold wAt; rw [List.getElem?_eq_none (by omega)]; rfl
          rw [hwx] at HFK HS
          by_cases hky : k < ys.length
          · exfalso; omega
          · exfalso; omega
      · obtain rfl : k = xs.length := by omega
        go_wp2_with fail
        go_ret
        refine ⟨_, rfl, ⟨fun z hz => ?_, .inr ⟨⟨w.heap.size, 0, none⟩, _, by rw [bothE_len, ← HN.out]; rfl, fun i hi => ?_⟩⟩, HB.out⟩
        · obtain ⟨i, _, rfl⟩ := List.mem_map.1 hz
          exact HBD.out _ _ (B1.out i) (B2.out i)
        · rw [bothE_len, ← HN.out] at hi
          rw [show (⟨w.heap.size, 0, none⟩ : Addr).add i = ⟨w.heap.size, i, none⟩ from by unfold Addr.add; split <;> simp_all, HK.out.cell, bothK_at _ _ _ _ _ _ hi, if_pos hi]
          congr 3
          unfold bothE
          rw [List.getElem?_map, List.getElem?_range (by rw [← HN.out]; exact hi)]
          rfl
  · go_wp2_with fail
    have HN := Lib.hid (show ys.length = max xs.length ys.length by omega)
    clear hmk1 hmk2
    go_loopw [19] (fun i wr => ∃ k : Nat, k ≤ ys.length ∧ i = .int .i64 k ∧ Bk wr w.heap.size 29 (bothK f xs ys ys.length k) ∧ Below w.heap.size w wr)
      (fun i _ => ys.length - (intOf i).toNat)
    case atStart => exact ⟨0, Nat.zero_le _, rfl, by rw [bothK_zero]; exact Bk.new _ _ _, (Below.refl _ _).alloc (Nat.le_refl _) _⟩
    case round =>
      obtain ⟨k, hk, rfl, hb, hB⟩ := hrel
      have HK := Lib.hid hb
      have HB := Lib.hid hB
      clear hb hB
      by_cases hlt : k < ys.length
      · have hcell : wr.cell? ⟨w.heap.size, k, none⟩ = some (.int .u64 0) := by
          rw [HK.out.cell, bothK_at _ _ _ _ _ _ hlt, if_neg (Nat.lt_irrefl k)]; rfl
        have hfree := HK.out.free k
        have HS := Lib.hid (HK.out.set k (.int .u64 (f (wAt xs k) (wAt ys k) : Nat)))
        have HS := Lib.hid (show Bk (wr.setCell ⟨w.heap.size, k, none⟩ (.int .u64 (f (wAt xs k) (wAt ys k) : Nat))) w.heap.size 29 (bothK f xs ys ys.length (k + 1)) by have h7 := HS.out; rw [bothK_step _ _ _ _ _ hlt] at h7; exact h7)
        have HFK := Lib.hid (HF.out (wAt xs k) (wAt ys k) wr (B1.out k) (B2.out k))
        by_cases hkx : k < xs.length
        · have hkx2 : (k : Int) < xs.length := by omega
          obtain ⟨a1, rfl, q1⟩ := H1.out (by omega)
          replace q1 := keepc (q1 k hkx) HB.out
          have hwx : xs[k]?.getD 0 = wAt xs k := rfl
          rw [hwx] at q1
          by_cases hky : k < ys.length
          · have hky2 : (k : Int) < ys.length := by omega
            obtain ⟨a2, rfl, q2⟩ := H2.out (by omega)
            replace q2 := keepc (q2 k hky) HB.out
            have hwy : ys[k]?.getD 0 = wAt ys k := rfl
            rw [hwy] at q2
            have HX := Lib.hid (And.intro hwx hwy)
            clear hwx hwy
            go_wp2_with fail
            refine HFK.out.mono ?_
            rintro e w1 ⟨rfl, rfl⟩
            go_wp2_with fail
            go_roundw
            case rel => exact ⟨k + 1, by omega, by go_num, HS.out, HB.out.setCell (p := ⟨w.heap.size, k, none⟩) (Nat.le_refl _) _⟩
            case measure => simp [intOf]; omega
          · exfalso; omega
        · have hkx2 : ¬ (k : Int) < xs.length := by omega
          have hwx : wAt xs k = 0 := by unfold wAt; rw [List.getElem?_eq_none (by omega)]; rfl
          rw [hwx] at HFK HS
          by_cases hky : k < ys.length
          · have hky2 : (k : Int) < ys.length := by omega
            obtain ⟨a2, rfl, q2⟩ := H2.out (by omega)
            replace q2 := keepc (q2 k hky) HB.out
            have hwy : ys[k]?.getD 0 = wAt ys k := rfl
            rw [hwy] at q2
            have HX := Lib.hid (And.intro hwx hwy)
            clear hwx hwy
            go_wp2_with fail
            refine HFK.out.mono ?_
            rintro e w1 ⟨rfl, rfl⟩
            go_wp2_with fail
            go_roundw
            case rel => exact ⟨k + 1, by omega, by go_num, HS.out, HB.out.setCell (p := ⟨w.heap.size, k, none⟩) (Nat.le_refl _) _⟩
            case measure => simp [intOf]; omega
          · exfalso; omega
      · obtain rfl : k = ys.length := by omega
        go_wp2_with fail
        go_ret
        refine ⟨_, rfl, ⟨fun z hz => ?_, .inr ⟨⟨w.heap.size, 0, none⟩, _, by rw [bothE_len, ← HN.out]; rfl, fun i hi => ?_⟩⟩, HB.out⟩
        · obtain ⟨i, _, rfl⟩ := List.mem_map.1 hz
          exact HBD.out _ _ (B1.out i) (B2.out i)
        · rw [bothE_len, ← HN.out] at hi
          rw [show (⟨w.heap.size, 0, none⟩ : Addr).add i = ⟨w.heap.size, i, none⟩ from by unfold Addr.add; split <;> simp_all, HK.out.cell, bothK_at _ _ _ _ _ _ hi, if_pos hi]
          congr 3
          unfold bothE
          rw [List.getElem?_map, List.getElem?_range (by rw [← HN.out]; exact hi)]
          rfl

end Go.Proofs.Ytflkelnfdoihlaa
