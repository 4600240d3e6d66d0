/-
  mem.Or, mem.All: contracts, of a Plain.
-/
import Derived.Test.YteheckcflnogbaaMemRef
import Derived.Test.YteheckcflnogbaaUs
import Derived.Maps.AppendAt
import Derived.RegionCalls
import Derived.Deep.RegionWith
namespace Go.Proofs.Yteheckcflnogbaa
open Go.RowKit

theorem or_some (t : TypeId) (v : Value) (w : World) :
    Calls Try.prog 126 #[.iface t v] w fun e w' => e = .returned (.iface t v) ∧ w' = w := by
  go_enter Try.func126, Try.ntmps126
  go_wp2
  go_ret
  exact ⟨rfl, rfl⟩

theorem m_len (a : Addr) (w : World) : (method 394 64 (.pointer (some a)) "Len").run Try.prog w = .ok (227, .pointer (some a)) w := by kernel_rfl
theorem m_load (a : Addr) (w : World) : (method 394 64 (.pointer (some a)) "Load").run Try.prog w = .ok (87, .pointer (some a)) w := by kernel_rfl

/-- What a round of All does to what has been gathered. -/
theorem all_step {w wr w1 : World} {k : Nat} {zs : List Int} {v v' : Value} (hB : Below w.heap.size w wr)
    (o : Obj) (hk : k < zs.length) (hown : wr.ownsRow w.heap.size 29 1 v k ((zs.take k).map (Value.int .u64)))
    (hown' : w1.ownsRow w.heap.size 29 1 v' (k + 1) ((zs.take k).map (Value.int .u64) ++ [.int .u64 (ldv zs k)]))
    (hgrow : (wr.alloc o).grownBy w1 v.ownBlock) :
    w1.ownsRow w.heap.size 29 1 v' (k + 1) ((zs.take (k + 1)).map (Value.int .u64)) ∧ Below w.heap.size w w1 := by
  refine ⟨?_, (hB.alloc hB.size _).grown hgrow (Nat.le_trans hB.size (by simp)) (fun k hk => (hown.lt k hk).1)⟩
  rw [List.take_add_one, List.map_append]
  have e : (zs[k]?.toList).map (Value.int .u64) = [.int .u64 (ldv zs k)] := by
    rw [ldv_in (by omega)]
    simp [hk, wd]
  rw [e]
  exact hown'

set_option maxHeartbeats 1600000 in
set_option maxRecDepth 100000 in
theorem all_any (b g : Nat) (zs : List Int) (w : World) (h : Pm w b g zs) :
    Calls Try.prog 54 #[.iface 64 (.pointer (some ⟨b, 0, none⟩))] w fun e w' => ∃ v, e = .returned v ∧ Us w' v zs ∧ Below w.heap.size w w' := by
  have hl := m_len ⟨b, 0, none⟩
  have hd := m_load ⟨b, 0, none⟩
  have H := Lib.hid h
  have hz := h.2.2
  obtain ⟨i0, hi, hz0, hz1, hz2⟩ := info_parts u64_info
  clear h
  go_enter Try.func54, Try.ntmps54
  go_wp2_with fail
  refine (or_some _ _ _).mono ?_
  rintro e w1 ⟨rfl, rfl⟩
  go_wp2_with fail
  refine (plen_any _ _ _ _ H.out).mono ?_
  rintro e w2 ⟨rfl, rfl⟩
  go_wp2_with fail
  obtain ⟨w, rfl⟩ : ∃ w : World, w = w2 := ⟨_, rfl⟩
  go_loopw [3, 9] (fun v i wr => ∃ k : Nat, k ≤ zs.length ∧ i = .int .i64 k ∧ wr.ownsRow w.heap.size 29 1 v k ((zs.take k).map (Value.int .u64)) ∧ Below w.heap.size w wr)
    (fun _ i _ => zs.length - (intOf i).toNat)
  case atStart => exact ⟨0, Nat.zero_le _, rfl, World.ownsRow_nil _ _ _ _, Below.refl _ _⟩
  case round =>
    obtain ⟨k, hk, rfl, hown, hB⟩ := hrel
    have HB := Lib.hid hB
    have HO := Lib.hid hown
    clear hB hown
    by_cases hlt : k < zs.length
    · go_wp2_with fail
      refine (load_any _ _ _ _ _ (H.out.below HB.out)).mono ?_
      rintro e w3 ⟨rfl, hB3⟩
      have HB3 := Lib.hid hB3
      clear hB3
      have hown3 := own_below HO.out HB3.out
      go_wp2_with (at_builtin; refine wpList_append_own _ rfl _ _ 22 rfl w.heap.size 29 i0 (.int .u64 0) 1 8 Try.underlying22 hi hz0 hz1 hz2 rfl (by decide) _ _ _ rfl (hown3.alloc _) ⟨w3.heap.size, 0, none⟩ 1 1 [.int .u64 (ldv zs k)] rfl rfl (cell_one_new _ _ _) (by simp [Value.oneCell']) (by unfold maxLen; omega) (by omega) (by have := HB.out.size; have := HB3.out.size; simp; omega) ?_; intro v' w4 hown' hgrow _)
      have R := all_step (HB.out.trans (HB3.out.mono HB.out.size)) _ hlt hown3 hown' hgrow
      clear hown' hgrow hown3
      go_wp2
      go_roundw
      case rel => exact ⟨k + 1, by omega, by go_num, R.1, R.2⟩
      case measure => simp [intOf]; omega
    · obtain rfl : k = zs.length := by omega
      go_wp2
      go_ret
      exact ⟨_, rfl, Us.of_owns (by have h := HO.out; rw [List.take_length] at h; exact h), HB.out⟩

end Go.Proofs.Yteheckcflnogbaa
