/-
  slices.Grow, slices.Concat of codes: contracts; append of codes.
-/
import Derived.Test.YtflkelnfdoihlaaTrS
import Derived.Shelf.Spec.SlicesGrow
import Derived.Deep.AppendSrc
namespace Go.Proofs.Ytflkelnfdoihlaa
open Go.RowKit

def growRen : Go.Shelf.Ren := ⟨fun | 4 => 95 | n => n, fun | 22 => 43 | 25 => 82 | 20 => 20 | 9 => 9 | 4 => 4 | 3 => 3 | 0 => 0 | n => n, fun | n => n⟩
theorem growLays : Go.Proofs.Lays8.n4 Try.prog growRen := {
  mixed := by kernel_rfl
  f4 := ⟨Try.f95.name, by decide, Try.func95.trans (congrArg some (by kernel_rfl))⟩
  t0 := Try.underlying0
  a0 := Try.isAgg0
  z0 := Try.sizeOf0
  v0 := Try.zeroValue0
  t3 := Try.underlying3
  a3 := Try.isAgg3
  z3 := Try.sizeOf3
  v3 := Try.zeroValue3
  t4 := Try.underlying4
  a4 := Try.isAgg4
  z4 := Try.sizeOf4
  v4 := Try.zeroValue4
  t9 := Try.underlying9
  a9 := Try.isAgg9
  z9 := Try.sizeOf9
  v9 := Try.zeroValue9
  t20 := Try.underlying20
  a20 := Try.isAgg20
  z20 := Try.sizeOf20
  v20 := Try.zeroValue20
  t22 := Try.underlying43
  a22 := Try.isAgg43
  z22 := Try.sizeOf43
  v22 := Try.zeroValue43 }

def zeroCode : Value := .agg #[.int .i64 0, .int .i64 0, .int .i64 0, .int .i64 0, .int .i64 0, .int .i64 0, .int .i64 0, .int .i64 0]
theorem code_info : (Try.prog.info? 82).map (fun i => (i.zero, i.size, i.bytes)) = some (some zeroCode, 8, 64) := by kernel_rfl
/-- The cells of codes. -/
def codeVs (L : List CodeT) : List Value := L.flatMap ccells
theorem ccells_len (c : CodeT) : (ccells c).length = 8 := rfl
theorem codeVs_len (L : List CodeT) : (codeVs L).length = L.length * 8 := by
  induction L with
  | nil => rfl
  | cons c L ih => simp [codeVs] at ih ⊢; rw [ih, ccells_len]; omega
theorem codeVs_one {L : List CodeT} : ∀ u ∈ codeVs L, u.oneCell' = true := fun u hu => by
  obtain ⟨c, _, h⟩ := List.mem_flatMap.1 hu
  simp only [ccells, List.mem_cons, List.not_mem_nil, or_false] at h
  rcases h with rfl | rfl | rfl | rfl | rfl | rfl | rfl | rfl <;> rfl
theorem codeVs_at : ∀ (L : List CodeT) (j m : Nat), j < L.length → m < 8 → (codeVs L)[j * 8 + m]? = (ccells (cdAt L j))[m]?
  | [], _, _, h, _ => by simp at h
  | c :: L, 0, m, _, hm => by
    show (ccells c ++ codeVs L)[0 * 8 + m]? = _
    rw [Nat.zero_mul, Nat.zero_add, List.getElem?_append_left (by rw [ccells_len]; exact hm)]
    rfl
  | c :: L, j + 1, m, h, hm => by
    show (ccells c ++ codeVs L)[(j + 1) * 8 + m]? = _
    rw [List.getElem?_append_right (by rw [ccells_len]; omega), ccells_len, show (j + 1) * 8 + m - 8 = j * 8 + m by omega, codeVs_at L j m (by simpa using h) hm]
    simp [cdAt]
theorem codeVs_app (L M : List CodeT) : codeVs (L ++ M) = codeVs L ++ codeVs M := by simp [codeVs]
/-- A row of codes that this call owns reads as codes. -/
theorem codes_own {w : World} {B n : Nat} {u : Value} {L : List CodeT} {xs : List Value} (h : w.ownsRow B 82 8 u n xs) (hx : xs = codeVs L) (hn : n = L.length) : Codes w u L := by
  subst hx hn
  have hc := fun g hg => h.cells (g := g) hg
  obtain ⟨_, ⟨rfl, h0⟩ | ⟨g, cap, cur, rfl, _, _, _, _, _, _⟩⟩ := h
  · refine ⟨none, 0, by rw [h0], fun h => by omega⟩
  · refine ⟨_, _, rfl, fun _ => ⟨g, 0, rfl, fun j hj m u hm => ?_⟩⟩
    have hm8 : m < 8 := by
      rcases Nat.lt_or_ge m 8 with h | h
      · exact h
      · rw [List.getElem?_eq_none (by rw [ccells_len]; exact h)] at hm; cases hm
    have := hc g rfl (j * 8 + m) u (by rw [codeVs_at L j m hj hm8]; exact hm)
    rwa [show (⟨g, 0, none⟩ : Addr).add (j * 8 + m) = ⟨g, 0 + j * 8 + m, none⟩ from by unfold Addr.add; rw [Nat.zero_add]; split <;> simp_all] at this
/-- What codes append. -/
theorem codes_news {w : World} {b off : Nat} {L : List CodeT} (h : ∀ j, j < L.length → ∀ m u, (ccells (cdAt L j))[m]? = some u → w.cell? ⟨b, off + j * 8 + m, none⟩ = some u) :
    ∀ j u, (codeVs L)[j]? = some u → w.cell? ((⟨b, off, none⟩ : Addr).add j) = some u := fun k u hk => by
  have hlt : k < L.length * 8 := by
    rcases Nat.lt_or_ge k (L.length * 8) with h | h
    · exact h
    · rw [List.getElem?_eq_none (by rw [codeVs_len]; exact h)] at hk; cases hk
  have e : k / 8 * 8 + k % 8 = k := by omega
  have := h (k / 8) (by omega) (k % 8) u (by rw [← codeVs_at L (k / 8) (k % 8) (by omega) (by omega), e]; exact hk)
  rwa [show off + k / 8 * 8 + k % 8 = off + k by omega, show (⟨b, off + k, none⟩ : Addr) = (⟨b, off, none⟩ : Addr).add k from by unfold Addr.add; split <;> simp_all] at this

theorem run_append_codes (w : World) (ty : TypeId) (base : Nat) (v : Value) (n : Nat) (xs : List Value) (hown : w.ownsRow base 82 8 v n xs)
    (u : Value) (L : List CodeT) (hu : Codes w u L) (hb : n + L.length ≤ 4000000) (hbase : base ≤ w.heap.size) :
    ∃ v' w', (Builtin.append_ #[43, 43] ty #[v, u]).run Try.prog w = .ok v' w' ∧
      w'.ownsRow base 82 8 v' (n + L.length) (xs ++ codeVs L) ∧ w.grownBy w' v.ownBlock := by
  obtain ⟨i, hi, hz0, hz1, hz2⟩ := info_parts code_info
  obtain ⟨o, c, rfl, hc⟩ := hu
  by_cases h0 : 0 < L.length
  · obtain ⟨b, off, rfl, hd⟩ := hc h0
    obtain ⟨v', w', h1, h2, h3, _⟩ := run_append_own (P := Try.prog) w base 43 ty 82 i zeroCode 8 64 Try.underlying43 hi hz0 hz1 hz2 rfl (by decide) v n xs hown ⟨b, off, none⟩ L.length c (codeVs L) (codeVs_len L) (codes_news hd) codeVs_one (by unfold maxLen; omega) (by omega) hbase
    exact ⟨v', w', h1, h2, h3⟩
  · have : L = [] := List.eq_nil_of_length_eq_zero (by omega)
    subst this
    have hs : Src Try.prog i.size 43 (.slice o 0 c) 0 [] w := by
      match o with
      | none => exact Src.ofNil w Try.underlying43 c
      | some ad => exact Src.ofSlice w Try.underlying43 ad 0 c [] (by simp) (by simp) (by simp)
    refine ⟨v, w, ?_, by simpa [codeVs] using hown, ⟨rfl, rfl, rfl, Nat.le_refl _, fun _ _ _ => rfl⟩⟩
    obtain ⟨_, ⟨rfl, rfl⟩ | ⟨g, cap, cur, rfl, _, _, hnc, _, _, _⟩⟩ := hown
    · match o with
      | none => simp [Builtin.append_, run_underlying Try.underlying43, Go.sizeOf, typeInfo, hi, Builtin.lenOf, Builtin.firstCells]
      | some ad => simp [Builtin.append_, run_underlying Try.underlying43, Go.sizeOf, typeInfo, hi, Builtin.lenOf, Builtin.firstCells, loadCells, loadCellsFrom]
    · have hr := run_append_room_src (P := Try.prog) w 43 43 ty 82 i Try.underlying43 hi g 0 n cap _ 0 [] hs (by omega) (by simp) (by simp)
      exact hr.trans rfl

set_option maxHeartbeats 1600000 in
theorem cgrow_any (n : Nat) (w : World) (hn : n ≤ 2000000) :
    Calls Try.prog 95 #[.slice none 0 0, .int .i64 n] w fun e w' => ∃ v, e = .returned v ∧ w'.ownsRow w.heap.size 82 8 v 0 [] ∧ Below w.heap.size w w' := by
  obtain ⟨i, hi, hz0, hz1, hz2⟩ := info_parts code_info
  by_cases h0 : n = 0
  · subst h0
    refine (Any8.slices_Grow_room growLays none 0 0 0 w (by omega) (by omega) (by omega) (by omega)).mono ?_
    rintro e w' ⟨rfl, rfl⟩
    exact ⟨_, rfl, World.ownsRow_nil _ _ _ _, Below.refl _ _⟩
  · refine (Any8.slices_Grow_grow growLays i zeroCode hi hz0 (by rw [hz1]; decide) none 0 0 n [] w (by omega) (by omega) (by rw [hz2]; omega) (by omega) (by simp) (fun _ => rfl) (fun a h => by cases h)).mono ?_
    rintro e w' ⟨rfl, rfl⟩
    have hge := grownCap_ge w (0 + n) 0 82
    refine ⟨_, rfl, ⟨rfl, .inr ⟨w.heap.size, _, _, rfl, Nat.le_refl _, heap_alloc_new w.drew _, Nat.zero_le _, grownCap_le_maxLen w (0 + n) 0 82 (by unfold maxLen; omega), ?_, by simp⟩⟩, ?_⟩
    · simp only [Array.size_append, List.size_toArray, size_zeroCells, List.length_nil]
      show 0 + (0 + n - 0) * 8 + (grownCap w (0 + n) 0 82 - (0 + n)) * 8 = grownCap w (0 + n) 0 82 * 8
      omega
    · exact (show Below w.heap.size w w.drew from bel_drewN (Below.refl _ _) 1).alloc (Nat.le_refl _) _

theorem ext_app {w : World} {base n m : Nat} {v : Value} {xs ys : List Value} (h : w.ownsRow base 82 8 v n xs) (hn : n = m) (hx : xs = ys) : w.ownsRow base 82 8 v m ys := by subst hn hx; exact h
/-- The length, and the list, of the first k of two. -/
def lenK (a b : Nat) : Nat → Nat
  | 0 => 0
  | 1 => a
  | _ => a + b
def listK (L M : List CodeT) : Nat → List CodeT
  | 0 => []
  | 1 => L
  | _ => L ++ M

set_option maxHeartbeats 3200000 in
set_option maxRecDepth 100000 in
theorem cconcat_any (b : Nat) (v1 v2 : Value) (L M : List CodeT) (w : World) (k1 : w.cell? ⟨b, 0, none⟩ = some v1) (k2 : w.cell? ⟨b, 1, none⟩ = some v2) (h1 : Codes w v1 L) (h2 : Codes w v2 M) (m1 : L.length ≤ 1000000) (m2 : M.length ≤ 1000000) :
    Calls Try.prog 71 #[.slice (some ⟨b, 0, none⟩) 2 2] w fun e w' => ∃ u, e = .returned u ∧ Codes w' u (L ++ M) ∧ Below w.heap.size w w' := by
  have H1 := Lib.hid h1
  have H2 := Lib.hid h2
  obtain ⟨o1, c1, rfl⟩ := h1.len
  obtain ⟨o2, c2, rfl⟩ := h2.len
  clear h1 h2
  have K1 := Lib.hid k1
  have K2 := Lib.hid k2
  go_enter Try.func71, Try.ntmps71
  go_wp2_with fail
  go_loopw [3, 11] (fun s i wr => ∃ k : Nat, k ≤ 2 ∧ i = .int .i64 k ∧ s = .int .i64 (lenK L.length M.length k : Nat) ∧ w = wr)
    (fun _ i _ => 2 - (intOf i).toNat)
  case atStart => exact ⟨0, by omega, rfl, rfl, rfl⟩
  case round =>
    obtain ⟨k, hk, rfl, rfl, rfl⟩ := hrel
    by_cases e0 : k = 0
    · subst e0
      have hw : wrap64 (((lenK L.length M.length 0 : Nat) : Int) + (L.length : Int)) = (lenK L.length M.length 1 : Nat) := by
        rw [IntWalk.wrap64_in _ (by simp [lenK]; omega)]; simp [lenK]
      have hn : ¬ (((lenK L.length M.length 1 : Nat) : Int) < 0) := by omega
      go_wp2_with (rw [hw])
      exact ⟨⟨1, by omega, rfl, rfl, trivial⟩, by decide⟩
    · by_cases e1 : k = 1
      · subst e1
        have hw : wrap64 (((lenK L.length M.length 1 : Nat) : Int) + (M.length : Int)) = (lenK L.length M.length 2 : Nat) := by
          rw [IntWalk.wrap64_in _ (by simp [lenK]; omega)]; simp [lenK]
        have hn : ¬ (((lenK L.length M.length 2 : Nat) : Int) < 0) := by omega
        go_wp2_with (rw [hw])
        exact ⟨⟨2, by omega, rfl, rfl, trivial⟩, by decide⟩
      · obtain rfl : k = 2 := by omega
        have hln : (lenK L.length M.length 2 : Nat) = L.length + M.length := rfl
        have hlb : (lenK L.length M.length 2 : Nat) ≤ 2000000 := by omega
        generalize lenK L.length M.length 2 = S at *
        clear hln
        go_wp2_with fail
        refine (cgrow_any S w hlb).mono ?_
        rintro e w1 ⟨v, rfl, hO, hB⟩
        have HO := Lib.hid hO
        have HB := Lib.hid hB
        clear hO hB k1 k2
        go_wp2_with fail
        go_loopw [6, 27] (fun v i wr => ∃ k : Nat, k ≤ 2 ∧ i = .int .i64 k ∧ wr.ownsRow w.heap.size 82 8 v (lenK L.length M.length k) (codeVs (listK L M k)) ∧ Below w.heap.size w wr)
          (fun _ i _ => 2 - (intOf i).toNat)
        case atStart => exact ⟨0, by omega, rfl, HO.out, HB.out⟩
        case round =>
          clear HO HB
          obtain ⟨k, hk, rfl, hO, hB⟩ := hrel
          have HO := Lib.hid hO
          have HB := Lib.hid hB
          clear hO hB
          have k1 := keepc K1.out HB.out
          have k2 := keepc K2.out HB.out
          by_cases e0 : k = 0
          · subst e0
            obtain ⟨v', w', hr, hO2, hg⟩ := run_append_codes _ 43 w.heap.size _ _ _ HO.out _ L (H1.out.below HB.out) (by simp [lenK]; omega) HB.out.size
            have HO2 := Lib.hid (ext_app (m := lenK L.length M.length 1) (ys := codeVs (listK L M 1)) hO2 (by simp [lenK]) (by simp [listK, codeVs]))
            have HB2 := Lib.hid (HB.out.grown hg HB.out.size (fun k hk => (HO.out.lt k hk).1))
            clear hO2 hg
            go_wp2_with (at_builtin; refine Lib.wpList_append_run _ rfl _ _ _ _ rfl _ _ rfl rfl _ _ hr ?_)
            exact ⟨⟨1, by omega, rfl, HO2.out, HB2.out⟩, by decide⟩
          · by_cases e1 : k = 1
            · subst e1
              obtain ⟨v', w', hr, hO2, hg⟩ := run_append_codes _ 43 w.heap.size _ _ _ HO.out _ M (H2.out.below HB.out) (by simp [lenK]; omega) HB.out.size
              have HO2 := Lib.hid (ext_app (m := lenK L.length M.length 2) (ys := codeVs (listK L M 2)) hO2 (by simp [lenK]) (by simp [listK, codeVs_app]))
              have HB2 := Lib.hid (HB.out.grown hg HB.out.size (fun k hk => (HO.out.lt k hk).1))
              clear hO2 hg
              go_wp2_with (at_builtin; refine Lib.wpList_append_run _ rfl _ _ _ _ rfl _ _ rfl rfl _ _ hr ?_)
              exact ⟨⟨2, by omega, rfl, HO2.out, HB2.out⟩, by decide⟩
            · obtain rfl : k = 2 := by omega
              go_wp2_with fail
              go_ret
              exact ⟨_, rfl, codes_own HO.out rfl (by simp [lenK]), HB.out⟩

end Go.Proofs.Ytflkelnfdoihlaa
