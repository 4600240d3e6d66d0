/-
  wordset.Of, Full: contracts.
-/
import Derived.Test.YtflkelnfdoihlaaSetL
import Derived.Test.YtflkelnfdoihlaaWords
import Derived.Test.YtflkelnfdoihlaaTake
import Derived.BigRegion
namespace Go.Proofs.Ytflkelnfdoihlaa
open Go.RowKit

/-- How many words a width needs. -/
def sizeE (width : Int) : Nat := ((near width + 63) / 64).toNat
theorem sizeE_le (width : Int) : sizeE width ≤ 16 := by have := near_bd width; unfold sizeE; omega
theorem sizeE_int (width : Int) : (near width + 63) / 64 = (sizeE width : Int) := by have := near_bd width; unfold sizeE; omega
theorem near_near (n : Int) : near (near n) = near n := by unfold near; omega
/-- A set with a number more. -/
def withE (a : List Nat) (m : Nat) : List Nat := a.set (m / 64) (wAt a (m / 64) ||| 2 ^ (m % 64))
def ofStep (width : Int) (a : List Nat) (n : Int) : List Nat := if 0 ≤ n ∧ n < near width then withE a n.toNat else a
def ofE (width : Int) (l : List Int) : List Nat := l.foldl (ofStep width) (List.replicate (sizeE width) 0)
theorem withE_len (a : List Nat) (m : Nat) : (withE a m).length = a.length := by simp [withE]
theorem ofStep_len (width : Int) (a : List Nat) (n : Int) : (ofStep width a n).length = a.length := by
  unfold ofStep; split
  · exact withE_len _ _
  · rfl
theorem withE_lt {a : List Nat} (h : ∀ z ∈ a, z < 18446744073709551616) (m : Nat) : ∀ z ∈ withE a m, z < 18446744073709551616 := fun z hz => by
  rcases List.mem_or_eq_of_mem_set hz with hz | rfl
  · exact h z hz
  · exact orN_lt _ _ (wAt_lt h _) (Nat.lt_of_le_of_lt (Nat.pow_le_pow_right (by decide) (show m % 64 ≤ 63 by omega)) (by decide))
theorem ofStep_lt {a : List Nat} (h : ∀ z ∈ a, z < 18446744073709551616) (width n : Int) : ∀ z ∈ ofStep width a n, z < 18446744073709551616 := by
  unfold ofStep; split
  · exact withE_lt h _
  · exact h
/-- The first k of the list's numbers. -/
def ofK (width : Int) (l : List Int) (k : Nat) : List Nat := (l.take k).foldl (ofStep width) (List.replicate (sizeE width) 0)
theorem ofK_succ (width : Int) (l : List Int) (k : Nat) (h : k < l.length) : ofK width l (k + 1) = ofStep width (ofK width l k) (l[k]?.getD 0) := by
  unfold ofK
  rw [List.take_add_one, List.foldl_append, List.getElem?_eq_getElem h]
  rfl
theorem ofK_len (width : Int) (l : List Int) (k : Nat) : (ofK width l k).length = sizeE width := by
  unfold ofK
  generalize l.take k = m
  have : ∀ a : List Nat, (m.foldl (ofStep width) a).length = a.length := by
    induction m with
    | nil => intro a; rfl
    | cons x m ih => intro a; rw [List.foldl_cons, ih, ofStep_len]
  rw [this, List.length_replicate]
theorem ofK_lt (width : Int) (l : List Int) (k : Nat) : ∀ z ∈ ofK width l k, z < 18446744073709551616 := by
  unfold ofK
  generalize l.take k = m
  have : ∀ a : List Nat, (∀ z ∈ a, z < 18446744073709551616) → ∀ z ∈ m.foldl (ofStep width) a, z < 18446744073709551616 := by
    induction m with
    | nil => intro a h; exact h
    | cons x m ih => intro a h; exact ih _ (ofStep_lt h _ _)
  exact this _ fun z hz => by rw [List.eq_of_mem_replicate hz]; decide
/-- A set's words as cells. -/
def u64s (a : List Nat) : List Value := a.map fun z => .int .u64 (z : Nat)
theorem u64s_at (a : List Nat) (i : Nat) (h : i < a.length) : (u64s a)[i]? = some (.int .u64 (wAt a i : Nat)) := by
  unfold u64s wAt
  rw [List.getElem?_map, List.getElem?_eq_getElem h]
  rfl
theorem u64s_zero (n : Nat) : u64s (List.replicate n 0) = List.replicate n (.int .u64 0) := by simp [u64s]
theorem u64s_set (a : List Nat) (i z : Nat) : u64s (a.set i z) = (u64s a).set i (.int .u64 (z : Nat)) := by simp [u64s, List.map_set]
theorem Bk.ws {w : World} {g : Nat} {a : List Nat} {n : Nat} (h : Bk w g 29 (u64s a)) (hl : a.length = n) (hz : ∀ z ∈ a, z < 18446744073709551616) : Ws w (.slice (some ⟨g, 0, none⟩) n n) a := by
  subst hl
  refine ⟨hz, .inr ⟨⟨g, 0, none⟩, _, rfl, fun i hi => ?_⟩⟩
  rw [show (⟨g, 0, none⟩ : Addr).add i = ⟨g, i, none⟩ from by unfold Addr.add; split <;> simp_all, h.cell, u64s_at _ _ hi]
  rfl
theorem bit_word (m : Nat) (h : m < 64) : ((2 ^ m : Nat) : Int) < 18446744073709551616 := by
  have h1 : 2 ^ m ≤ 2 ^ 63 := Nat.pow_le_pow_right (by decide) (by omega)
  omega

theorem bor (a b : Nat) (ha : a < 18446744073709551616) (hb : b < 18446744073709551616) : bits .or .u64 (a : Int) (b : Int) = ((a ||| b : Nat) : Int) :=
  (bits_nat .u64 64 (by decide) wraps_u64 a b (by omega) (by omega)).2
theorem or_bit (z m : Nat) (hz : z < 18446744073709551616) (hm : m < 64) : bits BinOp.or IntKind.u64 (z : Int) (IntKind.u64.wrap (2 ^ m)) = ((z ||| 2 ^ m : Nat) : Int) := by
  have h := bit_word m hm
  have e : (2 : Int) ^ m = ((2 ^ m : Nat) : Int) := by rw [Int.natCast_pow]; rfl
  rw [e, wn _ (by omega)]
  exact bor _ _ hz (by omega)
theorem Bk.withE {w : World} {g : Nat} {a : List Nat} (h : Bk w g 29 (u64s a)) (m : Nat) : Bk (w.setCell ⟨g, m / 64, none⟩ (.int .u64 ((wAt a (m / 64) ||| 2 ^ (m % 64) : Nat) : Int))).drew g 29 (u64s (withE a m)) := by
  have := h.set (m / 64) (.int .u64 ((wAt a (m / 64) ||| 2 ^ (m % 64) : Nat) : Int))
  rw [← u64s_set] at this
  exact this.drew


/-! ### Full -/
def fullK (n k : Nat) : List Nat := (List.range n).map fun i => if i < k then 18446744073709551615 else 0
theorem fullK_zero (n : Nat) : fullK n 0 = List.replicate n 0 := by
  refine List.ext_getElem (by simp [fullK]) fun i h1 h2 => ?_
  simp [fullK]
theorem fullK_len (n k : Nat) : (fullK n k).length = n := by simp [fullK]
theorem fullK_step (n k : Nat) : (fullK n k).set k 18446744073709551615 = fullK n (k + 1) := by
  refine List.ext_getElem (by simp [fullK]) fun i h1 h2 => ?_
  rw [List.getElem_set]
  by_cases hk : k = i
  · subst hk; simp [fullK]
  · rw [if_neg hk]
    simp only [fullK, List.getElem_map, List.getElem_range]
    by_cases hik : i < k
    · rw [if_pos hik, if_pos (by omega)]
    · rw [if_neg hik, if_neg (by omega)]
theorem fullK_lt (n k : Nat) : ∀ z ∈ fullK n k, z < 18446744073709551616 := fun z hz => by
  obtain ⟨i, _, rfl⟩ := List.mem_map.1 hz
  split <;> decide
/-- All numbers below a width. -/
def fullE (width : Int) : List Nat :=
  if 0 < near width % 64 then (fullK (sizeE width) (sizeE width)).set (sizeE width - 1) (2 ^ (near width % 64).toNat - 1) else fullK (sizeE width) (sizeE width)
theorem fullE_len (width : Int) : (fullE width).length = sizeE width := by
  unfold fullE; split
  · rw [List.length_set, fullK_len]
  · exact fullK_len _ _
theorem fullE_lt (width : Int) : ∀ z ∈ fullE width, z < 18446744073709551616 := by
  unfold fullE; split
  · intro z hz
    rcases List.mem_or_eq_of_mem_set hz with hz | rfl
    · exact fullK_lt _ _ z hz
    · have := bit_word (near width % 64).toNat (by omega)
      omega
  · exact fullK_lt _ _

set_option maxHeartbeats 3200000 in
set_option maxRecDepth 100000 in
theorem full_any (width : Int) (w : World) :
    Calls Try.prog 44 #[.int .i64 width] w fun e w' => ∃ u, e = .returned u ∧ Ws w' u (fullE width) ∧ Below w.heap.size w w' := by
  have hs := sizeE_le width
  have hmk := make_u64 (sizeE width) ((near (near width) + 63) / 64) (by rw [near_near, sizeE_int]) (by omega)
  go_enter Try.func44, Try.ntmps44
  go_wp2_with (first | (go_at_call 74; refine (nearest_any _ _).mono ?_; rintro e w1 ⟨rfl, hw1⟩; subst w1) | (go_at_call 42; refine (size_any _ _).mono ?_; rintro e w1 ⟨rfl, hw1⟩; subst w1))
  clear hmk
  go_loopw [13] (fun i wr => ∃ k : Nat, k ≤ sizeE width ∧ i = .int .i64 k ∧ Bk wr w.heap.size 29 (u64s (fullK (sizeE width) k)) ∧ Below w.heap.size w wr)
    (fun i _ => sizeE width - (intOf i).toNat)
  case atStart => exact ⟨0, Nat.zero_le _, rfl, by rw [fullK_zero, u64s_zero]; exact Bk.new _ _ _, (Below.refl _ _).alloc (Nat.le_refl _) _⟩
  case round =>
    obtain ⟨k, hk, rfl, hb, hB⟩ := hrel
    have HK := Lib.hid hb
    have HB := Lib.hid hB
    clear hb hB
    by_cases hlt : k < sizeE width
    · have hcell : wr.cell? ⟨w.heap.size, k, none⟩ = some (.int .u64 (wAt (fullK (sizeE width) k) k : Nat)) := by
        rw [HK.out.cell, u64s_at _ _ (by rw [fullK_len]; exact hlt)]
      have hfree := HK.out.free k
      have HBk := Lib.hid (HK.out.set k (.int .u64 18446744073709551615))
      have e1 := u64s_set (fullK (sizeE width) k) k 18446744073709551615
      rw [fullK_step] at e1
      rw [show (Value.int .u64 18446744073709551615) = Value.int .u64 ((18446744073709551615 : Nat) : Int) from rfl, ← e1] at HBk
      clear e1
      generalize wAt (fullK (sizeE width) k) k = z at *
      go_wp2_with fail
      go_roundw
      case rel => exact ⟨k + 1, by omega, by go_num, HBk.out, HB.out.setCell (p := ⟨w.heap.size, k, none⟩) (Nat.le_refl _) _⟩
      case measure => simp [intOf]; omega
    · obtain rfl : k = sizeE width := by omega
      have HN := Lib.hid (near_bd width)
      have HSZ := Lib.hid (sizeE_int width)
      obtain ⟨W, hW⟩ : ∃ W : Nat, near width = W := ⟨(near width).toNat, by have := near_bd width; omega⟩
      have HF0 := Lib.hid (show ¬ 0 < W % 64 → fullE width = fullK (sizeE width) (sizeE width) from fun h => by unfold fullE; rw [if_neg (by omega)])
      have HF1 := Lib.hid (show 0 < W % 64 → fullE width = (fullK (sizeE width) (sizeE width)).set (sizeE width - 1) (2 ^ (W % 64) - 1) from fun h => by
        unfold fullE; rw [if_pos (by omega)]; rw [show (near width % 64).toNat = W % 64 by omega])
      have HL := Lib.hid (fullE_len width)
      have HLt := Lib.hid (fullE_lt width)
      rw [hW] at HN HSZ ⊢
      obtain ⟨fw, hfw⟩ : ∃ fw, fw = fullE width := ⟨_, rfl⟩
      rw [← hfw] at HF0 HF1 HL HLt
      have HFW := Lib.hid hfw
      clear hfw
      generalize sizeE width = S at *
      have hmod : ((W : Int)).tmod 64 = ((W % 64 : Nat) : Int) := by rw [Int.tmod_eq_emod_of_nonneg (by omega)]; omega
      by_cases hr : 0 < W % 64
      · obtain ⟨S, rfl⟩ : ∃ s, S = s + 1 := ⟨S - 1, by have := HSZ.out; omega⟩
        have hr2 : (0 : Int) < ((W % 64 : Nat) : Int) := by omega
        have hr3 : W % 64 < 64 := by omega
        have hcell : wr.cell? ⟨w.heap.size, S, none⟩ = some (.int .u64 (wAt (fullK (S + 1) (S + 1)) S : Nat)) := by
          rw [HK.out.cell, u64s_at _ _ (by rw [fullK_len]; omega)]
        have hfree := HK.out.free S
        have HBk := Lib.hid (HK.out.set S (.int .u64 ((2 ^ (W % 64) - 1 : Nat) : Int)))
        rw [← u64s_set, show (fullK (S + 1) (S + 1)).set S (2 ^ (W % 64) - 1) = fw from (HF1.out hr).symm] at HBk
        generalize wAt (fullK (S + 1) (S + 1)) S = z at *
        have hb2 := bit_word (W % 64) hr3
        have hp1 : 1 ≤ 2 ^ (W % 64) := Nat.one_le_two_pow
        have e1 : IntKind.u64.wrap (2 ^ (W % 64)) = ((2 ^ (W % 64) : Nat) : Int) := by
          rw [show (2 : Int) ^ (W % 64) = ((2 ^ (W % 64) : Nat) : Int) by rw [Int.natCast_pow]; rfl]
          exact wn _ (by omega)
        have e2 : IntKind.u64.wrap (IntKind.u64.wrap (2 ^ (W % 64)) - 1) = ((2 ^ (W % 64) - 1 : Nat) : Int) := by
          rw [e1, show ((2 ^ (W % 64) : Nat) : Int) - 1 = ((2 ^ (W % 64) - 1 : Nat) : Int) by omega]
          exact wn _ (by omega)
        have HE2 := Lib.hid e2
        clear e1 e2 hb2 hp1
        go_wp2_with fail
        go_ret
        refine ⟨_, rfl, ?_, HB.out.setCell (p := ⟨w.heap.size, S, none⟩) (Nat.le_refl _) _⟩
        rw [HE2.out, ← HFW.out]
        exact HBk.out.ws HL.out HLt.out
      · have hr2 : ((W % 64 : Nat) : Int) = 0 := by omega
        have hF := HF0.out hr
        rw [← hF] at HK
        clear hF
        go_wp2_with fail
        go_ret
        refine ⟨_, rfl, ?_, HB.out⟩
        rw [← HFW.out]
        exact HK.out.ws HL.out HLt.out

end Go.Proofs.Ytflkelnfdoihlaa
