/-
  fair.Round; soughlaw26.awake: contracts.
-/
import Derived.Test.YtannfkibahinhaaDoorFairT
namespace Go.Proofs.YtannfkibahinhaaDoor
open Go.RowKit

theorem pick_info : (Tryd.prog.info? 38).map (fun i => (i.zero, i.size, i.bytes)) = some (some (.agg #[.int .i64 0, .int .i64 0]), 2, 16) := by kernel_rfl

/-- How many picks. -/
def lenn (n : Int) : Nat := (min (max n 0) 1048576).toNat
theorem lenn_cases (n : Int) : (n < 0 ∧ (lenn n : Int) = 0) ∨ (0 ≤ n ∧ n ≤ 1048576 ∧ (lenn n : Int) = n) ∨ (1048576 < n ∧ (lenn n : Int) = 1048576) := by unfold lenn; omega
theorem length_any (n : Int) (w : World) : Calls Tryd.prog 32 #[.int .i64 n] w fun e w' => e = .returned (.int .i64 (lenn n)) ∧ w' = w := by
  rcases lenn_cases n with ⟨h, hr⟩ | ⟨h, h', hr⟩ | ⟨h, hr⟩
  all_goals
    have Hr := Lib.hid hr
    clear hr
    go_enter Tryd.func32, Tryd.ntmps32
    go_wp2
    go_ret
    exact ⟨ret_int (by have := Hr.out; omega), rfl⟩

/-- The workers in turn. -/
def roundL (N : Nat) : Nat → List (Int × Int)
  | 0 => []
  | k + 1 => roundL N k ++ [((k : Int) % N, 0)]
theorem roundL_len (N k : Nat) : (roundL N k).length = k := by
  induction k with
  | zero => rfl
  | succ k ih => simp [roundL, ih]
theorem roundL_at (N k j : Nat) (h : j < k) : pickAt (roundL N k) j = ((j : Int) % N, 0) := by
  induction k with
  | zero => omega
  | succ k ih =>
    unfold pickAt at ih ⊢
    simp only [roundL]
    rcases (show j < k ∨ j = k from by omega) with h | rfl
    · rw [List.getElem?_append_left (by rw [roundL_len]; exact h)]; exact ih h
    · rw [List.getElem?_append_right (by rw [roundL_len]; exact Nat.le_refl _), roundL_len]; simp

/-- What an append of a pick does to what has been gathered. -/
theorem pick_step {B : Nat} {w wr w1 : World} {L : List (Int × Int)} {n : Nat} {x y : Int} {v v' : Value} (hB : Below B w wr) (hbw : B ≤ w.heap.size)
    (hown : wr.ownsRow B 38 2 v n (pcells L)) (o : Obj)
    (hown' : w1.ownsRow B 38 2 v' (n + 1) (pcells L ++ [.int .i64 x, .int .i64 y])) (hgrow : (wr.alloc o).grownBy w1 v.ownBlock) :
    w1.ownsRow B 38 2 v' (n + 1) (pcells (L ++ [(x, y)])) ∧ Below B w w1 := by
  refine ⟨by rw [pcells_append]; exact hown', ?_⟩
  have := hB.size
  exact (hB.alloc (by omega) o).grown hgrow (by simp; omega) (fun k hk => (hown.lt k hk).1)

set_option maxHeartbeats 1600000 in
set_option maxRecDepth 100000 in
theorem round_any (n long : Int) (w : World) :
    Calls Tryd.prog 18 #[.int .i64 n, .int .i64 long] w fun e w' => ∃ v, e = .returned v ∧ Picks w' v (roundL (workn n) (lenn long)) ∧ Below w.heap.size w w' := by
  have hN := workn_bd n
  have hm : lenn long ≤ 1048576 := by unfold lenn; omega
  obtain ⟨i0, hi, hz0, hz1, hz2⟩ := info_parts pick_info
  go_enter Tryd.func18, Tryd.ntmps18
  go_wp2_with fail
  refine (workers_any _ _).mono ?_
  rintro e w1 ⟨rfl, rfl⟩
  generalize hNe : workn n = N at *
  have HNe := Lib.hid hNe
  clear hNe
  go_wp2_with fail
  refine (length_any _ _).mono ?_
  rintro e w2 ⟨rfl, rfl⟩
  generalize hme : lenn long = m at *
  have Hme := Lib.hid hme
  clear hme
  go_wp2_with fail
  obtain ⟨w, rfl⟩ : ∃ w : World, w = w2 := ⟨_, rfl⟩
  go_loopw [5, 11] (fun v i wr => ∃ k : Nat, k ≤ m ∧ i = .int .i64 k ∧ wr.ownsRow w.heap.size 38 2 v k (pcells (roundL N k)) ∧ Below w.heap.size w wr)
    (fun _ i _ => m - (intOf i).toNat)
  case atStart => exact ⟨0, Nat.zero_le _, rfl, World.ownsRow_nil _ _ _ _, Below.refl _ _⟩
  case round =>
    obtain ⟨k, hk, rfl, hown, hB⟩ := hrel
    have HB := Lib.hid hB
    have HO := Lib.hid hown
    clear hB hown
    by_cases hlt : k < m
    · have hN1 : ¬ ((N : Int) = 0) := by omega
      go_wp2_with (at_builtin; refine wpList_append_own _ rfl _ _ 22 rfl w.heap.size 38 i0 (.agg #[.int .i64 0, .int .i64 0]) 2 16 Tryd.underlying22 hi hz0 hz1 hz2 rfl (by decide) _ _ _ rfl (HO.out.alloc _) ⟨wr.heap.size, 0, none⟩ 1 1 [.int .i64 ((k : Int) % N), .int .i64 0] rfl rfl ?c1 ?c2 ?c3 ?c4 ?c5 ?_)
      case c1 =>
        intro j u hj
        match j, hj with
        | 0, hj => simp at hj; subst hj; simp [Addr.add]
        | 1, hj => simp at hj; subst hj; simp [Addr.add]
      case c2 => simp [Value.oneCell']
      case c3 => unfold maxLen; omega
      case c4 => omega
      case c5 => have := HB.out.size; simp; omega
      intro v' w3 hown' hgrow _
      have R := pick_step HB.out (Nat.le_refl _) HO.out _ hown' hgrow
      clear hown' hgrow
      go_wp2
      go_roundw
      case rel => exact ⟨k + 1, by omega, by go_num, R.1, R.2⟩
      case measure => simp [intOf]; omega
    · obtain rfl : m = k := by omega
      go_wp2
      go_ret
      exact ⟨_, rfl, by rw [HNe.out, Hme.out]; exact Picks.of_owns HO.out, HB.out⟩

theorem text_ex : textK [(1, -2), (0, 0)] 2 = [49, 58, 45, 50, 32, 48, 58, 48] := by kernel_rfl
theorem is_ex : isE (roundL (workn 3) (lenn 9)) (workn 3) 3 = true := by decide

set_option maxHeartbeats 1600000 in
set_option maxRecDepth 100000 in
theorem awake26_any (w : World) (ht : Tab w) : Calls Tryd.prog 5 #[] w fun e w' => e = .returned (.bool true) ∧ Below w.heap.size w w' := by
  have Ht := Lib.hid ht
  clear ht
  go_enter Tryd.func5, Tryd.ntmps5
  go_wp2_with fail
  have HB0 := Lib.hid ((Below.refl w.heap.size w).alloc (Nat.le_refl _) (.cells #[.int .i64 1, .int .i64 (-2), .int .i64 0, .int .i64 0] 38))
  have HP : Picks (w.alloc (.cells #[.int .i64 1, .int .i64 (-2), .int .i64 0, .int .i64 0] 38)) (.slice (some ⟨w.heap.size, 0, none⟩) 2 2) [(1, -2), (0, 0)] := by
    refine ⟨_, _, rfl, by simp, fun _ => ⟨w.heap.size, 0, rfl, fun j hj => ?_⟩⟩
    have hk := Bk.new w 38 [.int .i64 1, .int .i64 (-2), .int .i64 0, .int .i64 0]
    match j, hj with
    | 0, _ => exact ⟨hk.cell 0, hk.cell 1⟩
    | 1, _ => exact ⟨hk.cell 2, hk.cell 3⟩
  have HP := Lib.hid HP
  refine (ftext_any _ _ _ HP.out (by simp) (fun j => ?_) (Ht.out.below HB0.out)).mono ?_
  · match j with
    | 0 => exact ⟨by unfold I64 pickAt; simp, by unfold I64 pickAt; simp⟩
    | 1 => exact ⟨by unfold I64 pickAt; simp, by unfold I64 pickAt; simp⟩
    | j + 2 => exact ⟨by unfold I64 pickAt; simp, by unfold I64 pickAt; simp⟩
  rintro e w1 ⟨rfl, hB⟩
  have HB1 := Lib.hid (bel_then HB0.out hB)
  clear hB
  rw [show textK [(1, -2), (0, 0)] [(1, -2), ((0 : Int), (0 : Int))].length = [49, 58, 45, 50, 32, 48, 58, 48] from text_ex]
  go_wp2_with fail
  refine (round_any _ _ _).mono ?_
  rintro e w2 ⟨v, rfl, hP, hB⟩
  have HP2 := Lib.hid hP
  have HB2 := Lib.hid (bel_then HB1.out hB)
  clear hB hP
  go_wp2_with fail
  refine (is_any _ _ _ _ _ HP2.out (by rw [roundL_len]; decide)).mono ?_
  rintro e w3 ⟨rfl, hB⟩
  have HB3 := Lib.hid (bel_then HB2.out hB)
  clear hB
  rw [is_ex]
  go_wp2_with fail
  go_ret
  exact ⟨rfl, HB3.out⟩

end Go.Proofs.YtannfkibahinhaaDoor
