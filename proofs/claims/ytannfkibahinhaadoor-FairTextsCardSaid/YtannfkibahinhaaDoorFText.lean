/-
  soughref26.Text; soughref26.Same; soughlaw26.FairTexts: the walk.
-/
import Derived.Test.YtannfkibahinhaaDoorDig26
import Derived.Test.YtannfkibahinhaaDoorParse
import Derived.Laws.StructEq
namespace Go.Proofs.YtannfkibahinhaaDoor
open Go.RowKit


theorem pickU : Tryd.prog.underlying 38 = some (.struct (Tryd.prog.fieldsOf 38)) := by kernel_rfl
theorem pickS : Tryd.prog.stoodInHeld 38 = false := by kernel_rfl
theorem pick_equal (a b c d : Int) (w : World) : (Op.equalIn 10000 38 (.agg #[.int .i64 a, .int .i64 b]) (.agg #[.int .i64 c, .int .i64 d])).run Tryd.prog w = .ok (a == c && b == d) w := by
  have u3 := Tryd.underlying3
  have a3 := Tryd.isAgg3
  have z3 := Tryd.sizeOf3
  rw [show (10000 : Nat) = 9999 + 1 from rfl, run_equalIn_agg w 9999 _ _ _ pickU pickS]
  simp only [Program.fieldsOf, Tryd.underlying38]
  go_simp
  by_cases h1 : a = c <;> by_cases h2 : b = d <;> simp [h1, h2]
theorem pick_neq (a b c d : Int) (w : World) : (binOp .neq 38 (.agg #[.int .i64 a, .int .i64 b]) (.agg #[.int .i64 c, .int .i64 d])).run Tryd.prog w = .ok (.bool (!(a == c && b == d))) w := by
  rw [run_neq_struct, pick_equal]; rfl

set_option maxHeartbeats 1600000 in
set_option maxRecDepth 100000 in
theorem psame_any (v1 v2 : Value) (L : List (Int × Int)) (w : World) (h1 : Picks w v1 L) (h2 : Picks w v2 L) (hl : L.length ≤ 1000000) :
    Calls Tryd.prog 9 #[v1, v2] w fun e w' => e = .returned (.bool true) ∧ ∃ n, w' = w.drewN n := by
  obtain ⟨o1, c1, rfl, hle1, hc1⟩ := h1
  obtain ⟨o2, c2, rfl, hle2, hc2⟩ := h2
  have H1 := Lib.hid hc1
  have H2 := Lib.hid hc2
  clear hc1 hc2
  have q2 := pick_neq
  go_enter Tryd.func9, Tryd.ntmps9
  go_wp2
  go_loopw [13] (fun i wr => ∃ k nq : Nat, k ≤ L.length ∧ i = .int .i64 k ∧ wr = w.drewN nq)
    (fun i _ => L.length - (intOf i).toNat)
  case atStart => exact ⟨0, 0, Nat.zero_le _, rfl, rfl⟩
  case round =>
    obtain ⟨k, nq, hk, rfl, rfl⟩ := hrel
    by_cases hlt : k < L.length
    · obtain ⟨b1, f1, rfl, hc1⟩ := H1.out (by omega)
      obtain ⟨b2, f2, rfl, hc2⟩ := H2.out (by omega)
      obtain ⟨e1, e2⟩ := hc1 k hlt
      obtain ⟨e3, e4⟩ := hc2 k hlt
      clear hc1 hc2
      generalize pickAt L k = p at *
      go_wp2
      go_quiet (fail)
      go_wp2
      refine ⟨⟨k + 1, _, by omega, by go_num, rfl⟩, by simp [intOf]; omega⟩
    · obtain rfl : k = L.length := by omega
      go_wp2
      go_ret
      exact ⟨rfl, nq, rfl⟩


set_option maxHeartbeats 3200000 in
set_option maxRecDepth 100000 in
theorem rtext6_any (v : Value) (L : List (Int × Int)) (w : World) (hL : Picks w v L) (hl : L.length ≤ 1000) (hi64 : I64s L) :
    Calls Tryd.prog 8 #[v] w fun e w' => e = .returned (.string ⟨(textS L).toArray⟩) ∧ Below w.heap.size w w' := by
  have HI := Lib.hid hi64
  obtain ⟨o, c, rfl, hle, hc⟩ := hL
  have HC := Lib.hid hc
  clear hc hi64
  go_enter Tryd.func8, Tryd.ntmps8
  go_wp2_with fail
  go_loopw [3, 8] (fun sv i wr => ∃ k : Nat, k ≤ L.length ∧ i = .int .i64 k ∧ sv = .string ⟨(textK L k).toArray⟩ ∧ Below w.heap.size w wr)
    (fun _ i _ => L.length - (intOf i).toNat)
  case atStart => exact ⟨0, Nat.zero_le _, rfl, rfl, Below.refl _ _⟩
  case round =>
    obtain ⟨k, hk, rfl, rfl, hB⟩ := hrel
    have HB := Lib.hid hB
    clear hB
    by_cases hlt : k < L.length
    · obtain ⟨b1, f1, rfl, hc1⟩ := HC.out (by omega)
      obtain ⟨c0, c1⟩ := hc1 k hlt
      replace c0 := keepc c0 HB.out
      replace c1 := keepc c1 HB.out
      have hp := HI.out k
      have hTK := textK_len L HI.out k
      have hst : textK L (k + 1) = (if k = 0 then [] else textK L k ++ [32]) ++ ptext (pickAt L k) := rfl
      have HS := Lib.hid hst
      have hpl := ptext_len (pickAt L k) hp.1 hp.2
      clear hc1 hst
      generalize pickAt L k = pk at *
      obtain ⟨x, y⟩ := pk
      dsimp only at c0 c1 hp hpl
      have HP := Lib.hid hp
      have hx := Lib.itoa_length_le x hp.1.1 hp.1.2
      have hy := Lib.itoa_length_le y hp.2.1 hp.2.2
      have s2 := cat_run (P := Tryd.prog) (Lib.itoa x) [58] (by simp; omega)
      have s3 := cat_run (P := Tryd.prog) (cat (Lib.itoa x) [58]) (Lib.itoa y) (by simp [cat_len]; omega)
      have hptx : ptext (x, y) = cat (cat (Lib.itoa x) [58]) (Lib.itoa y) := rfl
      have HPT := Lib.hid hptx
      rw [hptx] at hpl
      have HB2 := Lib.hid (HB.out.alloc HB.out.size (.cells #[.int .i64 x, .int .i64 y] 38))
      have HBK := Lib.hid (Bk.new wr 38 [.int .i64 x, .int .i64 y])
      have hwr : w.heap.size ≤ wr.heap.size := HB.out.size
      by_cases h0 : k = 0
      · subst h0
        simp only [Nat.zero_mul, Nat.add_zero] at c0 c1
        have HK := Lib.hid (show textK L (0 + 1) = cat (textK L 0) (cat (cat (Lib.itoa x) [58]) (Lib.itoa y)) by rw [HS.out, HPT.out]; rfl)
        have s4 := cat_run (P := Tryd.prog) (textK L 0) (cat (cat (Lib.itoa x) [58]) (Lib.itoa y)) (by omega)
        generalize textK L 0 = T at *
        clear hptx hTK hpl hx hy hp
        go_wp2_with fail
        go_region_held3 (fun w' => w'.cell? ⟨wr.heap.size, 0, none⟩ = some (.int .i64 x) ∧ w'.cell? ⟨wr.heap.size, 1, none⟩ = some (.int .i64 y) ∧ Below w.heap.size w w')
          (first
            | exact ⟨HBK.out.cell 0, HBK.out.cell 1, HB2.out.drew⟩
            | (go_split_ands; exact ⟨keepc (by assumption) hB, keepc (by assumption) hB, bel_then (by assumption) hB⟩))
          (first
            | (go_at_call 24; go_split_ands; refine (digits_any6 _ _ (by first | exact HP.out.1 | exact HP.out.2)).mono ?_; rintro e w' ⟨rfl, hB⟩))
        all_goals
          go_split_ands
          go_wp2_with fail
          go_roundw
          case rel => exact ⟨0 + 1, by omega, by go_num, by rw [HK.out], by assumption⟩
          case measure => simp [intOf]; omega
      · have HK := Lib.hid (show textK L (k + 1) = cat (cat (textK L k) [32]) (cat (cat (Lib.itoa x) [58]) (Lib.itoa y)) by rw [HS.out, HPT.out, if_neg h0]; rfl)
        have s1 := cat_run (P := Tryd.prog) (textK L k) [32] (by simp; omega)
        have s4 := cat_run (P := Tryd.prog) (cat (textK L k) [32]) (cat (cat (Lib.itoa x) [58]) (Lib.itoa y)) (by simp only [cat_len] at hpl ⊢; simp; omega)
        generalize textK L k = T at *
        have hk0 : 0 < k := by omega
        clear hptx hTK hpl hx hy hp h0
        go_wp2_with fail
        go_region_held3 (fun w' => w'.cell? ⟨wr.heap.size, 0, none⟩ = some (.int .i64 x) ∧ w'.cell? ⟨wr.heap.size, 1, none⟩ = some (.int .i64 y) ∧ Below w.heap.size w w')
          (first
            | exact ⟨HBK.out.cell 0, HBK.out.cell 1, HB2.out.drew⟩
            | (go_split_ands; exact ⟨keepc (by assumption) hB, keepc (by assumption) hB, bel_then (by assumption) hB⟩))
          (first
            | (go_at_call 24; go_split_ands; refine (digits_any6 _ _ (by first | exact HP.out.1 | exact HP.out.2)).mono ?_; rintro e w' ⟨rfl, hB⟩))
        all_goals
          go_split_ands
          go_wp2_with fail
          go_roundw
          case rel => exact ⟨k + 1, by omega, by go_num, by rw [HK.out], by assumption⟩
          case measure => simp [intOf]; omega
    · obtain rfl : k = L.length := by omega
      go_wp2_with fail
      go_ret
      exact ⟨rfl, HB.out⟩

end Go.Proofs.YtannfkibahinhaaDoor
