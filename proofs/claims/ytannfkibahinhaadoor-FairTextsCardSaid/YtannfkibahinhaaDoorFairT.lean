/-
  fair.Text: the contract.
-/
import Derived.Test.YtannfkibahinhaaDoorBuild
import Derived.Test.YtannfkibahinhaaDoorFairW
import Derived.Test.YtannfkibahinhaaDoorTake
import Derived.Lib.ItoaLen
import Derived.Lib.AppendIntMem
import Derived.Lib.LaidTab
namespace Go.Proofs.YtannfkibahinhaaDoor
open Go.RowKit

/-- What the library's table of powers of ten holds. -/
def Tab (w : World) : Prop := Lib.TabIs Tryd.prog w "internal/strconv.uint64pow10" .u64 Lib.pow10Tab
theorem tab_below {n : String} {g : Nat} {k : IntKind} {zs : List Int} {w w' : World} (hg : Tryd.prog.globalNamed n = some g) (h : Lib.TabIs Tryd.prog w n k zs) (hb : Below w.heap.size w w') : Lib.TabIs Tryd.prog w' n k zs := by
  unfold Lib.TabIs World.var? at h ⊢
  rw [hg] at h ⊢
  simp only [Option.bind_some] at h ⊢
  have hlt : g < w.heap.size := by
    rcases Nat.lt_or_ge g w.heap.size with h' | h'
    · exact h'
    · rw [Array.getElem?_eq_none h'] at h; cases h
  rw [hb.block g hlt]
  exact h
theorem Tab.below {w w' : World} (h : Tab w) (k : Below w.heap.size w w') : Tab w' := tab_below (g := 1) (by kernel_rfl) h k

theorem itoa_any (n : Int) (w : World) (h : -9223372036854775808 ≤ n ∧ n ≤ 9223372036854775807) (ht : Tab w) :
    Calls Tryd.prog 21 #[.int .i64 n] w fun e w' => e = .returned (.string ⟨(Lib.itoa n).toArray⟩) ∧ Below w.heap.size w w' :=
  (Tryd.strconv_Itoa n h.1 h.2 w ht).mono fun e w' ⟨he, k, os, hw⟩ => ⟨he, by rw [hw]; exact Lib.below_grow _ w (Nat.le_refl _) k os⟩

/-- A pick's text; the text of a script's first picks. -/
def ptext (p : Int × Int) : List UInt8 := cat (cat (Lib.itoa p.1) [58]) (Lib.itoa p.2)
def textK (L : List (Int × Int)) : Nat → List UInt8
  | 0 => []
  | k + 1 => (if k = 0 then [] else textK L k ++ [32]) ++ ptext (pickAt L k)
def I64 (n : Int) : Prop := -9223372036854775808 ≤ n ∧ n ≤ 9223372036854775807
theorem ptext_len (p : Int × Int) (h1 : I64 p.1) (h2 : I64 p.2) : (ptext p).length ≤ 43 := by
  have := Lib.itoa_length_le p.1 h1.1 h1.2
  have := Lib.itoa_length_le p.2 h2.1 h2.2
  simp [ptext, cat_len]; omega
theorem textK_len (L : List (Int × Int)) (hL : ∀ j, I64 (pickAt L j).1 ∧ I64 (pickAt L j).2) (k : Nat) : (textK L k).length ≤ 44 * k := by
  induction k with
  | zero => simp [textK]
  | succ k ih =>
    have := ptext_len (pickAt L k) (hL k).1 (hL k).2
    simp only [textK, List.length_append]
    split <;> simp <;> omega
theorem strCells_cells (l : List UInt8) : Lib.strCells ⟨l.toArray⟩ = l.map fun b => Value.int .u8 b.toNat := by simp [Lib.strCells]

theorem bld_below {T e : TypeId} {B b : Nat} {bs : List Value} {w w' : World} (h : Lib.IsBuilder T e B b bs w) (k : Below w.heap.size w w') : Lib.IsBuilder T e B b bs w' := by
  have aux : ∀ p, Lib.BuilderAt T e B b p bs w → Lib.BuilderAt T e B b p bs w' := fun p ⟨hB, v, hb, ho, hn⟩ => ⟨hB, v, (k.block b (lt_of_block hb)).trans hb, own_below ho k, hn⟩
  rcases h with h | h
  · exact .inl (aux _ h)
  · exact .inr (aux _ h)

set_option maxHeartbeats 3200000 in
set_option maxRecDepth 100000 in
theorem ftext_any (v : Value) (L : List (Int × Int)) (w : World) (hL : Picks w v L) (hl : L.length ≤ 1000) (hi64 : ∀ j, I64 (pickAt L j).1 ∧ I64 (pickAt L j).2) (ht : Tab w) :
    Calls Tryd.prog 6 #[v] w fun e w' => e = .returned (.string ⟨(textK L L.length).toArray⟩) ∧ Below w.heap.size w w' := by
  have Ht := Lib.hid ht
  have HI := Lib.hid hi64
  obtain ⟨o, c, rfl, hle, hc⟩ := hL
  have HC := Lib.hid hc
  clear hc ht hi64
  go_enter Tryd.func6, Tryd.ntmps6
  go_wp2_with fail
  go_loopw [8] (fun i wr => ∃ k : Nat, k ≤ L.length ∧ i = .int .i64 k ∧ Lib.IsBuilder 44 5 w.heap.size w.heap.size (Lib.byteCells (textK L k)) wr ∧ Below w.heap.size w wr)
    (fun i _ => L.length - (intOf i).toNat)
  case atStart => exact ⟨0, Nat.zero_le _, rfl, .inl ⟨Nat.le_refl _, .slice none 0 0, heap_alloc_new w _, World.ownsRow_nil _ _ _ _, by simp [Value.ownBlock]⟩, (Below.refl _ _).alloc (Nat.le_refl _) _⟩
  case round =>
    obtain ⟨k, hk, rfl, hb, hB⟩ := hrel
    have HX0 := Lib.hid hb
    have HB0 := Lib.hid hB
    clear hb hB
    have HLB := Lib.hid (textK_len L HI.out k)
    by_cases hlt : k < L.length
    · obtain ⟨b, off, rfl, hc⟩ := HC.out (by omega)
      obtain ⟨c0, c1⟩ := hc k hlt
      replace c0 := keepc c0 HB0.out
      replace c1 := keepc c1 HB0.out
      have HPB := Lib.hid (HI.out k)
      have hp1 := Lib.itoa_length_le (pickAt L k).1 (HI.out k).1.1 (HI.out k).1.2
      have hp2 := Lib.itoa_length_le (pickAt L k).2 (HI.out k).2.1 (HI.out k).2.2
      have hl1 := Lib.hid hp1
      have hl2 := Lib.hid hp2
      have s1 := cat_run (P := Tryd.prog) (Lib.itoa (pickAt L k).1) [58] (by simp; omega)
      have s2 := cat_run (P := Tryd.prog) (cat (Lib.itoa (pickAt L k).1) [58]) (Lib.itoa (pickAt L k).2) (by simp [cat_len]; omega)
      have HT := Lib.hid (show textK L (k + 1) = (if k = 0 then [] else textK L k ++ [32]) ++ cat (cat (Lib.itoa (pickAt L k).1) [58]) (Lib.itoa (pickAt L k).2) from rfl)
      clear hc hp1 hp2
      generalize pickAt L k = p at *
      have HKn := Lib.hid (Bk.new wr 38 [.int .i64 p.1, .int .i64 p.2])
      have HXn := Lib.hid (bld_below HX0.out ((Below.refl wr.heap.size wr).alloc (Nat.le_refl _) (.cells #[.int .i64 p.1, .int .i64 p.2] 38)))
      have HBn := Lib.hid (HB0.out.alloc HB0.out.size (.cells #[.int .i64 p.1, .int .i64 p.2] 38))
      by_cases h0 : 0 < k
      · have d0 : decide (0 < k) = true := by simpa using h0
        have HT1 := Lib.hid (show textK L (k + 1) = (textK L k ++ [32]) ++ cat (cat (Lib.itoa p.1) [58]) (Lib.itoa p.2) by rw [HT.out, if_neg (by omega)])
        clear HT h0
        go_wp2_with fail
        refine (bbyte_any w.heap.size w.heap.size _ _ _ HXn.out (by have := HLB.out; rw [Lib.byteCells_length]; omega) HBn.out.size).mono ?_
        rintro e w1 ⟨rfl, hX, hB, hT⟩
        have HX := Lib.hid (show Lib.IsBuilder 44 5 w.heap.size w.heap.size (Lib.byteCells (textK L k ++ [32])) w1 from .inr (by rw [Lib.byteCells, List.map_append]; exact hX))
        have HB1 := Lib.hid (HBn.out.trans hB)
        have HK1 := Lib.hid (hT _ _ _ (by decide) (by decide) HKn.out)
        clear hX hB hT
        replace HLB := Lib.hid (show (textK L k ++ [32]).length ≤ 44 * k + 1 by have := HLB.out; simp; omega)
        go_wp2_with fail
        have HBd := Lib.hid HB1.out.drew
        have HXd := Lib.hid (bld_below HX.out (Below.refl _ _).drew)
        have HKd := Lib.hid HK1.out.drew
        clear HB1 HX HK1
        have HB1 := HBd
        have HX := HXd
        have HK1 := HKd
        clear HBd HXd HKd
        refine wp_region_held_drew (S := fun w' : World => w'.cell? ⟨wr.heap.size, 0, none⟩ = some (.int .i64 p.1) ∧ w'.cell? ⟨wr.heap.size, 1, none⟩ = some (.int .i64 p.2)) (by kernel_rfl) ?_ (fun hHeld => ?_)
        · exact ⟨HK1.out.cell 0, HK1.out.cell 1⟩
        refine take_at 0 (v := ?_) (some 16) rfl rfl (by kernel_rfl) (by kernel_rfl) (by kernel_rfl) (fun _ _ _ h => h) (Or.inl ⟨by rfl, ?_⟩) hHeld ?_
        rotate_left
        · (intro w hSw; (try dsimp only at hSw); go_simp; (try with_reducible rfl))
        simp only [Act.put, List.setIfInBounds_toArray, List.set_cons_zero, List.set_cons_succ]
        refine take_at 1 (v := ?_) (some 17) rfl rfl (by kernel_rfl) (by kernel_rfl) (by kernel_rfl) (fun _ _ _ h => h) (Or.inl ⟨by rfl, ?_⟩) hHeld ?_
        rotate_left
        · (intro w hSw; (try dsimp only at hSw); go_simp; (try with_reducible rfl))
        simp only [Act.put, List.setIfInBounds_toArray, List.set_cons_zero, List.set_cons_succ]
        refine take_at 4 (v := ?_) (some 20) rfl rfl (by kernel_rfl) (by kernel_rfl) (by kernel_rfl) (fun _ _ _ h => h) (Or.inl ⟨by rfl, ?_⟩) hHeld ?_
        rotate_left
        · (intro w hSw; (try dsimp only at hSw); go_simp; (try with_reducible rfl))
        simp only [Act.put, List.setIfInBounds_toArray, List.set_cons_zero, List.set_cons_succ]
        refine take_at 5 (v := ?_) (some 21) rfl rfl (by kernel_rfl) (by kernel_rfl) (by kernel_rfl) (fun _ _ _ h => h) (Or.inl ⟨by rfl, ?_⟩) hHeld ?_
        rotate_left
        · (intro w hSw; (try dsimp only at hSw); go_simp; (try with_reducible rfl))
        simp only [Act.put, List.setIfInBounds_toArray, List.set_cons_zero, List.set_cons_succ]
        refine wpAnyH_ready (rs := [2]) (by kernel_rfl) (by simp) ?_
        refine AllReadyH.cons rfl (fun K hK => ?_) AllReadyH.nil
        go_simp
        refine (itoa_any _ _ HPB.out.1 (Ht.out.below HB1.out)).mono ?_
        rintro e w' ⟨rfl, hB⟩
        have HB2 := Lib.hid (bel_then HB1.out hB)
        have HX2 := Lib.hid (bld_below HX.out hB)
        have HK2 := Lib.hid (HK1.out.below hB)
        go_wp2_with fail
        refine hK.out _ _ ?_ (fun hHeld => ?_)
        · (try dsimp only at hHeld ⊢)
          go_split_ands
          exact (by first | exact ⟨HK4.out.cell 0, HK4.out.cell 1⟩ | exact ⟨HK3.out.cell 0, HK3.out.cell 1⟩ | exact ⟨HK2.out.cell 0, HK2.out.cell 1⟩)
        clear hK K hB
        try simp only [Act.put, List.setIfInBounds_toArray, List.set_cons_zero, List.set_cons_succ]
        refine take_at 3 (v := ?_) (some 19) rfl rfl (by kernel_rfl) (by kernel_rfl) (by kernel_rfl) (fun _ _ _ h => h) (Or.inl ⟨by rfl, ?_⟩) hHeld ?_
        rotate_left
        · (intro w hSw; (try dsimp only at hSw); go_simp; (try with_reducible rfl))
        simp only [Act.put, List.setIfInBounds_toArray, List.set_cons_zero, List.set_cons_succ]
        refine wpAnyH_ready (rs := [6]) (by kernel_rfl) (by simp) ?_
        refine AllReadyH.cons rfl (fun K hK => ?_) AllReadyH.nil
        go_simp
        refine (itoa_any _ _ HPB.out.2 (Ht.out.below HB2.out)).mono ?_
        rintro e w' ⟨rfl, hB⟩
        have HB3 := Lib.hid (bel_then HB2.out hB)
        have HX3 := Lib.hid (bld_below HX2.out hB)
        have HK3 := Lib.hid (HK2.out.below hB)
        go_wp2_with fail
        refine hK.out _ _ ?_ (fun hHeld => ?_)
        · (try dsimp only at hHeld ⊢)
          go_split_ands
          exact (by first | exact ⟨HK4.out.cell 0, HK4.out.cell 1⟩ | exact ⟨HK3.out.cell 0, HK3.out.cell 1⟩ | exact ⟨HK2.out.cell 0, HK2.out.cell 1⟩)
        clear hK K hB
        try simp only [Act.put, List.setIfInBounds_toArray, List.set_cons_zero, List.set_cons_succ]
        refine take_at 7 (v := ?_) (some 23) rfl rfl (by kernel_rfl) (by kernel_rfl) (by kernel_rfl) (fun _ _ _ h => h) (Or.inl ⟨by rfl, ?_⟩) hHeld ?_
        rotate_left
        · (intro w hSw; (try dsimp only at hSw); go_simp; (try with_reducible rfl))
        simp only [Act.put, List.setIfInBounds_toArray, List.set_cons_zero, List.set_cons_succ]
        refine wpAnyH_ready (rs := [8]) (by kernel_rfl) (by simp) ?_
        refine AllReadyH.cons rfl (fun K hK => ?_) AllReadyH.nil
        go_simp
        refine (bstr_any w.heap.size w.heap.size _ _ _ HX3.out (by have := HLB.out; have h1 := hl1.out; have h2 := hl2.out; rw [Lib.byteCells_length]; simp [ByteArray.size, cat_len] at *; omega) HB3.out.size).mono ?_
        rintro e w' ⟨rfl, hX4, hB, hT⟩
        have HB4 := Lib.hid (HB3.out.trans hB)
        have HX4 := Lib.hid hX4
        have HK4 := Lib.hid (hT _ _ _ (by decide) (by decide) HK3.out)
        clear hX4 hT
        go_wp2_with fail
        refine hK.out _ _ ?_ (fun hHeld => ?_)
        · (try dsimp only at hHeld ⊢)
          go_split_ands
          exact (by first | exact ⟨HK4.out.cell 0, HK4.out.cell 1⟩ | exact ⟨HK3.out.cell 0, HK3.out.cell 1⟩ | exact ⟨HK2.out.cell 0, HK2.out.cell 1⟩)
        clear hK K hB
        try simp only [Act.put, List.setIfInBounds_toArray, List.set_cons_zero, List.set_cons_succ]
        refine wpAnyH_done (by kernel_rfl) ?_ _
        go_split_ands
        go_wp2_with fail
        go_roundw
        case rel => exact ⟨k + 1, by omega, by go_num, by rw [HT1.out]; rw [Lib.byteCells, List.map_append]; refine .inr ?_; have h := HX4.out; rw [strCells_cells] at h; exact h, HB4.out⟩
        case measure => simp [intOf]; omega
      · have d0 : decide (0 < k) = false := by simp; omega
        have HT1 := Lib.hid (show textK L (k + 1) = textK L k ++ cat (cat (Lib.itoa p.1) [58]) (Lib.itoa p.2) by obtain rfl : k = 0 := (by omega); rw [HT.out]; rfl)
        clear HT h0
        have HX := HXn
        have HB1 := HBn
        have HK1 := HKn
        go_wp2_with fail
        have HBd := Lib.hid HB1.out.drew
        have HXd := Lib.hid (bld_below HX.out (Below.refl _ _).drew)
        have HKd := Lib.hid HK1.out.drew
        clear HB1 HX HK1
        have HB1 := HBd
        have HX := HXd
        have HK1 := HKd
        clear HBd HXd HKd
        refine wp_region_held_drew (S := fun w' : World => w'.cell? ⟨wr.heap.size, 0, none⟩ = some (.int .i64 p.1) ∧ w'.cell? ⟨wr.heap.size, 1, none⟩ = some (.int .i64 p.2)) (by kernel_rfl) ?_ (fun hHeld => ?_)
        · exact ⟨HK1.out.cell 0, HK1.out.cell 1⟩
        refine take_at 0 (v := ?_) (some 16) rfl rfl (by kernel_rfl) (by kernel_rfl) (by kernel_rfl) (fun _ _ _ h => h) (Or.inl ⟨by rfl, ?_⟩) hHeld ?_
        rotate_left
        · (intro w hSw; (try dsimp only at hSw); go_simp; (try with_reducible rfl))
        simp only [Act.put, List.setIfInBounds_toArray, List.set_cons_zero, List.set_cons_succ]
        refine take_at 1 (v := ?_) (some 17) rfl rfl (by kernel_rfl) (by kernel_rfl) (by kernel_rfl) (fun _ _ _ h => h) (Or.inl ⟨by rfl, ?_⟩) hHeld ?_
        rotate_left
        · (intro w hSw; (try dsimp only at hSw); go_simp; (try with_reducible rfl))
        simp only [Act.put, List.setIfInBounds_toArray, List.set_cons_zero, List.set_cons_succ]
        refine take_at 4 (v := ?_) (some 20) rfl rfl (by kernel_rfl) (by kernel_rfl) (by kernel_rfl) (fun _ _ _ h => h) (Or.inl ⟨by rfl, ?_⟩) hHeld ?_
        rotate_left
        · (intro w hSw; (try dsimp only at hSw); go_simp; (try with_reducible rfl))
        simp only [Act.put, List.setIfInBounds_toArray, List.set_cons_zero, List.set_cons_succ]
        refine take_at 5 (v := ?_) (some 21) rfl rfl (by kernel_rfl) (by kernel_rfl) (by kernel_rfl) (fun _ _ _ h => h) (Or.inl ⟨by rfl, ?_⟩) hHeld ?_
        rotate_left
        · (intro w hSw; (try dsimp only at hSw); go_simp; (try with_reducible rfl))
        simp only [Act.put, List.setIfInBounds_toArray, List.set_cons_zero, List.set_cons_succ]
        refine wpAnyH_ready (rs := [2]) (by kernel_rfl) (by simp) ?_
        refine AllReadyH.cons rfl (fun K hK => ?_) AllReadyH.nil
        go_simp
        refine (itoa_any _ _ HPB.out.1 (Ht.out.below HB1.out)).mono ?_
        rintro e w' ⟨rfl, hB⟩
        have HB2 := Lib.hid (bel_then HB1.out hB)
        have HX2 := Lib.hid (bld_below HX.out hB)
        have HK2 := Lib.hid (HK1.out.below hB)
        go_wp2_with fail
        refine hK.out _ _ ?_ (fun hHeld => ?_)
        · (try dsimp only at hHeld ⊢)
          go_split_ands
          exact (by first | exact ⟨HK4.out.cell 0, HK4.out.cell 1⟩ | exact ⟨HK3.out.cell 0, HK3.out.cell 1⟩ | exact ⟨HK2.out.cell 0, HK2.out.cell 1⟩)
        clear hK K hB
        try simp only [Act.put, List.setIfInBounds_toArray, List.set_cons_zero, List.set_cons_succ]
        refine take_at 3 (v := ?_) (some 19) rfl rfl (by kernel_rfl) (by kernel_rfl) (by kernel_rfl) (fun _ _ _ h => h) (Or.inl ⟨by rfl, ?_⟩) hHeld ?_
        rotate_left
        · (intro w hSw; (try dsimp only at hSw); go_simp; (try with_reducible rfl))
        simp only [Act.put, List.setIfInBounds_toArray, List.set_cons_zero, List.set_cons_succ]
        refine wpAnyH_ready (rs := [6]) (by kernel_rfl) (by simp) ?_
        refine AllReadyH.cons rfl (fun K hK => ?_) AllReadyH.nil
        go_simp
        refine (itoa_any _ _ HPB.out.2 (Ht.out.below HB2.out)).mono ?_
        rintro e w' ⟨rfl, hB⟩
        have HB3 := Lib.hid (bel_then HB2.out hB)
        have HX3 := Lib.hid (bld_below HX2.out hB)
        have HK3 := Lib.hid (HK2.out.below hB)
        go_wp2_with fail
        refine hK.out _ _ ?_ (fun hHeld => ?_)
        · (try dsimp only at hHeld ⊢)
          go_split_ands
          exact (by first | exact ⟨HK4.out.cell 0, HK4.out.cell 1⟩ | exact ⟨HK3.out.cell 0, HK3.out.cell 1⟩ | exact ⟨HK2.out.cell 0, HK2.out.cell 1⟩)
        clear hK K hB
        try simp only [Act.put, List.setIfInBounds_toArray, List.set_cons_zero, List.set_cons_succ]
        refine take_at 7 (v := ?_) (some 23) rfl rfl (by kernel_rfl) (by kernel_rfl) (by kernel_rfl) (fun _ _ _ h => h) (Or.inl ⟨by rfl, ?_⟩) hHeld ?_
        rotate_left
        · (intro w hSw; (try dsimp only at hSw); go_simp; (try with_reducible rfl))
        simp only [Act.put, List.setIfInBounds_toArray, List.set_cons_zero, List.set_cons_succ]
        refine wpAnyH_ready (rs := [8]) (by kernel_rfl) (by simp) ?_
        refine AllReadyH.cons rfl (fun K hK => ?_) AllReadyH.nil
        go_simp
        refine (bstr_any w.heap.size w.heap.size _ _ _ HX3.out (by have := HLB.out; have h1 := hl1.out; have h2 := hl2.out; rw [Lib.byteCells_length]; simp [ByteArray.size, cat_len] at *; omega) HB3.out.size).mono ?_
        rintro e w' ⟨rfl, hX4, hB, hT⟩
        have HB4 := Lib.hid (HB3.out.trans hB)
        have HX4 := Lib.hid hX4
        have HK4 := Lib.hid (hT _ _ _ (by decide) (by decide) HK3.out)
        clear hX4 hT
        go_wp2_with fail
        refine hK.out _ _ ?_ (fun hHeld => ?_)
        · (try dsimp only at hHeld ⊢)
          go_split_ands
          exact (by first | exact ⟨HK4.out.cell 0, HK4.out.cell 1⟩ | exact ⟨HK3.out.cell 0, HK3.out.cell 1⟩ | exact ⟨HK2.out.cell 0, HK2.out.cell 1⟩)
        clear hK K hB
        try simp only [Act.put, List.setIfInBounds_toArray, List.set_cons_zero, List.set_cons_succ]
        refine wpAnyH_done (by kernel_rfl) ?_ _
        go_split_ands
        go_wp2_with fail
        go_roundw
        case rel => exact ⟨k + 1, by omega, by go_num, by rw [HT1.out]; rw [Lib.byteCells, List.map_append]; refine .inr ?_; have h := HX4.out; rw [strCells_cells] at h; exact h, HB4.out⟩
        case measure => simp [intOf]; omega
    · obtain rfl : L.length = k := by omega
      go_wp2_with fail
      refine (Tryd.Builder_String_any w.heap.size w.heap.size _ _ HX0.out HB0.out.size).mono ?_
      rintro e w1 ⟨rfl, hB⟩
      have HB1 := Lib.hid (HB0.out.trans hB)
      clear hB
      go_wp2_with fail
      go_ret
      exact ⟨rfl, HB1.out⟩

end Go.Proofs.YtannfkibahinhaaDoor
