/-
  gauss.Text: the contract. (strconv.Itoa by the library's shelf.)
-/
import Derived.Test.YtdifegcpfpdngaaDoorShelf
import Derived.Test.YtdifegcpfpdngaaDoorGauss
import Derived.Deep.RegionHeld3
import Derived.Lib.ItoaLen
import Derived.Lib.AppendIntMem
import Derived.Lib.LaidTab
namespace Go.Proofs.YtdifegcpfpdngaaDoor
open Go.RowKit

/-- What the library's table of powers of ten holds. -/
def Tab (w : World) : Prop := Lib.TabIs Tryd.prog w "internal/strconv.uint64pow10" .u64 Lib.pow10Tab
theorem tab_below {n : String} {g : Nat} {k : IntKind} {zs : List Int} {w w' : World} (hg : Tryd.prog.globalNamed n = some g) (h : Lib.TabIs Tryd.prog w n k zs) (hb : Below w.heap.size w w') : Lib.TabIs Tryd.prog w' n k zs := by
  unfold Lib.TabIs World.var? at h ⊢
  rw [hg] at h ⊢
  simp only [Option.bind_some] at h ⊢
  have hlt : g < w.heap.size := by
    rcases Nat.lt_or_ge g w.heap.size with h' | h'
    · exact h'
    · rw [Array.getElem?_eq_none h'] at h; cases h
  rw [hb.block g hlt]
  exact h
theorem Tab.below {w w' : World} (h : Tab w) (k : Below w.heap.size w w') : Tab w' := tab_below (g := 1) (by kernel_rfl) h k

/-- A text. -/
def str (l : List UInt8) : Value := .string ⟨l.toArray⟩

theorem itoa_any (n : Int) (w : World) (h : -32768 ≤ n ∧ n ≤ 32767) (ht : Tab w) :
    Calls Tryd.prog 51 #[.int .i64 n] w fun e w' => e = .returned (.string ⟨(Lib.itoa n).toArray⟩) ∧ Below w.heap.size w w' :=
  (Tryd.strconv_Itoa n (by omega) (by omega) w ht).mono fun e w' ⟨he, k, os, hw⟩ => ⟨he, by rw [hw]; exact Lib.below_grow _ w (Nat.le_refl _) k os⟩

/-- A number's text. -/
def ntext (a b : Int) : List UInt8 := if wr b = 0 then Lib.itoa (wr a) else cat (cat (cat (cat [40] (Lib.itoa (wr a))) [44]) (Lib.itoa (wr b))) [41]

set_option maxHeartbeats 1600000 in
set_option maxRecDepth 100000 in
theorem text_any (a b : Int) (w : World) (ht : Tab w) :
    Calls Tryd.prog 10 #[.agg #[.int .i64 a, .int .i64 b]] w fun e w' => e = .returned (.string ⟨(ntext a b).toArray⟩) ∧ Below w.heap.size w w' := by
  have Ht := Lib.hid ht
  clear ht
  have hb := And.intro (wr_bd a) (wr_bd b)
  have Hb := Lib.hid hb
  clear hb
  go_enter Tryd.func10, Tryd.ntmps10
  go_wp2_with fail
  refine (of_any _ _ _).mono ?_
  rintro e w1 ⟨rfl, hB1⟩
  have p := (P2.new w (.int .i64 a) (.int .i64 b) 23).keep hB1
  have P := Lib.hid (p.set (.int .i64 (wr a)) (.int .i64 (wr b)))
  obtain ⟨a0, a1, a2, a3⟩ := p
  have HB := Lib.hid (bel_set2 (((Below.refl w.heap.size w).alloc (Nat.le_refl _) (.cells #[.int .i64 a, .int .i64 b] 23)).trans (hB1.mono (by simp))) (Nat.le_refl _) (.int .i64 (wr a)) (.int .i64 (wr b)))
  clear hB1
  by_cases hz : wr b = 0
  · have hn : ntext a b = Lib.itoa (wr a) := if_pos hz
    have Hn := Lib.hid hn
    have e0 : (wr b == 0) = true := by rw [hz]; rfl
    clear hz hn
    go_wp2_with fail
    refine (itoa_any _ _ Hb.out.1 (Ht.out.below HB.out)).mono ?_
    rintro e w2 ⟨rfl, hB2⟩
    have HB2 := Lib.hid hB2
    clear hB2
    go_wp2_with fail
    go_ret
    exact ⟨ret_str Hn.out.symm, bel_then HB.out HB2.out⟩
  · have hn : ntext a b = cat (cat (cat (cat [40] (Lib.itoa (wr a))) [44]) (Lib.itoa (wr b))) [41] := if_neg hz
    have Hn := Lib.hid hn
    have e0 : (wr b == 0) = false := by simpa using hz
    clear hz hn
    have hl1 := Lib.itoa_length_le (wr a) (by have := Hb.out; omega) (by have := Hb.out; omega)
    have hl2 := Lib.itoa_length_le (wr b) (by have := Hb.out; omega) (by have := Hb.out; omega)
    have s1 := cat_run (P := Tryd.prog) [40] (Lib.itoa (wr a)) (by simp; omega)
    have s2 := cat_run (P := Tryd.prog) (cat [40] (Lib.itoa (wr a))) [44] (by simp [cat_len]; omega)
    have s3 := cat_run (P := Tryd.prog) (cat (cat [40] (Lib.itoa (wr a))) [44]) (Lib.itoa (wr b)) (by simp [cat_len]; omega)
    have s4 := cat_run (P := Tryd.prog) (cat (cat (cat [40] (Lib.itoa (wr a))) [44]) (Lib.itoa (wr b))) [41] (by simp [cat_len]; omega)
    clear hl1 hl2
    go_wp2_with fail
    generalize (w1.setCell ⟨w.heap.size, 0, none⟩ (.int .i64 (wr a))).setCell ⟨w.heap.size, 1, none⟩ (.int .i64 (wr b)) = W1 at *
    clear a0 a1 a2 a3
    go_region_held3 (fun w' => w'.cell? ⟨w.heap.size, 0, none⟩ = some (.int .i64 (wr a)) ∧ w'.cell? ⟨w.heap.size, 1, none⟩ = some (.int .i64 (wr b)) ∧ Below w.heap.size w w')
      (first
        | exact ⟨P.out.1, P.out.2.1, HB.out.drew⟩
        | (go_split_ands; exact ⟨keepc (by assumption) hB, keepc (by assumption) hB, bel_then (by assumption) hB⟩))
      (first
        | (go_at_call 51; go_split_ands; refine (itoa_any _ _ (by first | exact Hb.out.1 | exact Hb.out.2) (Ht.out.below (by assumption))).mono ?_; rintro e w' ⟨rfl, hB⟩))
    all_goals
      go_split_ands
      go_wp2_with fail
      go_ret
      exact ⟨ret_str Hn.out.symm, by assumption⟩

end Go.Proofs.YtdifegcpfpdngaaDoor
