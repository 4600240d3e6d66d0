/-
  soughref12.Bottom, Top, Value, Join, Below, Rank: contracts.
-/
import Derived.Test.YtflkelnfdoihlaaLat5
import Derived.Test.YtflkelnfdoihlaaTake
import Derived.Deep.AppendLies
namespace Go.Proofs.Ytflkelnfdoihlaa
open Go.RowKit

theorem isL_width {what width : Int} (h : isL what width = true) : 0 ≤ width ∧ width ≤ 1024 := by
  simp only [isL, decide_eq_true_eq] at h; omega

set_option maxHeartbeats 3200000 in
set_option maxRecDepth 100000 in
theorem rbottom_any (what width : Int) (w : World) :
    Calls Try.prog 15 #[.int .i64 what, .int .i64 width] w fun e w' => ∃ v, e = .returned v ∧ Ws w' v (bottomE what width) ∧ Below w.heap.size w w' := by
  have hn := wordsN_le what width
  have hmk := make_u64 (wordsN what width) (wordsN what width) rfl (by omega)
  have rest : ∀ h : bottomE what width = List.replicate (wordsN what width) 0, Ws (w.alloc (.cells (Array.replicate (wordsN what width) (Value.int .u64 0)) 29)) (.slice (some ⟨w.heap.size, 0, none⟩) (wordsN what width) (wordsN what width)) (bottomE what width) := fun h => by
    rw [h]; exact (zeros_bk' w _).ws List.length_replicate (zeros_lt _)
  have HR := Lib.hid rest
  have HB0 := Lib.hid ((Below.refl w.heap.size w).alloc (Nat.le_refl _) (.cells (Array.replicate (wordsN what width) (Value.int .u64 0)) 29))
  clear rest
  go_enter Try.func15, Try.ntmps15
  go_wp2_with fail
  refine (rlis_any _ _ _).mono ?_
  rintro e w1 ⟨rfl, hww⟩
  subst w1
  cases hL : isL what width with
  | false =>
    have H := Lib.hid (show bottomE what width = List.replicate (wordsN what width) 0 by unfold bottomE; rw [hL, if_neg (by simp)])
    clear hL
    go_wp2_with fail
    refine (rlwords_any _ _ _).mono ?_
    rintro e w1 ⟨rfl, hww⟩
    subst w1
    go_wp2_with fail
    go_ret
    exact ⟨_, rfl, HR.out H.out, HB0.out⟩
  | true =>
    by_cases h2 : what = 2
    · subst h2
      have H := Lib.hid (show bottomE 2 width = fullE width by unfold bottomE; rw [if_pos ⟨rfl, hL⟩])
      have hwd := isL_width hL
      clear hL
      go_wp2_with fail
      refine (rlfull_any _ _ hwd).mono ?_
      rintro e w3 ⟨u, rfl, hW, hB⟩
      have HW := Lib.hid hW
      have HB := Lib.hid hB
      obtain ⟨p3, c3, rfl⟩ := ws_len hW
      clear hW hB
      go_wp2_with fail
      go_ret
      exact ⟨_, rfl, by rw [H.out]; exact HW.out, HB.out⟩
    · have H := Lib.hid (show bottomE what width = List.replicate (wordsN what width) 0 by unfold bottomE; rw [if_neg (by omega)])
      have e2 : (what == 2) = false := by simpa using h2
      clear hL h2
      go_wp2_with fail
      refine (rlwords_any _ _ _).mono ?_
      rintro e w1 ⟨rfl, hww⟩
      subst w1
      go_wp2_with fail
      go_ret
      exact ⟨_, rfl, HR.out H.out, HB0.out⟩

/-- What the document's Top has written when k places are over. -/
def tpK (what : Int) (n k : Nat) : List Nat := madeK (fun _ => if what = 3 then 1 else 0) n k
theorem tpK_same {what : Int} (h : what ≠ 3) (n k : Nat) : tpK what n k = List.replicate n 0 := by
  unfold tpK madeK
  rw [if_neg h]
  refine List.ext_getElem (by simp) fun i h1 h2 => by simp

set_option maxHeartbeats 6400000 in
set_option maxRecDepth 100000 in
theorem rtop_any (what width : Int) (w : World) :
    Calls Try.prog 17 #[.int .i64 what, .int .i64 width] w fun e w' => ∃ v, e = .returned v ∧ Ws w' v (topE what width) ∧ Below w.heap.size w w' := by
  have hn := wordsN_le what width
  have hmk := make_u64 (wordsN what width) (wordsN what width) rfl (by omega)
  have hcase : (what = 1 ∧ isL what width = true) ∨ (topE what width = tpK what (wordsN what width) (wordsN what width) ∧ ((isL what width = true ∧ what ≠ 1) ∨ isL what width = false)) := by
    by_cases h : what = 1 ∧ isL what width = true
    · exact .inl h
    · refine .inr ⟨?_, ?_⟩
      · unfold topE tpK
        rw [if_neg h, madeK_all]
        refine List.ext_getElem (by simp) fun i h1 h2 => by simp
      · cases hL : isL what width with
        | false => exact .inr rfl
        | true => exact .inl ⟨rfl, fun e => h ⟨e, hL⟩⟩
  go_enter Try.func17, Try.ntmps17
  go_wp2_with fail
  refine (rlis_any _ _ _).mono ?_
  rintro e w1 ⟨rfl, hww⟩
  subst w1
  rcases hcase with ⟨rfl, hL⟩ | ⟨hT, hq⟩
  · have H := Lib.hid (show topE 1 width = fullE width by unfold topE; rw [if_pos ⟨rfl, hL⟩])
    have hwd := isL_width hL
    rw [hL]
    clear hL hmk
    go_wp2_with fail
    refine (rlfull_any _ _ hwd).mono ?_
    rintro e w3 ⟨u, rfl, hW, hB⟩
    have HW := Lib.hid hW
    have HB := Lib.hid hB
    obtain ⟨p3, c3, rfl⟩ := ws_len hW
    clear hW hB
    go_wp2_with fail
    go_ret
    exact ⟨_, rfl, by rw [H.out]; exact HW.out, HB.out⟩
  · have HT := Lib.hid hT
    clear hT
    have hgate : isL what width = false ∨ (isL what width = true ∧ (what == 1) = false) := by
      rcases hq with ⟨h1, h2⟩ | h
      · exact .inr ⟨h1, by simpa using h2⟩
      · exact .inl h
    clear hq
    obtain ⟨n, hne⟩ : ∃ n, n = wordsN what width := ⟨_, rfl⟩
    have HNE := Lib.hid hne
    obtain ⟨bl, hbl⟩ : ∃ b, b = isL what width := ⟨_, rfl⟩
    rw [← hbl] at hgate ⊢
    rw [← hne] at hn HT hmk
    clear hne hbl
    have H0 := Lib.hid (show (bl = false ∨ (bl = true ∧ (what == 1) = false)) from hgate)
    have HW1 : ∀ w0, Calls Try.prog 12 #[.int .i64 what, .int .i64 width] w0 fun e w' => e = .returned (.int .i64 (n : Nat)) ∧ w' = w0 := fun w0 => by rw [HNE.out]; exact rlwords_any what width w0
    rcases hgate with rfl | ⟨rfl, hne1⟩
    all_goals
      go_wp2_with fail
      refine (HW1 _).mono ?_
      rintro e w1 ⟨rfl, hww⟩
      subst w1
      go_wp2_with fail
      clear hmk HW1
      go_loopw [22] (fun i wr => ∃ k : Nat, k ≤ n ∧ i = .int .i64 k ∧ Bk wr w.heap.size 29 (u64s (tpK what n k)) ∧ Below w.heap.size w wr)
        (fun i _ => n - (intOf i).toNat)
      case atStart => exact ⟨0, Nat.zero_le _, rfl, by unfold tpK; rw [madeK_zero]; first | exact zeros_bk' _ _ | exact zeros_bk _ _, (Below.refl _ _).alloc (Nat.le_refl _) _⟩
      case round =>
        obtain ⟨k, hk, rfl, hbk, hB⟩ := hrel
        have HK := Lib.hid hbk
        have HB := Lib.hid hB
        clear hbk hB
        by_cases hlt : k < n
        · by_cases h3 : what = 3
          · subst h3
            have hcell : wr.cell? ⟨w.heap.size, k, none⟩ = some (.int .u64 (wAt (tpK 3 n k) k : Nat)) := by
              rw [HK.out.cell, u64s_at _ _ (by unfold tpK; rw [madeK_len]; exact hlt)]
            have hfree := HK.out.free k
            have HBk := Lib.hid (HK.out.set k (.int .u64 ((1 : Nat) : Int)))
            rw [← u64s_set, show (tpK 3 n k).set k 1 = tpK 3 n (k + 1) from madeK_step _ n k] at HBk
            generalize wAt (tpK 3 n k) k = z at *
            go_wp2_with fail
            go_roundw
            case rel => exact ⟨k + 1, by omega, by go_num, HBk.out, HB.out.setCell (p := ⟨w.heap.size, k, none⟩) (Nat.le_refl _) _⟩
            case measure => simp [intOf]; omega
          · have e3 : (what == 3) = false := by simpa using h3
            have HK2 := HK
            rw [tpK_same h3, ← tpK_same h3 n (k + 1)] at HK2
            clear h3
            go_wp2_with fail
            go_roundw
            case rel => exact ⟨k + 1, by omega, by go_num, HK2.out, HB.out⟩
            case measure => simp [intOf]; omega
        · obtain rfl : k = n := by omega
          go_wp2_with fail
          go_ret
          refine ⟨_, rfl, ?_, HB.out⟩
          rw [HT.out]
          exact HK.out.ws (by unfold tpK; rw [madeK_len]) (by unfold tpK; rw [madeK_all]; exact made_lt fun i _ => by split <;> decide)

set_option maxHeartbeats 3200000 in
set_option maxRecDepth 100000 in
theorem rval_any (what width : Int) (v : Value) (a : List Nat) (w : World) (hw : Ws w v a) (hx : a.length ≤ 100000) :
    Calls Try.prog 19 #[.int .i64 what, .int .i64 width, v] w fun e w' => e = .returned (.bool (valueE what width a)) ∧ Below w.heap.size w w' := by
  have hn := wordsN_le what width
  have HZ := Lib.hid hw.1
  have HW := Lib.hid hw
  obtain ⟨p, c, rfl, hc⟩ := ws_row hw
  have HC := Lib.hid hc
  have B0 := Lib.hid (Below.refl w.heap.size w)
  clear hw hc
  go_enter Try.func19, Try.ntmps19
  go_wp2_with fail
  refine (rlis_any _ _ _).mono ?_
  rintro e w1 ⟨rfl, hww⟩
  subst w1
  cases hL : isL what width with
  | false =>
    have H := Lib.hid (show valueE what width a = false by unfold valueE; rw [hL]; rfl)
    clear hL
    go_wp2_with fail
    go_ret
    exact ⟨ret_bool H.out.symm, B0.out⟩
  | true =>
    have HL := Lib.hid hL
    clear hL
    go_wp2_with fail
    refine (rlwords_any _ _ _).mono ?_
    rintro e w1 ⟨rfl, hww⟩
    subst w1
    by_cases hl : a.length = wordsN what width
    · have hb : ((a.length : Int) != ((wordsN what width : Nat) : Int)) = false := by simp; omega
      have Hl := Lib.hid hl
      clear hl
      by_cases h3 : what = 3
      · subst h3
        have H1 := Lib.hid (show (∀ i, i < a.length → souN (wAt a i) = true) → valueE 3 width a = true from fun h => by
          unfold valueE; rw [HL.out, decide_eq_true Hl.out, if_pos rfl, all_at h]; rfl)
        have H0 := Lib.hid (show ∀ i, i < a.length → souN (wAt a i) = false → valueE 3 width a = false from fun i hi h => by
          unfold valueE; rw [if_pos rfl, all_not hi h]; simp)
        go_wp2_with fail
        go_loopw [28] (fun i wr => ∃ k : Nat, k ≤ a.length ∧ i = .int .i64 k ∧ Hid (∀ i, i < k → souN (wAt a i) = true) ∧ Below w.heap.size w wr)
          (fun i _ => a.length - (intOf i).toNat)
        case atStart => exact ⟨0, Nat.zero_le _, rfl, Lib.hid (fun i h => by omega), B0.out⟩
        case round =>
          obtain ⟨k, hk, rfl, HA, hB⟩ := hrel
          have HB := Lib.hid hB
          clear hB
          by_cases hlt : k < a.length
          · obtain ⟨ad, rfl, q⟩ := HC.out (by omega)
            have hck := keepc (q k hlt) HB.out
            rw [show a[k]?.getD 0 = wAt a k from rfl] at hck
            have H0k := Lib.hid (H0.out k hlt)
            have HS := Lib.hid (show souN (wAt a k) = true → ∀ i, i < k + 1 → souN (wAt a i) = true from fun e i hi => by
              rcases (show i < k ∨ i = k by omega) with h | rfl
              · exact HA.out i h
              · exact e)
            have hz := wAt_lt HZ.out k
            clear q
            generalize wAt a k = z at *
            go_wp2_with fail
            refine (norm_any z _ (by omega)).mono ?_
            rintro e w2 ⟨rfl, hB2⟩
            have HB2 := Lib.hid (HB.out.trans (hB2.mono HB.out.size))
            clear hB2
            by_cases hs : sou (z : Int) = (z : Int)
            · have HS2 := Lib.hid (HS.out (by unfold souN; rw [beq_iff_eq]; exact hs))
              have hbb : (sou (z : Int) != (z : Int)) = false := by rw [hs]; simp
              clear hs
              generalize sou (z : Int) = sz at *
              go_wp2_with fail
              go_roundw
              case rel => exact ⟨k + 1, by omega, by go_num, HS2, HB2.out⟩
              case measure => simp [intOf]; omega
            · have HV := Lib.hid (H0k.out (by unfold souN; rw [beq_eq_false_iff_ne]; exact hs))
              have hbb : (sou (z : Int) != (z : Int)) = true := by simpa using hs
              clear hs
              generalize sou (z : Int) = sz at *
              go_wp2_with fail
              go_ret
              exact ⟨ret_bool HV.out.symm, HB2.out⟩
          · obtain rfl : k = a.length := by omega
            have HV := Lib.hid (H1.out HA.out)
            go_wp2_with fail
            go_ret
            exact ⟨ret_bool HV.out.symm, HB.out⟩
      · have hne : (what != 3) = true := by simp; omega
        have HV := Lib.hid (show valueE what width a = fitsE a width by
          unfold valueE; rw [HL.out, decide_eq_true Hl.out, if_neg h3]; rfl)
        have hl16 : a.length ≤ 1000 := by
          have h1 := Hl.out
          have h2 : wordsN what width = sizeE width := by unfold wordsN; rw [if_pos HL.out, if_neg h3]
          have := sizeE_le width
          omega
        clear h3
        go_wp2_with fail
        refine (rfits_any _ _ _ _ HW.out hl16).mono ?_
        rintro e w2 ⟨rfl, hB2⟩
        have HB2 := Lib.hid hB2
        clear hB2
        rw [← HV.out]
        go_wp2_with fail
        go_ret
        exact ⟨rfl, HB2.out⟩
    · have hb : ((a.length : Int) != ((wordsN what width : Nat) : Int)) = true := by simp; omega
      have HV := Lib.hid (show valueE what width a = false by unfold valueE; rw [decide_eq_false hl]; simp)
      clear hl
      go_wp2_with fail
      go_ret
      exact ⟨ret_bool HV.out.symm, B0.out⟩

end Go.Proofs.Ytflkelnfdoihlaa
