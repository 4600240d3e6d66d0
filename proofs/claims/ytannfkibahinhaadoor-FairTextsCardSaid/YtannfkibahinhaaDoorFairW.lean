/-
  sched.Who, fair.Window, fair.Is: contracts.
-/
import Derived.Test.YtannfkibahinhaaDoorPicks
import Derived.Deep.OwnRows
namespace Go.Proofs.YtannfkibahinhaaDoor
open Go.RowKit

theorem int_info : (Tryd.prog.info? 3).map (fun i => (i.zero, i.size, i.bytes)) = some (some (.int .i64 0), 1, 8) := by kernel_rfl
theorem make_int (n : Nat) (k : Int) (hk : (n : Int) = k) (hn : n ≤ 1048576) (w : World) :
    (Instr.makeSlice 66 (.int .i64 k) (.int .i64 k)).run Tryd.prog w = .ok (.slice (some ⟨w.heap.size, 0, none⟩) n n) (w.alloc (.cells (List.replicate n (Value.int .i64 0)).toArray 3)) := by
  subst hk
  have e : madeCells #[Value.int .i64 0] n = (List.replicate n (Value.int .i64 0)).toArray := by rw [← Array.toList_inj, toList_madeCells_one]
  rw [← e]
  exact run_make_row' (P := Tryd.prog) 66 3 (.int .i64 0) 8 Tryd.underlying66 int_info rfl .i64 .i64 n (by omega) (by omega) w

theorem who_any (x d : Int) (n : Nat) (w : World) (hn : n ≤ 1048576) :
    Calls Tryd.prog 37 #[.agg #[.int .i64 x, .int .i64 d], .int .i64 n] w fun e w' => e = .returned (.int .i64 (whoE x n)) ∧ Below w.heap.size w w' := by
  by_cases h0 : n = 0
  · subst h0
    have Hr := Lib.hid (show whoE x ((0 : Nat) : Int) = 0 by unfold whoE; simp)
    go_enter Tryd.func37, Tryd.ntmps37
    go_wp2
    go_ret
    exact ⟨ret_int Hr.out.symm, (Below.refl _ _).alloc (Nat.le_refl _) _⟩
  · have h1 : ¬ ((n : Int) < 1) := by omega
    have h2 : ¬ ((n : Int) = 0) := by omega
    rcases whoE_cases x n (by omega) with ⟨h3, h4, h5⟩ | ⟨h3, h4, h5⟩
    all_goals
      have Hr := Lib.hid h5
      clear h5
      go_enter Tryd.func37, Tryd.ntmps37
      go_wp2
      go_ret
      exact ⟨ret_int Hr.out.symm, (Below.refl _ _).alloc (Nat.le_refl _) _⟩

/-- How many workers count. -/
def workn (n : Int) : Nat := (min (max n 1) 64).toNat
theorem workn_bd (n : Int) : 0 < workn n ∧ workn n ≤ 64 := by unfold workn; omega
theorem workn_cases (n : Int) : (n < 1 ∧ (workn n : Int) = 1) ∨ (1 ≤ n ∧ n ≤ 64 ∧ (workn n : Int) = n) ∨ (64 < n ∧ (workn n : Int) = 64) := by unfold workn; omega
theorem workers_any (n : Int) (w : World) : Calls Tryd.prog 31 #[.int .i64 n] w fun e w' => e = .returned (.int .i64 (workn n)) ∧ w' = w := by
  rcases workn_cases n with ⟨h, hr⟩ | ⟨h, h', hr⟩ | ⟨h, hr⟩
  all_goals
    have Hr := Lib.hid hr
    clear hr
    go_enter Tryd.func31, Tryd.ntmps31
    go_wp2
    go_ret
    exact ⟨ret_int Hr.out.symm, rfl⟩

/-- Whom pick number j names. -/
def wsE (L : List (Int × Int)) (n : Nat) (j : Nat) : Nat := (whoE (pickAt L j).1 n).toNat
theorem wsE_lt (L : List (Int × Int)) (n : Nat) (hn : 0 < n) (j : Nat) : wsE L n j < n := by have := whoE_lt (pickAt L j).1 n hn; unfold wsE; omega
/-- The window. -/
def windE (L : List (Int × Int)) (n : Nat) : Int := gapE (wsE L n) n L.length n + 1

set_option maxHeartbeats 3200000 in
set_option maxRecDepth 100000 in
theorem window_any (v : Value) (L : List (Int × Int)) (n : Int) (w : World) (hL : Picks w v L) (hl : L.length ≤ 1000000) :
    Calls Tryd.prog 30 #[v, .int .i64 n] w fun e w' => e = .returned (.int .i64 (windE L (workn n))) ∧ Below w.heap.size w w' := by
  obtain ⟨o, c, rfl, hle, hc⟩ := hL
  have HC := Lib.hid hc
  have hN := workn_bd n
  clear hc
  go_enter Tryd.func30, Tryd.ntmps30
  go_wp2_with fail
  refine (workers_any _ _).mono ?_
  rintro e w1 ⟨rfl, rfl⟩
  generalize hNe : workn n = N at *
  have HNe := Lib.hid hNe
  clear hNe
  have hmk := make_int N N rfl (by omega)
  go_wp2_with fail
  obtain ⟨w, rfl⟩ : ∃ w : World, w = w1 := ⟨_, rfl⟩
  go_loopw [18] (fun i wr => ∃ k : Nat, k ≤ N ∧ i = .int .i64 k ∧ Bk wr w.heap.size 3 ((fill N k).map (Value.int .i64)) ∧ Below w.heap.size w wr)
    (fun i _ => N - (intOf i).toNat)
  case atStart => exact ⟨0, Nat.zero_le _, rfl, by rw [fill_zero, List.map_replicate]; exact Bk.new _ _ _, (Below.refl _ _).alloc (Nat.le_refl _) _⟩
  case round =>
    obtain ⟨k, hk, rfl, hb, hB⟩ := hrel
    have HK := Lib.hid hb
    have HB := Lib.hid hB
    clear hb hB
    by_cases hlt : k < N
    · have hcell : wr.cell? ⟨w.heap.size, k, none⟩ = some (.int .i64 0) := by
        rw [HK.out.cell, List.getElem?_map, fill_at N k hlt]; rfl
      have hfree := HK.out.free k
      have HS := Lib.hid (HK.out.set k (.int .i64 (-1)))
      go_wp2
      go_roundw
      case rel =>
        refine ⟨k + 1, by omega, by go_num, ?_, HB.out.setCell (p := ⟨w.heap.size, k, none⟩) (Nat.le_refl _) _⟩
        have := HS.out
        rw [← List.map_set, fill_set N k hlt] at this
        exact this
      case measure => simp [intOf]; omega
    · obtain rfl : N = k := by omega
      rw [fill_all] at HK
      have HK0 : Hid (Bk wr w.heap.size 3 ((lastL (wsE L N) N 0).map (Value.int .i64))) := HK
      clear HK hk hlt
      go_wp2
      obtain ⟨wa, rfl⟩ : ∃ wa : World, wa = wr := ⟨_, rfl⟩
      go_loopw [7, 27] (fun gv i wr => ∃ k : Nat, k ≤ L.length ∧ i = .int .i64 k ∧ gv = .int .i64 (gapL (wsE L N) N k) ∧ Bk wr w.heap.size 3 ((lastL (wsE L N) N k).map (Value.int .i64)) ∧ Below w.heap.size w wr)
        (fun _ i _ => L.length - (intOf i).toNat)
      case atStart => exact ⟨0, Nat.zero_le _, rfl, rfl, HK0.out, HB.out⟩
      case round =>
        obtain ⟨k, hk, rfl, rfl, hb, hB1⟩ := hrel
        have HK1 := Lib.hid hb
        have HB1 := Lib.hid hB1
        clear hb hB1
        by_cases hlt : k < L.length
        · obtain ⟨b, off, rfl, hc⟩ := HC.out (by omega)
          obtain ⟨c0, c1⟩ := hc k hlt
          replace c0 := keepc c0 HB1.out
          replace c1 := keepc c1 HB1.out
          have hws := Lib.hid (show wsE L N k = (whoE (pickAt L k).1 N).toNat from rfl)
          have hwb := whoE_lt (pickAt L k).1 N hN.1
          have hsp := last_spec (wsE L N) N k (wsE L N k) (wsE_lt L N hN.1 k)
          have hll := lastL_len (wsE L N) N k
          have hg0 := gapL_nonneg (wsE L N) N k
          have hg1 := gapL_le (wsE L N) N k (wsE_lt L N hN.1)
          have hcell : wr.cell? ⟨w.heap.size, wsE L N k, none⟩ = some (.int .i64 (at0 (lastL (wsE L N) N k) (wsE L N k))) := by
            rw [HK1.out.cell, List.getElem?_map]
            have : wsE L N k < (lastL (wsE L N) N k).length := by rw [hll]; exact wsE_lt L N hN.1 k
            unfold at0
            rw [List.getElem?_eq_getElem this]; rfl
          have hl1 := hsp.1
          have hl2 := hsp.2.1
          have HG := Lib.hid (show gapL (wsE L N) N (k + 1) = max (gapL (wsE L N) N k) (k - at0 (lastL (wsE L N) N k) (wsE L N k) - 1) from rfl)
          have HL := Lib.hid (show lastL (wsE L N) N (k + 1) = (lastL (wsE L N) N k).set (wsE L N k) k from rfl)
          clear hc hsp hll
          rw [hws.out] at hcell HG HL hl1 hl2
          clear hws
          generalize pickAt L k = p at *
          generalize at0 (lastL (wsE L N) N k) (whoE p.1 N).toNat = l at *
          generalize gapL (wsE L N) N k = g at *
          go_wp2_with fail
          refine (who_any _ _ _ _ (by omega)).mono ?_
          rintro e w2 ⟨rfl, hB2⟩
          have HB2 := Lib.hid (bel_then ((Below.refl wr.heap.size wr).alloc (Nat.le_refl _) _) hB2)
          clear hB2
          generalize whoE p.1 N = u at *
          have hcell2 := keepc hcell HB2.out
          have hfree2 := keepf hcell (HK1.out.free _) HB2.out
          clear hcell
          have hu := hwb.1
          have hu2 := hwb.2
          have HU := Lib.hid hwb
          have HKn := Lib.hid (((HK1.out.below HB2.out).set u.toNat (.int .i64 k)))
          have HBn := Lib.hid ((bel_then HB1.out HB2.out).setCell (p := ⟨w.heap.size, u.toNat, none⟩) (Nat.le_refl _) (.int .i64 k))
          rw [← List.map_set, ← HL.out] at HKn
          clear HL
          rcases Int.lt_or_le g (k - l - 1) with hgl | hgl
          · rw [Int.max_eq_right (by omega)] at HG
            go_wp2_with fail
            go_roundw
            case rel => exact ⟨k + 1, by omega, by go_num, by rw [HG.out], HKn.out, HBn.out⟩
            case measure => simp [intOf]; omega
          · rw [Int.max_eq_left (by omega)] at HG
            go_wp2_with fail
            go_roundw
            case rel => exact ⟨k + 1, by omega, by go_num, by rw [HG.out], HKn.out, HBn.out⟩
            case measure => simp [intOf]; omega
        · obtain rfl : L.length = k := by omega
          have HG0 := Lib.hid (show gapE (wsE L N) N L.length 0 = gapL (wsE L N) N L.length from rfl)
          clear hk hlt
          go_wp2
          obtain ⟨wb, rfl⟩ : ∃ wb : World, wb = wr := ⟨_, rfl⟩
          go_loopw [7, 52] (fun gv i wr => ∃ k : Nat, k ≤ N ∧ i = .int .i64 k ∧ gv = .int .i64 (gapE (wsE L N) N L.length k) ∧ wr = wb)
            (fun _ i _ => N - (intOf i).toNat)
          case atStart => exact ⟨0, Nat.zero_le _, rfl, rfl, rfl⟩
          case round =>
            obtain ⟨k, hk, rfl, rfl, rfl⟩ := hrel
            by_cases hlt : k < N
            · have hsp := last_spec (wsE L N) N L.length k hlt
              have hll := lastL_len (wsE L N) N L.length
              have hg0 := gapE_nonneg (wsE L N) N L.length k
              have hg1 := gapE_le (wsE L N) N L.length k (wsE_lt L N hN.1) hk
              have hcell : wr.cell? ⟨w.heap.size, k, none⟩ = some (.int .i64 (at0 (lastL (wsE L N) N L.length) k)) := by
                rw [HK1.out.cell, List.getElem?_map]
                unfold at0
                rw [List.getElem?_eq_getElem (by omega)]; rfl
              have hl1 := hsp.1
              have hl2 := hsp.2.1
              have HG := Lib.hid (show gapE (wsE L N) N L.length (k + 1) = max (gapE (wsE L N) N L.length k) (L.length - at0 (lastL (wsE L N) N L.length) k - 1) from rfl)
              clear hsp hll
              generalize at0 (lastL (wsE L N) N L.length) k = l at *
              generalize gapE (wsE L N) N L.length k = g at *
              rcases Int.lt_or_le g (L.length - l - 1) with hgl | hgl
              · rw [Int.max_eq_right (by omega)] at HG
                go_wp2_with fail
                go_roundw
                case rel => exact ⟨k + 1, by omega, by go_num, by rw [HG.out], trivial⟩
                case measure => simp [intOf]; omega
              · rw [Int.max_eq_left (by omega)] at HG
                go_wp2_with fail
                go_roundw
                case rel => exact ⟨k + 1, by omega, by go_num, by rw [HG.out], trivial⟩
                case measure => simp [intOf]; omega
            · obtain rfl : N = k := by omega
              have hg0 := gapE_nonneg (wsE L N) N L.length N
              have hg1 := gapE_le (wsE L N) N L.length N (wsE_lt L N hN.1) hk
              have Hr := Lib.hid (show windE L N = gapE (wsE L N) N L.length N + 1 from rfl)
              generalize gapE (wsE L N) N L.length N = g at *
              go_wp2_with fail
              go_ret
              exact ⟨ret_int (by rw [HNe.out]; exact Hr.out.symm), HB1.out⟩

/-- Is a script fair? -/
def isE (L : List (Int × Int)) (n : Nat) (k : Int) : Bool := decide (1 ≤ k) && (decide ((L.length : Int) < k) || decide (windE L n ≤ k))
theorem isE_iff (L : List (Int × Int)) (n : Nat) (k : Int) (hn : 0 < n) : isE L n k = true ↔ isP (wsE L n) n L.length k := by
  rw [is_iff _ _ _ (wsE_lt L n hn)]
  unfold isE windE
  simp only [Bool.and_eq_true, Bool.or_eq_true, decide_eq_true_eq]

theorem is_any (v : Value) (L : List (Int × Int)) (n k : Int) (w : World) (hL : Picks w v L) (hl : L.length ≤ 1000000) :
    Calls Tryd.prog 17 #[v, .int .i64 n, .int .i64 k] w fun e w' => e = .returned (.bool (isE L (workn n) k)) ∧ Below w.heap.size w w' := by
  have HL := Lib.hid hL
  obtain ⟨o, c, rfl, _, _⟩ := hL
  by_cases h1 : 1 ≤ k
  · have d1 : decide (1 ≤ k) = true := by simpa using h1
    by_cases h2 : (L.length : Int) < k
    · have d2 : decide ((L.length : Int) < k) = true := by simpa using h2
      have Hr := Lib.hid (show isE L (workn n) k = true by unfold isE; rw [d1, d2]; rfl)
      clear h1 h2
      go_enter Tryd.func17, Tryd.ntmps17
      go_wp2_with fail
      go_ret
      exact ⟨ret_bool Hr.out.symm, Below.refl _ _⟩
    · have d2 : decide ((L.length : Int) < k) = false := by simpa using h2
      have Hr := Lib.hid (show isE L (workn n) k = decide (windE L (workn n) ≤ k) by unfold isE; rw [d1, d2]; rfl)
      clear h1 h2
      go_enter Tryd.func17, Tryd.ntmps17
      go_wp2_with fail
      refine (window_any _ _ _ _ HL.out hl).mono ?_
      rintro e w1 ⟨rfl, hB⟩
      have HB := Lib.hid hB
      clear hB
      generalize windE L (workn n) = g at *
      go_wp2_with fail
      go_ret
      exact ⟨ret_bool Hr.out.symm, HB.out⟩
  · have d1 : decide (1 ≤ k) = false := by simpa using h1
    have Hr := Lib.hid (show isE L (workn n) k = false by unfold isE; rw [d1]; rfl)
    clear h1
    go_enter Tryd.func17, Tryd.ntmps17
    go_wp2_with fail
    go_ret
    exact ⟨ret_bool Hr.out.symm, Below.refl _ _⟩

end Go.Proofs.YtannfkibahinhaaDoor
