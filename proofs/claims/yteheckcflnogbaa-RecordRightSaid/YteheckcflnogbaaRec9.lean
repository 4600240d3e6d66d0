/-
  soughref23.Right, Writes, soughref07.In; record.Touched: contracts; a reader of []soughref23.Event. Written by wip/gen/mkrec9.py.
-/
import Derived.Test.YteheckcflnogbaaRec6
import Derived.Test.YteheckcflnogbaaKeys
import Derived.Test.YteheckcflnogbaaIter
import Derived.Test.YteheckcflnogbaaTake
import Derived.Maps.Own
import Derived.Maps.OwnOps
import Derived.Maps.OwnSet
namespace Go.Proofs.Yteheckcflnogbaa
open Go.RowKit Go.Maps Go.Sort Go.Shelf

theorem rev_info9 : (Try.prog.info? 49).map (fun i => (i.zero, i.size, i.bytes)) = some (some (.agg #[.int .i64 0, .int .i64 0, .int .u64 0, .int .u64 0, .int .u64 0, .bool false]), 6, 48) := by kernel_rfl
theorem revU : Try.prog.underlying 49 = some (.struct (Try.prog.fieldsOf 49)) := by kernel_rfl
theorem revS : Try.prog.stoodInHeld 49 = false := by kernel_rfl
theorem rev_equal (a b : EvT) (w : World) : (Op.equalIn 10000 49 (.agg (evCells a).toArray) (.agg (evCells b).toArray)).run Try.prog w = .ok (decide (a = b)) w := by
  have u3 := Try.underlying3
  have a3 := Try.isAgg3
  have z3 := Try.sizeOf3
  have u4 := Try.underlying29
  have a4 := Try.isAgg29
  have z4 := Try.sizeOf29
  have u5 := Try.underlying4
  have a5 := Try.isAgg4
  have z5 := Try.sizeOf4
  obtain ⟨a1, a2, a3', a4', a5', a6⟩ := a
  obtain ⟨b1, b2, b3, b4, b5, b6⟩ := b
  unfold evCells
  rw [show (10000 : Nat) = 9999 + 1 from rfl, run_equalIn_agg w 9999 _ _ _ revU revS]
  simp only [Program.fieldsOf, Try.underlying49]
  go_simp
  by_cases h1 : a1 = b1 <;> by_cases h2 : a2 = b2 <;> by_cases h3 : a3' = b3 <;> by_cases h4 : a4' = b4 <;> by_cases h5 : a5' = b5 <;> by_cases h6 : a6 = b6 <;> simp [h1, h2, h3, h4, h5, h6]
theorem rev_neq (a b : EvT) (w : World) : (binOp .neq 49 (.agg (evCells a).toArray) (.agg (evCells b).toArray)).run Try.prog w = .ok (.bool (!(decide (a = b)))) w := by
  rw [run_neq_struct, rev_equal]; rfl
theorem rask23_y {y : EvT} {zs : List Int} {k a x u : Int} (hy : y = evOf zs k a x u) (b g : Nat) (w : World) (h : Rm w b g zs) (hk : 1 ≤ k ∧ k ≤ 4) :
    Calls Try.prog 121 #[.pointer (some ⟨b, 0, none⟩), .agg #[.int .i64 k, .int .i64 a, .int .u64 x, .int .u64 u]] w fun e w' => e = .returned (.agg (evCells y).toArray) ∧ Rm w' b g (actv zs k a x u) ∧ Fr [g] w w' := by
  rw [hy]; exact rask23_any k a x u b g zs w h hk
theorem rm_ne {w : World} {b g : Nat} {zs : List Int} (h : Rm w b g zs) : b ≠ g := h.ne

set_option maxHeartbeats 3200000 in
set_option maxRecDepth 100000 in
theorem rwrites_any (v : Value) (L : List EvT) (gi : Nat) (w : World) (h : Evs w v L gi) (hl : L.length ≤ 100000) :
    Calls Try.prog 45 #[v] w fun e w' => ∃ v', e = .returned v' ∧ w'.ownsRow w.heap.size 49 6 v' (L.filter isWr).length (ecells (L.filter isWr)) ∧ Below w.heap.size w w' := by
  obtain ⟨i0, hi, hz0, hz1, hz2⟩ := info_parts rev_info9
  obtain ⟨o, c, rfl, hle, hc⟩ := h
  have HC := Lib.hid hc
  clear hc
  go_enter Try.func45, Try.ntmps45
  go_wp2_with fail
  go_loopw [3, 8] (fun v i wr => ∃ k : Nat, k ≤ L.length ∧ i = .int .i64 k ∧ wr.ownsRow w.heap.size 49 6 v (writesK L k).length (ecells (writesK L k)) ∧ Below w.heap.size w wr)
    (fun _ i _ => L.length - (intOf i).toNat)
  case atStart => exact ⟨0, Nat.zero_le _, rfl, World.ownsRow_nil _ _ _ _, Below.refl _ _⟩
  case round =>
    obtain ⟨k, hk, rfl, hown, hB⟩ := hrel
    have HB := Lib.hid hB
    have HO := Lib.hid hown
    clear hB hown
    have hwl := writesK_len L k
    by_cases hlt : k < L.length
    · obtain ⟨off, rfl, hd0⟩ := HC.out (by omega)
      have hd := hd0 k hlt
      have d0 := keepc hd.1 HB.out
      have d1 := keepc hd.2.1 HB.out
      have d2 := keepc hd.2.2.1 HB.out
      have d3 := keepc hd.2.2.2.1 HB.out
      have d4 := keepc hd.2.2.2.2.1 HB.out
      have d5 := keepc hd.2.2.2.2.2 HB.out
      have HY := Lib.hid (show isWr (evAt L k) = true → writesK L (k + 1) = writesK L k ++ [evAt L k] from writesK_yes hlt)
      have HN := Lib.hid (show isWr (evAt L k) = false → writesK L (k + 1) = writesK L k from writesK_no hlt)
      clear hd hd0
      generalize evAt L k = x at *
      obtain ⟨xk, xa, xx, xy, xg, xo⟩ := x
      dsimp only at *
      by_cases k2 : xk = 2
      · subst k2
        have HS := Lib.hid (HY.out (by unfold isWr; simp []))
        clear HY HN 
        go_wp2_with (at_builtin; refine wpList_append_own _ rfl _ _ 43 rfl w.heap.size 49 i0 (.agg #[.int .i64 0, .int .i64 0, .int .u64 0, .int .u64 0, .int .u64 0, .bool false]) 6 48 Try.underlying43 hi hz0 hz1 hz2 rfl (by decide) _ _ _ rfl ((HO.out.alloc _).alloc _) ⟨wr.heap.size + 1, 0, none⟩ 1 1 (evCells (⟨2, xa, xx, xy, xg, xo⟩ : EvT)) rfl rfl ?c1 ?c2 ?c3 ?c4 ?c5 ?_)
        case c1 =>
          intro j u hu
          have := ev_new (wr.alloc (.cells (evCells (⟨2, xa, xx, xy, xg, xo⟩ : EvT)).toArray 49)) (⟨2, xa, xx, xy, xg, xo⟩ : EvT) 49 j u hu
          rw [World.size_alloc] at this
          exact this
        case c2 => simp [evCells, Value.oneCell']
        case c3 => unfold maxLen; omega
        case c4 => omega
        case c5 => have := HB.out.size; simp; omega
        intro v' w3 hown' hgrow _
        have HO' := Lib.hid (show w3.ownsRow w.heap.size 49 6 v' (writesK L (k + 1)).length (ecells (writesK L (k + 1))) by rw [HS.out, List.length_append, ecells_snoc]; exact hown')
        have HB' := Lib.hid (((HB.out.alloc (by have := HB.out.size; omega) _).alloc (by have := HB.out.size; simp; omega) _).grown hgrow (by have := HB.out.size; simp; omega) (fun k hk => (HO.out.lt k hk).1))
        clear hown' hgrow
        go_wp2
        go_roundw
        case rel => exact ⟨k + 1, by omega, by go_num, HO'.out, HB'.out⟩
        case measure => simp [intOf]; omega
      have b2 : (xk == 2) = false := by simpa using k2
      by_cases k4 : xk = 4
      · subst k4
        clear k2
        have HS := Lib.hid (HY.out (by unfold isWr; simp []))
        clear HY HN 
        go_wp2_with (at_builtin; refine wpList_append_own _ rfl _ _ 43 rfl w.heap.size 49 i0 (.agg #[.int .i64 0, .int .i64 0, .int .u64 0, .int .u64 0, .int .u64 0, .bool false]) 6 48 Try.underlying43 hi hz0 hz1 hz2 rfl (by decide) _ _ _ rfl ((HO.out.alloc _).alloc _) ⟨wr.heap.size + 1, 0, none⟩ 1 1 (evCells (⟨4, xa, xx, xy, xg, xo⟩ : EvT)) rfl rfl ?c1 ?c2 ?c3 ?c4 ?c5 ?_)
        case c1 =>
          intro j u hu
          have := ev_new (wr.alloc (.cells (evCells (⟨4, xa, xx, xy, xg, xo⟩ : EvT)).toArray 49)) (⟨4, xa, xx, xy, xg, xo⟩ : EvT) 49 j u hu
          rw [World.size_alloc] at this
          exact this
        case c2 => simp [evCells, Value.oneCell']
        case c3 => unfold maxLen; omega
        case c4 => omega
        case c5 => have := HB.out.size; simp; omega
        intro v' w3 hown' hgrow _
        have HO' := Lib.hid (show w3.ownsRow w.heap.size 49 6 v' (writesK L (k + 1)).length (ecells (writesK L (k + 1))) by rw [HS.out, List.length_append, ecells_snoc]; exact hown')
        have HB' := Lib.hid (((HB.out.alloc (by have := HB.out.size; omega) _).alloc (by have := HB.out.size; simp; omega) _).grown hgrow (by have := HB.out.size; simp; omega) (fun k hk => (HO.out.lt k hk).1))
        clear hown' hgrow
        go_wp2
        go_roundw
        case rel => exact ⟨k + 1, by omega, by go_num, HO'.out, HB'.out⟩
        case measure => simp [intOf]; omega
      have b4 : (xk == 4) = false := by simpa using k4
      by_cases k3 : xk = 3
      · subst k3
        clear k2 k4
        cases xo with
        | true =>
          have HS := Lib.hid (HY.out (by unfold isWr; simp []))
          clear HY HN 
          go_wp2_with (at_builtin; refine wpList_append_own _ rfl _ _ 43 rfl w.heap.size 49 i0 (.agg #[.int .i64 0, .int .i64 0, .int .u64 0, .int .u64 0, .int .u64 0, .bool false]) 6 48 Try.underlying43 hi hz0 hz1 hz2 rfl (by decide) _ _ _ rfl ((HO.out.alloc _).alloc _) ⟨wr.heap.size + 1, 0, none⟩ 1 1 (evCells (⟨3, xa, xx, xy, xg, true⟩ : EvT)) rfl rfl ?c1 ?c2 ?c3 ?c4 ?c5 ?_)
          case c1 =>
            intro j u hu
            have := ev_new (wr.alloc (.cells (evCells (⟨3, xa, xx, xy, xg, true⟩ : EvT)).toArray 49)) (⟨3, xa, xx, xy, xg, true⟩ : EvT) 49 j u hu
            rw [World.size_alloc] at this
            exact this
          case c2 => simp [evCells, Value.oneCell']
          case c3 => unfold maxLen; omega
          case c4 => omega
          case c5 => have := HB.out.size; simp; omega
          intro v' w3 hown' hgrow _
          have HO' := Lib.hid (show w3.ownsRow w.heap.size 49 6 v' (writesK L (k + 1)).length (ecells (writesK L (k + 1))) by rw [HS.out, List.length_append, ecells_snoc]; exact hown')
          have HB' := Lib.hid (((HB.out.alloc (by have := HB.out.size; omega) _).alloc (by have := HB.out.size; simp; omega) _).grown hgrow (by have := HB.out.size; simp; omega) (fun k hk => (HO.out.lt k hk).1))
          clear hown' hgrow
          go_wp2
          go_roundw
          case rel => exact ⟨k + 1, by omega, by go_num, HO'.out, HB'.out⟩
          case measure => simp [intOf]; omega
        | false =>
          have HS := Lib.hid (HN.out (by unfold isWr; simp []))
          have HB' := Lib.hid (HB.out.alloc HB.out.size (.cells #[.int .i64 3, .int .i64 xa, .int .u64 xx, .int .u64 xy, .int .u64 xg, .bool false] 49))
          have HO' := Lib.hid (HO.out.alloc (.cells #[.int .i64 3, .int .i64 xa, .int .u64 xx, .int .u64 xy, .int .u64 xg, .bool false] 49))
          rw [← HS.out] at HO'
          clear HY HN 
          go_wp2_with fail
          go_roundw
          case rel => exact ⟨k + 1, by omega, by go_num, HO'.out, HB'.out⟩
          case measure => simp [intOf]; omega
      have b3 : (xk == 3) = false := by simpa using k3
      have HS := Lib.hid (HN.out (by unfold isWr; simp [b2, b3, b4]))
      have HB' := Lib.hid (HB.out.alloc HB.out.size (.cells #[.int .i64 xk, .int .i64 xa, .int .u64 xx, .int .u64 xy, .int .u64 xg, .bool xo] 49))
      have HO' := Lib.hid (HO.out.alloc (.cells #[.int .i64 xk, .int .i64 xa, .int .u64 xx, .int .u64 xy, .int .u64 xg, .bool xo] 49))
      rw [← HS.out] at HO'
      clear HY HN k2 k3 k4
      go_wp2_with fail
      go_roundw
      case rel => exact ⟨k + 1, by omega, by go_num, HO'.out, HB'.out⟩
      case measure => simp [intOf]; omega
    · obtain rfl : k = L.length := by omega
      go_wp2
      go_ret
      exact ⟨_, rfl, by have h := HO.out; unfold writesK at h; rw [List.take_length] at h; exact h, HB.out⟩

set_option maxHeartbeats 3200000 in
set_option maxRecDepth 100000 in
theorem rright_any (n : Int) (v : Value) (L : List EvT) (gi : Nat) (w : World) (h : Evs w v L gi) (hl : L.length ≤ 1000) :
    Calls Try.prog 42 #[.int .i64 n, v] w fun e w' => e = .returned (.bool (rightL (List.replicate (memn n) 0) L)) ∧ Below w.heap.size w w' := by
  have HE := Lib.hid h
  obtain ⟨o, c, rfl⟩ := h.len
  obtain ⟨q, hq⟩ : ∃ q, q = rightL (List.replicate (memn n) 0) L := ⟨_, rfl⟩
  have HQ := Lib.hid hq
  rw [← hq]
  clear hq h
  go_enter Try.func42, Try.ntmps42
  go_wp2_with fail
  refine (rnew_any _ _).mono ?_
  rintro e w1 ⟨b, g, rfl, hP, hB, hb, hg⟩
  have HP := Lib.hid hP
  have HB := Lib.hid hB
  have HBG := Lib.hid (show w.heap.size ≤ g from hg)
  clear hP hB hb hg
  generalize List.replicate (memn n) (0 : Int) = z0 at *
  go_wp2_with fail
  go_loopw [12] (fun i wr => ∃ k : Nat, k ≤ L.length ∧ i = .int .i64 k ∧ Hid (rightL z0 (L.take k) = true) ∧ Rm wr b g (wordsK z0 (L.take k)) ∧ Below w.heap.size w wr)
    (fun i _ => L.length - (intOf i).toNat)
  case atStart => exact ⟨0, Nat.zero_le _, rfl, Lib.hid rfl, HP.out, HB.out⟩
  case round =>
    obtain ⟨k, hk, rfl, HR, hM, hB⟩ := hrel
    have HM := Lib.hid hM
    have HBR := Lib.hid hB
    clear hM hB
    by_cases hlt : k < L.length
    · obtain ⟨_, _, e3, _, hd0⟩ := HE.out
      simp only [Value.slice.injEq, true_and] at e3
      obtain ⟨rfl, rfl⟩ := e3
      obtain ⟨off, rfl, hd1⟩ := hd0 (by omega)
      have hd := hd1 k hlt
      have d0 := keepc hd.1 HBR.out
      have d1 := keepc hd.2.1 HBR.out
      have d2 := keepc hd.2.2.1 HBR.out
      have d3 := keepc hd.2.2.2.1 HBR.out
      have d4 := keepc hd.2.2.2.2.1 HBR.out
      have d5 := keepc hd.2.2.2.2.2 HBR.out
      have H0k := Lib.hid (show rightE (wordsK z0 (L.take k)) (evAt L k) = false → q = false from fun h => by rw [HQ.out]; exact right_no hlt h)
      have HSk := Lib.hid (show rightE (wordsK z0 (L.take k)) (evAt L k) = true → rightL z0 (L.take (k + 1)) = true from right_step hlt HR.out)
      have HWK := Lib.hid (show wordsK z0 (L.take (k + 1)) = stepZ (wordsK z0 (L.take k)) (evAt L k) by rw [take_evs L k hlt, wordsK_snoc])
      have HNE := Lib.hid (show wr.heap.size ∉ [g] from fun hm => by have := HM.out.2.1.lt; rw [List.mem_singleton.1 hm] at this; omega)
      have HBA := Lib.hid (HBR.out.alloc (by have := HBR.out.size; omega) (.cells (evCells (evAt L k)).toArray 49))
      have HMA := Lib.hid (HM.out.below ((Below.refl _ _).alloc (Nat.le_refl _) (.cells (evCells (evAt L k)).toArray 49)))
      have HX := Lib.hid (Bk.new wr 49 (evCells (evAt L k)))
      clear hd hd0 hd1
      generalize evAt L k = x at *
      generalize wordsK z0 (L.take k) = zs at *
      obtain ⟨W1, hW1⟩ : ∃ W1, W1 = wr.alloc (.cells (evCells x).toArray 49) := ⟨_, rfl⟩
      have HW1 := Lib.hid hW1
      rw [← hW1] at HX HBA HMA
      have HM1 := HMA
      unfold evCells at HX hW1
      have x0 : W1.cell? ⟨wr.heap.size, 0, none⟩ = some (.int .i64 x.k) := HX.out.cell 0
      have x1 : W1.cell? ⟨wr.heap.size, 1, none⟩ = some (.int .i64 x.a) := HX.out.cell 1
      have x2 : W1.cell? ⟨wr.heap.size, 2, none⟩ = some (.int .u64 x.x) := HX.out.cell 2
      have x3 : W1.cell? ⟨wr.heap.size, 3, none⟩ = some (.int .u64 x.y) := HX.out.cell 3
      have x4 : W1.cell? ⟨wr.heap.size, 4, none⟩ = some (.int .u64 x.g) := HX.out.cell 4
      have x5 : W1.cell? ⟨wr.heap.size, 5, none⟩ = some (.bool x.ok) := HX.out.cell 5
      have hki : (k : Int) < L.length := by omega
      have HFB := Lib.hid (show ∀ w3, Fr [g] W1.drew w3 → Below w.heap.size w w3 from fun w3 hf => ((Fr.of (S := []) HBA.out).drew.from hf (fun i hi hl => by rw [List.mem_singleton.1 hi] at hl; have := HBG.out; omega)).below)
      go_wp2_with fail
      rw [← hW1]
      clear hW1 d0 d1 d2 d3 d4 d5
      by_cases hkd : 1 ≤ x.k ∧ x.k ≤ 4
      case neg =>
        have HV := Lib.hid (H0k.out (by unfold rightE; rw [decide_eq_false hkd]; rfl))
        clear H0k HSk
        rcases (show x.k < 1 ∨ (1 ≤ x.k ∧ 4 < x.k) by omega) with h1 | ⟨h1, h4⟩
        · have e1 : decide (x.k < 1) = true := decide_eq_true h1
          clear hkd h1
          go_quiet (fail)
          go_wp2_with fail
          go_ret
          exact ⟨ret_bool HV.out.symm, bel_drewN HBA.out _⟩
        · have e1 : decide (x.k < 1) = false := by simp; omega
          have e4 : decide (4 < x.k) = true := decide_eq_true h4
          clear hkd h1 h4
          go_quiet (fail)
          go_wp2_with fail
          go_ret
          exact ⟨ret_bool HV.out.symm, bel_drewN HBA.out _⟩
      have e1 : decide (x.k < 1) = false := by simp; omega
      have e4 : decide (4 < x.k) = false := by simp; omega
      obtain ⟨y, hy⟩ : ∃ y, y = evOf zs x.k x.a x.x x.y := ⟨_, rfl⟩
      have HY := Lib.hid hy
      have hE : ∀ w, (binOp .neq 49 (.agg (evCells y).toArray) (.agg #[.int .i64 x.k, .int .i64 x.a, .int .u64 x.x, .int .u64 x.y, .int .u64 x.g, .bool x.ok])).run Try.prog w = .ok (.bool (!(decide (y = x)))) w := rev_neq y x
      clear hy
      by_cases hxy : y = x
      · have hd : decide (y = x) = true := decide_eq_true hxy
        rw [hd] at hE
        have HS := Lib.hid (HSk.out (by unfold rightE; rw [decide_eq_true hkd, ← HY.out, hd]; rfl))
        clear hxy hd H0k HSk
        refine wp_region_held_drew (S := (fun w' => w'.cell? ⟨wr.heap.size, 0, none⟩ = some (.int .i64 x.k) ∧ w'.cell? ⟨wr.heap.size, 1, none⟩ = some (.int .i64 x.a) ∧ w'.cell? ⟨wr.heap.size, 2, none⟩ = some (.int .u64 x.x) ∧ w'.cell? ⟨wr.heap.size, 3, none⟩ = some (.int .u64 x.y) ∧ w'.cell? ⟨wr.heap.size, 4, none⟩ = some (.int .u64 x.g) ∧ w'.cell? ⟨wr.heap.size, 5, none⟩ = some (.bool x.ok))) (by kernel_rfl) ?_ (fun hHeld => ?_)
        · exact ⟨x0, x1, x2, x3, x4, x5⟩
        refine take_at 0 (v := ?_) (some 16) rfl rfl (by kernel_rfl) (by kernel_rfl) (by kernel_rfl) (fun _ _ _ h => h) (Or.inl ⟨by rfl, ?_⟩) hHeld ?_
        rotate_left
        · (intro w hSw; (try dsimp only at hSw); go_simp; (try with_reducible rfl))
        simp only [Act.put, List.setIfInBounds_toArray, List.set_cons_zero, List.set_cons_succ]
        refine take_at 1 (v := ?_) (some 17) rfl rfl (by kernel_rfl) (by kernel_rfl) (by kernel_rfl) (fun _ _ _ h => h) (Or.inl ⟨by rfl, ?_⟩) hHeld ?_
        rotate_left
        · (intro w hSw; (try dsimp only at hSw); go_simp; (try with_reducible rfl))
        simp only [Act.put, List.setIfInBounds_toArray, List.set_cons_zero, List.set_cons_succ]
        refine take_at 2 (v := ?_) (some 18) rfl rfl (by kernel_rfl) (by kernel_rfl) (by kernel_rfl) (fun _ _ _ h => h) (Or.inl ⟨by rfl, ?_⟩) hHeld ?_
        rotate_left
        · (intro w hSw; (try dsimp only at hSw); go_simp; (try with_reducible rfl))
        simp only [Act.put, List.setIfInBounds_toArray, List.set_cons_zero, List.set_cons_succ]
        refine take_at 3 (v := ?_) (some 19) rfl rfl (by kernel_rfl) (by kernel_rfl) (by kernel_rfl) (fun _ _ _ h => h) (Or.inl ⟨by rfl, ?_⟩) hHeld ?_
        rotate_left
        · (intro w hSw; (try dsimp only at hSw); go_simp; (try with_reducible rfl))
        simp only [Act.put, List.setIfInBounds_toArray, List.set_cons_zero, List.set_cons_succ]
        refine take_at 4 (v := ?_) (some 20) rfl rfl (by kernel_rfl) (by kernel_rfl) (by kernel_rfl) (fun _ _ _ h => h) (Or.inl ⟨by rfl, ?_⟩) hHeld ?_
        rotate_left
        · (intro w hSw; (try dsimp only at hSw); go_simp; (try with_reducible rfl))
        simp only [Act.put, List.setIfInBounds_toArray, List.set_cons_zero, List.set_cons_succ]
        refine take_at 5 (v := ?_) (some 21) rfl rfl (by kernel_rfl) (by kernel_rfl) (by kernel_rfl) (fun _ _ _ h => h) (Or.inl ⟨by rfl, ?_⟩) hHeld ?_
        rotate_left
        · (intro w hSw; (try dsimp only at hSw); go_simp; (try with_reducible rfl))
        simp only [Act.put, List.setIfInBounds_toArray, List.set_cons_zero, List.set_cons_succ]
        refine take_at 6 (v := ?_) (some 22) rfl rfl (by kernel_rfl) (by kernel_rfl) (by kernel_rfl) (fun _ _ _ h => h) (Or.inl ⟨by rfl, ?_⟩) hHeld ?_
        rotate_left
        · (intro w hSw; (try dsimp only at hSw); go_simp; (try with_reducible rfl))
        simp only [Act.put, List.setIfInBounds_toArray, List.set_cons_zero, List.set_cons_succ]
        refine take_at 7 (v := ?_) (some 23) rfl rfl (by kernel_rfl) (by kernel_rfl) (by kernel_rfl) (fun _ _ _ h => h) (Or.inl ⟨by rfl, ?_⟩) hHeld ?_
        rotate_left
        · (intro w hSw; (try dsimp only at hSw); go_simp; (try with_reducible rfl))
        simp only [Act.put, List.setIfInBounds_toArray, List.set_cons_zero, List.set_cons_succ]
        refine take_at 8 (v := ?_) (some 24) rfl rfl (by kernel_rfl) (by kernel_rfl) (by kernel_rfl) (fun _ _ _ h => h) (Or.inl ⟨by rfl, ?_⟩) hHeld ?_
        rotate_left
        · (intro w hSw; (try dsimp only at hSw); go_simp; (try with_reducible rfl))
        simp only [Act.put, List.setIfInBounds_toArray, List.set_cons_zero, List.set_cons_succ]
        refine take_at 9 (v := ?_) (some 25) rfl rfl (by kernel_rfl) (by kernel_rfl) (by kernel_rfl) (fun _ _ _ h => h) (Or.inl ⟨by rfl, ?_⟩) hHeld ?_
        rotate_left
        · (intro w hSw; (try dsimp only at hSw); go_simp; (try with_reducible rfl))
        simp only [Act.put, List.setIfInBounds_toArray, List.set_cons_zero, List.set_cons_succ]
        refine take_at 10 (v := ?_) (some 26) rfl rfl (by kernel_rfl) (by kernel_rfl) (by kernel_rfl) (fun _ _ _ h => h) (Or.inl ⟨by rfl, ?_⟩) hHeld ?_
        rotate_left
        · (intro w hSw; (try dsimp only at hSw); go_simp; (try with_reducible rfl))
        simp only [Act.put, List.setIfInBounds_toArray, List.set_cons_zero, List.set_cons_succ]
        refine take_at 11 (v := ?_) (some 27) rfl rfl (by kernel_rfl) (by kernel_rfl) (by kernel_rfl) (fun _ _ _ h => h) (Or.inl ⟨by rfl, ?_⟩) hHeld ?_
        rotate_left
        · (intro w hSw; (try dsimp only at hSw); go_simp; (try with_reducible rfl))
        simp only [Act.put, List.setIfInBounds_toArray, List.set_cons_zero, List.set_cons_succ]
        refine take_at 12 (v := ?_) (some 28) rfl rfl (by kernel_rfl) (by kernel_rfl) (by kernel_rfl) (fun _ _ _ h => h) (Or.inl ⟨by rfl, ?_⟩) hHeld ?_
        rotate_left
        · (intro w hSw; (try dsimp only at hSw); go_simp; (try with_reducible rfl))
        simp only [Act.put, List.setIfInBounds_toArray, List.set_cons_zero, List.set_cons_succ]
        refine take_at 13 (v := ?_) (some 29) rfl rfl (by kernel_rfl) (by kernel_rfl) (by kernel_rfl) (fun _ _ _ h => h) (Or.inl ⟨by rfl, ?_⟩) hHeld ?_
        rotate_left
        · (intro w hSw; (try dsimp only at hSw); go_simp; (try with_reducible rfl))
        simp only [Act.put, List.setIfInBounds_toArray, List.set_cons_zero, List.set_cons_succ]
        refine take_at 14 (v := ?_) (some 30) rfl rfl (by kernel_rfl) (by kernel_rfl) (by kernel_rfl) (fun _ _ _ h => h) (Or.inl ⟨by rfl, ?_⟩) hHeld ?_
        rotate_left
        · (intro w hSw; (try dsimp only at hSw); go_simp; (try with_reducible rfl))
        simp only [Act.put, List.setIfInBounds_toArray, List.set_cons_zero, List.set_cons_succ]
        refine take_at 15 (v := ?_) (some 31) rfl rfl (by kernel_rfl) (by kernel_rfl) (by kernel_rfl) (fun _ _ _ h => h) (Or.inl ⟨by rfl, ?_⟩) hHeld ?_
        rotate_left
        · (intro w hSw; (try dsimp only at hSw); go_simp; (try with_reducible rfl))
        simp only [Act.put, List.setIfInBounds_toArray, List.set_cons_zero, List.set_cons_succ]
        refine take_at 16 (v := ?_) (some 32) rfl rfl (by kernel_rfl) (by kernel_rfl) (by kernel_rfl) (fun _ _ _ h => h) (Or.inl ⟨by rfl, ?_⟩) hHeld ?_
        rotate_left
        · (intro w hSw; (try dsimp only at hSw); go_simp; (try with_reducible rfl))
        simp only [Act.put, List.setIfInBounds_toArray, List.set_cons_zero, List.set_cons_succ]
        refine take_at 17 (v := ?_) (some 33) rfl rfl (by kernel_rfl) (by kernel_rfl) (by kernel_rfl) (fun _ _ _ h => h) (Or.inl ⟨by rfl, ?_⟩) hHeld ?_
        rotate_left
        · (intro w hSw; (try dsimp only at hSw); go_simp; (try with_reducible rfl))
        simp only [Act.put, List.setIfInBounds_toArray, List.set_cons_zero, List.set_cons_succ]
        refine take_at 18 (v := ?_) (some 34) rfl rfl (by kernel_rfl) (by kernel_rfl) (by kernel_rfl) (fun _ _ _ h => h) (Or.inl ⟨by rfl, ?_⟩) hHeld ?_
        rotate_left
        · (intro w hSw; (try dsimp only at hSw); go_simp; (try with_reducible rfl))
        simp only [Act.put, List.setIfInBounds_toArray, List.set_cons_zero, List.set_cons_succ]
        refine take_at 20 (v := ?_) (some 36) rfl rfl (by kernel_rfl) (by kernel_rfl) (by kernel_rfl) (fun _ _ _ h => h) (Or.inl ⟨by rfl, ?_⟩) hHeld ?_
        rotate_left
        · (intro w hSw; (try dsimp only at hSw); go_simp; (try with_reducible rfl))
        simp only [Act.put, List.setIfInBounds_toArray, List.set_cons_zero, List.set_cons_succ]
        refine wpAnyH_ready (rs := [19]) (by kernel_rfl) (by simp) ?_
        refine AllReadyH.cons rfl (fun K hK => ?_) AllReadyH.nil
        go_simp
        refine (rask23_y HY.out b g W1.drew (show Rm W1.drew b g zs from HM1.out) hkd).mono ?_
        rintro e w2 ⟨rfl, hM2, hF2⟩
        have HM2 := Lib.hid hM2
        have HF2 := Lib.hid hF2
        clear hM2 hF2
        refine hK.out _ _ ?_ (fun hHeld => ?_)
        · exact ⟨cell_fr hHeld.1 HF2.out HNE.out, cell_fr hHeld.2.1 HF2.out HNE.out, cell_fr hHeld.2.2.1 HF2.out HNE.out, cell_fr hHeld.2.2.2.1 HF2.out HNE.out, cell_fr hHeld.2.2.2.2.1 HF2.out HNE.out, cell_fr hHeld.2.2.2.2.2 HF2.out HNE.out⟩
        clear hK K
        try simp only [Act.put, List.setIfInBounds_toArray, List.set_cons_zero, List.set_cons_succ]
        refine take_at 21 (v := ?_) (some 37) rfl rfl (by kernel_rfl) (by kernel_rfl) (by kernel_rfl) (fun _ _ _ h => h) (Or.inl ⟨by rfl, ?_⟩) hHeld ?_
        rotate_left
        · (intro w hSw; (try dsimp only at hSw); go_simp; (try with_reducible rfl))
        simp only [Act.put, List.setIfInBounds_toArray, List.set_cons_zero, List.set_cons_succ]
        refine take_at 22 (v := ?_) (some 38) rfl rfl (by kernel_rfl) (by kernel_rfl) (by kernel_rfl) (fun _ _ _ h => h) (Or.inl ⟨by rfl, ?_⟩) hHeld ?_
        rotate_left
        · (intro w hSw; (try dsimp only at hSw); go_simp; (try with_reducible rfl))
        simp only [Act.put, List.setIfInBounds_toArray, List.set_cons_zero, List.set_cons_succ]
        refine wpAnyH_done (by kernel_rfl) ?_ _
        go_split_ands
        go_wp2_with fail
        go_roundw
        case rel => exact ⟨k + 1, by omega, by go_num, HS, by rw [HWK.out]; exact HM2.out, HFB.out _ HF2.out⟩
        case measure => simp [intOf]; omega
      · have hd : decide (y = x) = false := decide_eq_false hxy
        rw [hd] at hE
        have HV := Lib.hid (H0k.out (by unfold rightE; rw [← HY.out, hd, Bool.and_false]))
        clear hxy hd H0k HSk
        refine wp_region_held_drew (S := (fun w' => w'.cell? ⟨wr.heap.size, 0, none⟩ = some (.int .i64 x.k) ∧ w'.cell? ⟨wr.heap.size, 1, none⟩ = some (.int .i64 x.a) ∧ w'.cell? ⟨wr.heap.size, 2, none⟩ = some (.int .u64 x.x) ∧ w'.cell? ⟨wr.heap.size, 3, none⟩ = some (.int .u64 x.y) ∧ w'.cell? ⟨wr.heap.size, 4, none⟩ = some (.int .u64 x.g) ∧ w'.cell? ⟨wr.heap.size, 5, none⟩ = some (.bool x.ok))) (by kernel_rfl) ?_ (fun hHeld => ?_)
        · exact ⟨x0, x1, x2, x3, x4, x5⟩
        refine take_at 0 (v := ?_) (some 16) rfl rfl (by kernel_rfl) (by kernel_rfl) (by kernel_rfl) (fun _ _ _ h => h) (Or.inl ⟨by rfl, ?_⟩) hHeld ?_
        rotate_left
        · (intro w hSw; (try dsimp only at hSw); go_simp; (try with_reducible rfl))
        simp only [Act.put, List.setIfInBounds_toArray, List.set_cons_zero, List.set_cons_succ]
        refine take_at 1 (v := ?_) (some 17) rfl rfl (by kernel_rfl) (by kernel_rfl) (by kernel_rfl) (fun _ _ _ h => h) (Or.inl ⟨by rfl, ?_⟩) hHeld ?_
        rotate_left
        · (intro w hSw; (try dsimp only at hSw); go_simp; (try with_reducible rfl))
        simp only [Act.put, List.setIfInBounds_toArray, List.set_cons_zero, List.set_cons_succ]
        refine take_at 2 (v := ?_) (some 18) rfl rfl (by kernel_rfl) (by kernel_rfl) (by kernel_rfl) (fun _ _ _ h => h) (Or.inl ⟨by rfl, ?_⟩) hHeld ?_
        rotate_left
        · (intro w hSw; (try dsimp only at hSw); go_simp; (try with_reducible rfl))
        simp only [Act.put, List.setIfInBounds_toArray, List.set_cons_zero, List.set_cons_succ]
        refine take_at 3 (v := ?_) (some 19) rfl rfl (by kernel_rfl) (by kernel_rfl) (by kernel_rfl) (fun _ _ _ h => h) (Or.inl ⟨by rfl, ?_⟩) hHeld ?_
        rotate_left
        · (intro w hSw; (try dsimp only at hSw); go_simp; (try with_reducible rfl))
        simp only [Act.put, List.setIfInBounds_toArray, List.set_cons_zero, List.set_cons_succ]
        refine take_at 4 (v := ?_) (some 20) rfl rfl (by kernel_rfl) (by kernel_rfl) (by kernel_rfl) (fun _ _ _ h => h) (Or.inl ⟨by rfl, ?_⟩) hHeld ?_
        rotate_left
        · (intro w hSw; (try dsimp only at hSw); go_simp; (try with_reducible rfl))
        simp only [Act.put, List.setIfInBounds_toArray, List.set_cons_zero, List.set_cons_succ]
        refine take_at 5 (v := ?_) (some 21) rfl rfl (by kernel_rfl) (by kernel_rfl) (by kernel_rfl) (fun _ _ _ h => h) (Or.inl ⟨by rfl, ?_⟩) hHeld ?_
        rotate_left
        · (intro w hSw; (try dsimp only at hSw); go_simp; (try with_reducible rfl))
        simp only [Act.put, List.setIfInBounds_toArray, List.set_cons_zero, List.set_cons_succ]
        refine take_at 6 (v := ?_) (some 22) rfl rfl (by kernel_rfl) (by kernel_rfl) (by kernel_rfl) (fun _ _ _ h => h) (Or.inl ⟨by rfl, ?_⟩) hHeld ?_
        rotate_left
        · (intro w hSw; (try dsimp only at hSw); go_simp; (try with_reducible rfl))
        simp only [Act.put, List.setIfInBounds_toArray, List.set_cons_zero, List.set_cons_succ]
        refine take_at 7 (v := ?_) (some 23) rfl rfl (by kernel_rfl) (by kernel_rfl) (by kernel_rfl) (fun _ _ _ h => h) (Or.inl ⟨by rfl, ?_⟩) hHeld ?_
        rotate_left
        · (intro w hSw; (try dsimp only at hSw); go_simp; (try with_reducible rfl))
        simp only [Act.put, List.setIfInBounds_toArray, List.set_cons_zero, List.set_cons_succ]
        refine take_at 8 (v := ?_) (some 24) rfl rfl (by kernel_rfl) (by kernel_rfl) (by kernel_rfl) (fun _ _ _ h => h) (Or.inl ⟨by rfl, ?_⟩) hHeld ?_
        rotate_left
        · (intro w hSw; (try dsimp only at hSw); go_simp; (try with_reducible rfl))
        simp only [Act.put, List.setIfInBounds_toArray, List.set_cons_zero, List.set_cons_succ]
        refine take_at 9 (v := ?_) (some 25) rfl rfl (by kernel_rfl) (by kernel_rfl) (by kernel_rfl) (fun _ _ _ h => h) (Or.inl ⟨by rfl, ?_⟩) hHeld ?_
        rotate_left
        · (intro w hSw; (try dsimp only at hSw); go_simp; (try with_reducible rfl))
        simp only [Act.put, List.setIfInBounds_toArray, List.set_cons_zero, List.set_cons_succ]
        refine take_at 10 (v := ?_) (some 26) rfl rfl (by kernel_rfl) (by kernel_rfl) (by kernel_rfl) (fun _ _ _ h => h) (Or.inl ⟨by rfl, ?_⟩) hHeld ?_
        rotate_left
        · (intro w hSw; (try dsimp only at hSw); go_simp; (try with_reducible rfl))
        simp only [Act.put, List.setIfInBounds_toArray, List.set_cons_zero, List.set_cons_succ]
        refine take_at 11 (v := ?_) (some 27) rfl rfl (by kernel_rfl) (by kernel_rfl) (by kernel_rfl) (fun _ _ _ h => h) (Or.inl ⟨by rfl, ?_⟩) hHeld ?_
        rotate_left
        · (intro w hSw; (try dsimp only at hSw); go_simp; (try with_reducible rfl))
        simp only [Act.put, List.setIfInBounds_toArray, List.set_cons_zero, List.set_cons_succ]
        refine take_at 12 (v := ?_) (some 28) rfl rfl (by kernel_rfl) (by kernel_rfl) (by kernel_rfl) (fun _ _ _ h => h) (Or.inl ⟨by rfl, ?_⟩) hHeld ?_
        rotate_left
        · (intro w hSw; (try dsimp only at hSw); go_simp; (try with_reducible rfl))
        simp only [Act.put, List.setIfInBounds_toArray, List.set_cons_zero, List.set_cons_succ]
        refine take_at 13 (v := ?_) (some 29) rfl rfl (by kernel_rfl) (by kernel_rfl) (by kernel_rfl) (fun _ _ _ h => h) (Or.inl ⟨by rfl, ?_⟩) hHeld ?_
        rotate_left
        · (intro w hSw; (try dsimp only at hSw); go_simp; (try with_reducible rfl))
        simp only [Act.put, List.setIfInBounds_toArray, List.set_cons_zero, List.set_cons_succ]
        refine take_at 14 (v := ?_) (some 30) rfl rfl (by kernel_rfl) (by kernel_rfl) (by kernel_rfl) (fun _ _ _ h => h) (Or.inl ⟨by rfl, ?_⟩) hHeld ?_
        rotate_left
        · (intro w hSw; (try dsimp only at hSw); go_simp; (try with_reducible rfl))
        simp only [Act.put, List.setIfInBounds_toArray, List.set_cons_zero, List.set_cons_succ]
        refine take_at 15 (v := ?_) (some 31) rfl rfl (by kernel_rfl) (by kernel_rfl) (by kernel_rfl) (fun _ _ _ h => h) (Or.inl ⟨by rfl, ?_⟩) hHeld ?_
        rotate_left
        · (intro w hSw; (try dsimp only at hSw); go_simp; (try with_reducible rfl))
        simp only [Act.put, List.setIfInBounds_toArray, List.set_cons_zero, List.set_cons_succ]
        refine take_at 16 (v := ?_) (some 32) rfl rfl (by kernel_rfl) (by kernel_rfl) (by kernel_rfl) (fun _ _ _ h => h) (Or.inl ⟨by rfl, ?_⟩) hHeld ?_
        rotate_left
        · (intro w hSw; (try dsimp only at hSw); go_simp; (try with_reducible rfl))
        simp only [Act.put, List.setIfInBounds_toArray, List.set_cons_zero, List.set_cons_succ]
        refine take_at 17 (v := ?_) (some 33) rfl rfl (by kernel_rfl) (by kernel_rfl) (by kernel_rfl) (fun _ _ _ h => h) (Or.inl ⟨by rfl, ?_⟩) hHeld ?_
        rotate_left
        · (intro w hSw; (try dsimp only at hSw); go_simp; (try with_reducible rfl))
        simp only [Act.put, List.setIfInBounds_toArray, List.set_cons_zero, List.set_cons_succ]
        refine take_at 18 (v := ?_) (some 34) rfl rfl (by kernel_rfl) (by kernel_rfl) (by kernel_rfl) (fun _ _ _ h => h) (Or.inl ⟨by rfl, ?_⟩) hHeld ?_
        rotate_left
        · (intro w hSw; (try dsimp only at hSw); go_simp; (try with_reducible rfl))
        simp only [Act.put, List.setIfInBounds_toArray, List.set_cons_zero, List.set_cons_succ]
        refine take_at 20 (v := ?_) (some 36) rfl rfl (by kernel_rfl) (by kernel_rfl) (by kernel_rfl) (fun _ _ _ h => h) (Or.inl ⟨by rfl, ?_⟩) hHeld ?_
        rotate_left
        · (intro w hSw; (try dsimp only at hSw); go_simp; (try with_reducible rfl))
        simp only [Act.put, List.setIfInBounds_toArray, List.set_cons_zero, List.set_cons_succ]
        refine wpAnyH_ready (rs := [19]) (by kernel_rfl) (by simp) ?_
        refine AllReadyH.cons rfl (fun K hK => ?_) AllReadyH.nil
        go_simp
        refine (rask23_y HY.out b g W1.drew (show Rm W1.drew b g zs from HM1.out) hkd).mono ?_
        rintro e w2 ⟨rfl, hM2, hF2⟩
        have HM2 := Lib.hid hM2
        have HF2 := Lib.hid hF2
        clear hM2 hF2
        refine hK.out _ _ ?_ (fun hHeld => ?_)
        · exact ⟨cell_fr hHeld.1 HF2.out HNE.out, cell_fr hHeld.2.1 HF2.out HNE.out, cell_fr hHeld.2.2.1 HF2.out HNE.out, cell_fr hHeld.2.2.2.1 HF2.out HNE.out, cell_fr hHeld.2.2.2.2.1 HF2.out HNE.out, cell_fr hHeld.2.2.2.2.2 HF2.out HNE.out⟩
        clear hK K
        try simp only [Act.put, List.setIfInBounds_toArray, List.set_cons_zero, List.set_cons_succ]
        refine take_at 21 (v := ?_) (some 37) rfl rfl (by kernel_rfl) (by kernel_rfl) (by kernel_rfl) (fun _ _ _ h => h) (Or.inl ⟨by rfl, ?_⟩) hHeld ?_
        rotate_left
        · (intro w hSw; (try dsimp only at hSw); go_simp; (try with_reducible rfl))
        simp only [Act.put, List.setIfInBounds_toArray, List.set_cons_zero, List.set_cons_succ]
        refine take_at 22 (v := ?_) (some 38) rfl rfl (by kernel_rfl) (by kernel_rfl) (by kernel_rfl) (fun _ _ _ h => h) (Or.inl ⟨by rfl, ?_⟩) hHeld ?_
        rotate_left
        · (intro w hSw; (try dsimp only at hSw); go_simp; (try with_reducible rfl))
        simp only [Act.put, List.setIfInBounds_toArray, List.set_cons_zero, List.set_cons_succ]
        refine wpAnyH_done (by kernel_rfl) ?_ _
        go_split_ands
        go_wp2_with fail
        go_ret
        exact ⟨ret_bool HV.out.symm, HFB.out _ HF2.out⟩
    · obtain rfl : k = L.length := by omega
      have HV := Lib.hid (show q = true by rw [HQ.out, ← HR.out, List.take_length])
      go_wp2_with fail
      go_ret
      exact ⟨ret_bool HV.out.symm, HBR.out⟩


end Go.Proofs.Yteheckcflnogbaa
