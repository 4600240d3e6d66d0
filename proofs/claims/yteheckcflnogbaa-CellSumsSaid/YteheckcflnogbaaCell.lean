/-
  cell.Cell's words, at, over, Put, Get: contracts, over a Plain; soughref30.Words, word. Written by wip/gen/mkcell1.py.
-/
import Derived.Test.YteheckcflnogbaaTk
import Derived.Test.YteheckcflnogbaaSame
import Derived.Test.YteheckcflnogbaaRec5
import Derived.Deep.RegionHeld3
import Derived.Laws.AppendOwn
namespace Go.Proofs.Yteheckcflnogbaa
open Go.RowKit

/-- How many words a cell has. -/
def cwn (n : Int) : Int := min (max n 0) 1024
theorem cwn_bd (n : Int) : 0 ≤ cwn n ∧ cwn n ≤ 1024 := by unfold cwn; omega
def wdA (A : List Nat) (i : Nat) : Int := ((A[i]?.getD 0 : Nat) : Int)
theorem Ws.fr {S : List Nat} {w w' : World} {v : Value} {zs : List Nat} (h : Ws w v zs) (k : Fr S w w') (hS : ∀ a c, v = .slice (some a) zs.length c → 0 < zs.length → a.block ∉ S) : Ws w' v zs := by
  obtain ⟨hz, ⟨rfl, rfl⟩ | ⟨a, c, rfl, hd⟩⟩ := h
  · exact ⟨hz, .inl ⟨rfl, rfl⟩⟩
  · exact ⟨hz, .inr ⟨a, c, rfl, fun i hi => cell_fr (hd i hi) k (by have := hS a c rfl (by omega); unfold Addr.add; split <;> exact this)⟩⟩
theorem Ws.len {w : World} {v : Value} {zs : List Nat} (h : Ws w v zs) : ∃ p c, v = .slice p zs.length c := by
  obtain ⟨p, c, h, _⟩ := ws_row h
  exact ⟨p, c, h⟩

set_option maxHeartbeats 3200000 in
set_option maxRecDepth 100000 in
theorem cwords_any (bs wh n : Int) (w : World) :
    Calls Try.prog 145 #[.agg #[.int .i64 bs, .int .i64 wh, .int .i64 n]] w fun e w' => e = .returned (.int .i64 (cwn n)) ∧ Below w.heap.size w w' := by
  have c2 : (w.alloc (.cells #[.int .i64 bs, .int .i64 wh, .int .i64 n] 120)).cell? ⟨w.heap.size, 2, none⟩ = some (.int .i64 n) := (Bk.new w 120 [.int .i64 bs, .int .i64 wh, .int .i64 n]).cell 2

  go_enter Try.func145, Try.ntmps145
  go_wp2_with fail
  all_goals
    go_ret
    refine ⟨ret_int ?_, ?_⟩
    · unfold cwn; omega
    · first | rfl | exact (Below.refl _ _).alloc (Nat.le_refl _) _

set_option maxHeartbeats 3200000 in
set_option maxRecDepth 100000 in
theorem rcwords_any (n : Int) (w : World) :
    Calls Try.prog 80 #[.int .i64 n] w fun e w' => e = .returned (.int .i64 (cwn n)) ∧ w' = w := by
  go_enter Try.func80, Try.ntmps80
  go_wp2_with fail
  all_goals
    go_ret
    refine ⟨ret_int ?_, ?_⟩
    · unfold cwn; omega
    · first | rfl | exact (Below.refl _ _).alloc (Nat.le_refl _) _

set_option maxHeartbeats 3200000 in
set_option maxRecDepth 100000 in
theorem at30_any (v : Value) (A : List Nat) (i : Nat) (w : World) (h : Ws w v A) :
    Calls Try.prog 146 #[v, .int .i64 i] w fun e w' => e = .returned (.int .u64 (wdA A i)) ∧ w' = w := by
  obtain ⟨p, c, rfl, hc⟩ := ws_row h
  by_cases hlt : i < A.length
  · obtain ⟨a, rfl, hd⟩ := hc (by omega)
    have d0 : w.cell? (a.add i) = some (.int .u64 (wdA A i)) := hd i hlt
    generalize wdA A i = z at *
    have hli : decide ((i : Int) < A.length) = true := by simp; omega
    clear hd hc h
    go_enter Try.func146, Try.ntmps146
    go_wp2_with fail
    go_ret
    exact ⟨rfl, rfl⟩
  · have hz : wdA A i = 0 := by unfold wdA; rw [List.getElem?_eq_none (by omega)]; rfl
    have hli : decide ((i : Int) < A.length) = false := by simp; omega
    clear hc h
    go_enter Try.func146, Try.ntmps146
    go_wp2_with fail
    go_ret
    exact ⟨by rw [hz]; rfl, rfl⟩

set_option maxHeartbeats 3200000 in
set_option maxRecDepth 100000 in
theorem rcword30_any (v : Value) (A : List Nat) (i : Nat) (w : World) (h : Ws w v A) :
    Calls Try.prog 148 #[v, .int .i64 i] w fun e w' => e = .returned (.int .u64 (wdA A i)) ∧ w' = w := by
  obtain ⟨p, c, rfl, hc⟩ := ws_row h
  by_cases hlt : i < A.length
  · obtain ⟨a, rfl, hd⟩ := hc (by omega)
    have d0 : w.cell? (a.add i) = some (.int .u64 (wdA A i)) := hd i hlt
    generalize wdA A i = z at *
    have hli : decide ((i : Int) < A.length) = true := by simp; omega
    clear hd hc h
    go_enter Try.func148, Try.ntmps148
    go_wp2_with fail
    go_ret
    exact ⟨rfl, rfl⟩
  · have hz : wdA A i = 0 := by unfold wdA; rw [List.getElem?_eq_none (by omega)]; rfl
    have hli : decide ((i : Int) < A.length) = false := by simp; omega
    clear hc h
    go_enter Try.func148, Try.ntmps148
    go_wp2_with fail
    go_ret
    exact ⟨by rw [hz]; rfl, rfl⟩

set_option maxHeartbeats 3200000 in
set_option maxRecDepth 100000 in
theorem over_any (b off : Nat) (k bs wh n : Int) (w : World) (h : w.cell? ⟨b, off, none⟩ = some (.int .i64 k)) :
    Calls Try.prog 147 #[.pointer (some ⟨b, off, none⟩), .agg #[.int .i64 bs, .int .i64 wh, .int .i64 n]] w fun e w' => e = .returned (.bool (decide (cwn n ≤ k))) ∧ Below w.heap.size w w' := by
  have KB := Lib.hid (Bk.new w 120 [.int .i64 bs, .int .i64 wh, .int .i64 n])
  have c0 : (w.alloc (.cells #[.int .i64 bs, .int .i64 wh, .int .i64 n] 120)).cell? ⟨w.heap.size, 0, none⟩ = some (.int .i64 bs) := KB.out.cell 0
  have c1 : (w.alloc (.cells #[.int .i64 bs, .int .i64 wh, .int .i64 n] 120)).cell? ⟨w.heap.size, 1, none⟩ = some (.int .i64 wh) := KB.out.cell 1
  have c2 : (w.alloc (.cells #[.int .i64 bs, .int .i64 wh, .int .i64 n] 120)).cell? ⟨w.heap.size, 2, none⟩ = some (.int .i64 n) := KB.out.cell 2
  have B0 := Lib.hid ((Below.refl w.heap.size w).alloc (Nat.le_refl _) (.cells #[.int .i64 bs, .int .i64 wh, .int .i64 n] 120))
  have ck := keepc h B0.out
  clear h
  go_enter Try.func147, Try.ntmps147
  go_wp2_with fail
  go_region_held3 (fun w' => w'.cell? ⟨b, off, none⟩ = some (.int .i64 k) ∧ w'.cell? ⟨w.heap.size, 0, none⟩ = some (.int .i64 bs) ∧ w'.cell? ⟨w.heap.size, 1, none⟩ = some (.int .i64 wh) ∧ w'.cell? ⟨w.heap.size, 2, none⟩ = some (.int .i64 n) ∧ Below w.heap.size w w')
    (first
      | exact ⟨ck, c0, c1, c2, B0.out.drew⟩
      | (go_split_ands; exact ⟨keepc (by assumption) hB, keepc (by assumption) hB, keepc (by assumption) hB, keepc (by assumption) hB, (show Below w.heap.size w _ by assumption).trans (hB.mono (show Below w.heap.size w _ by assumption).size)⟩))
    (first
      | (go_at_call 145; go_split_ands; refine (cwords_any _ _ _ _).mono ?_; rintro e v1 ⟨rfl, hB⟩))
  go_split_ands
  have B1 := Lib.hid (show Below w.heap.size w _ from by assumption)
  go_wp2_with fail
  go_ret
  exact ⟨ret_bool (by simp), B1.out⟩

theorem m_store (a : Addr) (w : World) : (method 394 64 (.pointer (some a)) "Store").run Try.prog w = .ok (68, .pointer (some a)) w := by kernel_rfl
theorem n_store (a : Addr) (w : World) : (nilAhead 394 64 (.pointer (some a)) "Store").run Try.prog w = .ok (some false) w := by kernel_rfl
/-- What Put leaves. -/
def putE (zs : List Int) (bs : Int) (A : List Nat) : Nat → List Int
  | 0 => zs
  | k + 1 => stv (putE zs bs A k) (bs + k) (wdA A k)

set_option maxHeartbeats 3200000 in
set_option maxRecDepth 100000 in
theorem put_any (bs wh n : Int) (va : Value) (A : List Nat) (b g : Nat) (zs : List Int) (w : World) (hbs : 0 ≤ bs ∧ bs ≤ 1000) (h : Ws w va A) (hm : Pm w b g zs) (hA : ∀ a c, va = .slice (some a) A.length c → 0 < A.length → a.block ≠ g) :
    Calls Try.prog 79 #[.agg #[.int .i64 bs, .int .i64 wh, .int .i64 n], .iface 64 (.pointer (some ⟨b, 0, none⟩)), va] w fun e w' => e = .returned (.tuple #[]) ∧ Pm w' b g (putE zs bs A (cwn n).toNat) ∧ Fr [g] w w' := by
  have KB := Lib.hid (Bk.new w 120 [.int .i64 bs, .int .i64 wh, .int .i64 n])
  have F0 := Lib.hid ((Fr.refl [] w).alloc (.cells #[.int .i64 bs, .int .i64 wh, .int .i64 n] 120))
  have HA := Lib.hid (h.fr F0.out (by simp))
  have HNA := Lib.hid hA
  have HM := Lib.hid (show Pm (w.alloc (.cells #[.int .i64 bs, .int .i64 wh, .int .i64 n] 120)) b g zs from ⟨hm.1.alloc _, hm.2.1.alloc _, hm.2.2⟩)
  have HNG := Lib.hid (show w.heap.size ≠ g from by have := hm.2.1.lt; omega)
  have hm' := m_store
  have hns := n_store
  obtain ⟨hb0, hb1⟩ := hbs
  have hn2 := cwn_bd n
  obtain ⟨q, hq⟩ : ∃ q : Nat, cwn n = q := ⟨(cwn n).toNat, by omega⟩
  have hq2 : q ≤ 1024 := by omega
  rw [hq, Int.toNat_natCast]
  have HQ := Lib.hid hq
  clear h hm hA hq hn2
  have k0 : (w.alloc (.cells #[.int .i64 bs, .int .i64 wh, .int .i64 n] 120)).cell? ⟨w.heap.size, 0, none⟩ = some (.int .i64 bs) := KB.out.cell 0
  have k1 : (w.alloc (.cells #[.int .i64 bs, .int .i64 wh, .int .i64 n] 120)).cell? ⟨w.heap.size, 1, none⟩ = some (.int .i64 wh) := KB.out.cell 1
  have k2 : (w.alloc (.cells #[.int .i64 bs, .int .i64 wh, .int .i64 n] 120)).cell? ⟨w.heap.size, 2, none⟩ = some (.int .i64 n) := KB.out.cell 2
  go_enter Try.func79, Try.ntmps79
  go_wp2_with fail
  refine (or_some _ _ _).mono ?_
  rintro e w1 ⟨rfl, hww⟩
  subst w1
  go_wp2_with fail
  refine (cwords_any _ _ _ _).mono ?_
  rintro e w2 ⟨rfl, hB⟩
  rw [HQ.out]
  have F2 := Lib.hid (show Fr [g] w w2 from (F0.out.trans (.of hB)).mono (by simp))
  have HA2 := Lib.hid (HA.out.fr (S := []) (.of hB) (by simp))
  have HM2 := Lib.hid (HM.out.below hB)
  have KB2 := Lib.hid (KB.out.below hB)
  clear hB k0 k1 k2 HM HA KB F0 HQ
  go_wp2_with fail
  go_loopw [11] (fun i wr => ∃ k : Nat, k ≤ q ∧ i = .int .i64 k ∧ Pm wr b g (putE zs bs A k) ∧ Fr [g] w2 wr)
    (fun i _ => q - (intOf i).toNat)
  case atStart => exact ⟨0, Nat.zero_le _, rfl, HM2.out, Fr.refl _ _⟩
  case round =>
    obtain ⟨k, hk, rfl, hP, hF⟩ := hrel
    have HF := Lib.hid hF
    have HZ0 := Lib.hid hP
    clear hP hF
    by_cases hlt : k < q
    · have c0 : wr.cell? ⟨w.heap.size, 0, none⟩ = some (.int .i64 bs) := (KB2.out.fr HF.out (by simp; exact HNG.out)).cell 0
      have HA := Lib.hid (HA2.out.fr HF.out (by simpa using HNA.out))
      have hsum : IntKind.i64.wrap (bs + k) = bs + k := IntWalk.i64_in _ (by omega)
      have hki : (k : Int) < q := by omega
      obtain ⟨zk, hzk⟩ : ∃ z, z = putE zs bs A k := ⟨_, rfl⟩
      have HZK := Lib.hid hzk
      have HZ := Lib.hid (show Pm wr b g zk from hzk ▸ HZ0.out)
      clear hzk HZ0
      go_wp2_with fail
      refine wp_region_held_drew (S := (fun w' => w'.cell? ⟨w.heap.size, 0, none⟩ = some (.int .i64 bs))) (by kernel_rfl) ?_ (fun hHeld => ?_)
      · exact c0
      refine take_at 0 (v := ?_) (some 14) rfl rfl (by kernel_rfl) (by kernel_rfl) (by kernel_rfl) (fun _ _ _ h => h) (Or.inl ⟨by rfl, ?_⟩) hHeld ?_
      rotate_left
      · (intro w hSw; (try dsimp only at hSw); go_simp; (try with_reducible rfl))
      simp only [Act.put, List.setIfInBounds_toArray, List.set_cons_zero, List.set_cons_succ]
      refine take_at 1 (v := ?_) (some 15) rfl rfl (by kernel_rfl) (by kernel_rfl) (by kernel_rfl) (fun _ _ _ h => h) (Or.inl ⟨by rfl, ?_⟩) hHeld ?_
      rotate_left
      · (intro w hSw; (try dsimp only at hSw); go_simp; (try with_reducible rfl))
      simp only [Act.put, List.setIfInBounds_toArray, List.set_cons_zero, List.set_cons_succ]
      refine take_at 2 (v := ?_) (some 16) rfl rfl (by kernel_rfl) (by kernel_rfl) (by kernel_rfl) (fun _ _ _ h => h) (Or.inl ⟨by rfl, ?_⟩) hHeld ?_
      rotate_left
      · (intro w hSw; (try dsimp only at hSw); go_simp; (try with_reducible rfl))
      simp only [Act.put, List.setIfInBounds_toArray, List.set_cons_zero, List.set_cons_succ]
      refine take_at 3 (v := ?_) (some 17) rfl rfl (by kernel_rfl) (by kernel_rfl) (by kernel_rfl) (fun _ _ _ h => h) (Or.inl ⟨by rfl, ?_⟩) hHeld ?_
      rotate_left
      · (intro w hSw; (try dsimp only at hSw); go_simp; (try with_reducible rfl))
      simp only [Act.put, List.setIfInBounds_toArray, List.set_cons_zero, List.set_cons_succ]
      refine take_at 4 (v := ?_) (some 18) rfl rfl (by kernel_rfl) (by kernel_rfl) (by kernel_rfl) (fun _ _ _ h => h) (Or.inl ⟨by rfl, ?_⟩) hHeld ?_
      rotate_left
      · (intro w hSw; (try dsimp only at hSw); go_simp; (try with_reducible rfl))
      simp only [Act.put, List.setIfInBounds_toArray, List.set_cons_zero, List.set_cons_succ]
      refine take_at 5 (v := ?_) (some 19) rfl rfl (by kernel_rfl) (by kernel_rfl) (by kernel_rfl) (fun _ _ _ h => h) (Or.inl ⟨by rfl, ?_⟩) hHeld ?_
      rotate_left
      · (intro w hSw; (try dsimp only at hSw); go_simp; (try with_reducible rfl))
      simp only [Act.put, List.setIfInBounds_toArray, List.set_cons_zero, List.set_cons_succ]
      refine take_at 6 (v := ?_) (some 20) rfl rfl (by kernel_rfl) (by kernel_rfl) (by kernel_rfl) (fun _ _ _ h => h) (Or.inl ⟨by rfl, ?_⟩) hHeld ?_
      rotate_left
      · (intro w hSw; (try dsimp only at hSw); go_simp; (try with_reducible rfl))
      simp only [Act.put, List.setIfInBounds_toArray, List.set_cons_zero, List.set_cons_succ]
      refine take_at 8 (v := ?_) (some 22) rfl rfl (by kernel_rfl) (by kernel_rfl) (by kernel_rfl) (fun _ _ _ h => h) (Or.inl ⟨by rfl, ?_⟩) hHeld ?_
      rotate_left
      · (intro w hSw; (try dsimp only at hSw); go_simp; (try with_reducible rfl))
      simp only [Act.put, List.setIfInBounds_toArray, List.set_cons_zero, List.set_cons_succ]
      refine take_at 9 (v := ?_) (some 23) rfl rfl (by kernel_rfl) (by kernel_rfl) (by kernel_rfl) (fun _ _ _ h => h) (Or.inl ⟨by rfl, ?_⟩) hHeld ?_
      rotate_left
      · (intro w hSw; (try dsimp only at hSw); go_simp; (try with_reducible rfl))
      simp only [Act.put, List.setIfInBounds_toArray, List.set_cons_zero, List.set_cons_succ]
      refine take_at 10 (v := ?_) (some 24) rfl rfl (by kernel_rfl) (by kernel_rfl) (by kernel_rfl) (fun _ _ _ h => h) (Or.inl ⟨by rfl, ?_⟩) hHeld ?_
      rotate_left
      · (intro w hSw; (try dsimp only at hSw); go_simp; (try with_reducible rfl))
      simp only [Act.put, List.setIfInBounds_toArray, List.set_cons_zero, List.set_cons_succ]
      refine wpAnyH_ready (rs := [7]) (by kernel_rfl) (by simp) ?_
      refine AllReadyH.cons rfl (fun K hK => ?_) AllReadyH.nil
      go_simp
      refine (at30_any va A k _ (show Ws wr.drew va A from HA.out)).mono ?_; rintro e v1 ⟨rfl, hww⟩; subst v1
      go_wp2_with fail
      refine hK.out _ _ ?_ (fun hHeld => ?_)
      · (try dsimp only at hHeld ⊢)
        go_split_ands
        exact (by first | exact cell_fr (by assumption) HF2.out (by simp; exact HNG.out) | exact hHeld)
      clear hK K
      try simp only [Act.put, List.setIfInBounds_toArray, List.set_cons_zero, List.set_cons_succ]
      refine wpAnyH_ready (rs := [11]) (by kernel_rfl) (by simp) ?_
      refine AllReadyH.cons rfl (fun K hK => ?_) AllReadyH.nil
      go_simp
      refine (store_any (bs + k) (wdA A k) b g zk _ (show Pm wr.drew b g zk from HZ.out)).mono ?_; rintro e v2 ⟨rfl, hP, hK⟩; have HP := Lib.hid hP; have HF2 := Lib.hid (show Fr [g] wr v2 from ((Fr.refl [g] wr).drew).trans (.gb hK (by simp))); clear hP hK
      go_wp2_with fail
      refine hK.out _ _ ?_ (fun hHeld => ?_)
      · (try dsimp only at hHeld ⊢)
        go_split_ands
        exact (by first | exact cell_fr (by assumption) HF2.out (by simp; exact HNG.out) | exact hHeld)
      clear hK K
      try simp only [Act.put, List.setIfInBounds_toArray, List.set_cons_zero, List.set_cons_succ]
      refine wpAnyH_done (by kernel_rfl) ?_ _
      go_split_ands

      have HS := Lib.hid (show putE zs bs A (k + 1) = stv zk (bs + k) (wdA A k) by rw [HZK.out]; rfl)
      have HF3 := Lib.hid (HF.out.trans HF2.out)
      clear hsum
      go_wp2_with fail
      go_roundw
      case rel => exact ⟨k + 1, by omega, by go_num, by rw [HS.out]; exact HP.out, HF3.out⟩
      case measure => simp [intOf]; omega
    · obtain rfl : k = q := by omega
      go_wp2_with fail
      exact bodyPost_end (results_none rfl _ _ _) rfl ⟨rfl, HZ0.out, F2.out.trans HF.out⟩

/-- What Get tells. -/
def getE (zs : List Int) (bs : Int) (n : Nat) : List Int := (List.range n).map fun (i : Nat) => ldv zs (bs + (i : Int))
theorem getE_succ (zs : List Int) (bs : Int) (n : Nat) : getE zs bs (n + 1) = getE zs bs n ++ [ldv zs (bs + n)] := by unfold getE; rw [List.range_succ, List.map_append]; rfl
theorem u6_info : (Try.prog.info? 29).map (fun i => (i.zero, i.size, i.bytes)) = some (some (.int .u64 0), 1, 8) := by kernel_rfl

set_option maxHeartbeats 3200000 in
set_option maxRecDepth 100000 in
theorem get_any (bs wh n : Int) (b g : Nat) (zs : List Int) (w : World) (hbs : 0 ≤ bs ∧ bs ≤ 1000) (hm : Pm w b g zs) :
    Calls Try.prog 83 #[.agg #[.int .i64 bs, .int .i64 wh, .int .i64 n], .iface 64 (.pointer (some ⟨b, 0, none⟩))] w fun e w' => ∃ v', e = .returned v' ∧ w'.ownsRow w.heap.size 29 1 v' (cwn n).toNat ((getE zs bs (cwn n).toNat).map (Value.int .u64)) ∧ Below w.heap.size w w' := by
  have KB := Lib.hid (Bk.new w 120 [.int .i64 bs, .int .i64 wh, .int .i64 n])
  have B0 := Lib.hid ((Below.refl w.heap.size w).alloc (Nat.le_refl _) (.cells #[.int .i64 bs, .int .i64 wh, .int .i64 n] 120))
  have HM := Lib.hid (hm.below B0.out)
  have HG := Lib.hid (show b < w.heap.size ∧ g < w.heap.size from ⟨hm.1.lt, hm.2.1.lt⟩)
  have hm' := m_load
  obtain ⟨i0, hi, hz0, hz1, hz2⟩ := info_parts u6_info
  obtain ⟨hb0, hb1⟩ := hbs
  have hn2 := cwn_bd n
  obtain ⟨q, hq⟩ : ∃ q : Nat, cwn n = q := ⟨(cwn n).toNat, by omega⟩
  have hq2 : q ≤ 1024 := by omega
  rw [hq, Int.toNat_natCast]
  have HQ := Lib.hid hq
  clear hm hq hn2
  have k0 : (w.alloc (.cells #[.int .i64 bs, .int .i64 wh, .int .i64 n] 120)).cell? ⟨w.heap.size, 0, none⟩ = some (.int .i64 bs) := KB.out.cell 0
  have k1 : (w.alloc (.cells #[.int .i64 bs, .int .i64 wh, .int .i64 n] 120)).cell? ⟨w.heap.size, 1, none⟩ = some (.int .i64 wh) := KB.out.cell 1
  have k2 : (w.alloc (.cells #[.int .i64 bs, .int .i64 wh, .int .i64 n] 120)).cell? ⟨w.heap.size, 2, none⟩ = some (.int .i64 n) := KB.out.cell 2
  go_enter Try.func83, Try.ntmps83
  go_wp2_with fail
  refine (or_some _ _ _).mono ?_
  rintro e w1 ⟨rfl, hww⟩
  subst w1
  go_wp2_with fail
  refine (cwords_any _ _ _ _).mono ?_
  rintro e w2 ⟨rfl, hB⟩
  rw [HQ.out]
  have B2 := Lib.hid (show Below w.heap.size w w2 from bel_then B0.out hB)
  have HM2 := Lib.hid (HM.out.below hB)
  have KB2 := Lib.hid (KB.out.below hB)
  clear hB k0 k1 k2 HM KB B0 HQ
  go_wp2_with fail
  go_loopw [5, 11] (fun v i wr => ∃ k : Nat, k ≤ q ∧ i = .int .i64 k ∧ wr.ownsRow w.heap.size 29 1 v k ((getE zs bs k).map (Value.int .u64)) ∧ Pm wr b g zs ∧ Bk wr w.heap.size 120 [.int .i64 bs, .int .i64 wh, .int .i64 n] ∧ Below w.heap.size w wr)
    (fun _ i _ => q - (intOf i).toNat)
  case atStart => exact ⟨0, Nat.zero_le _, rfl, by rw [show (getE zs bs 0).map (Value.int .u64) = [] from rfl]; exact World.ownsRow_nil _ _ _ _, HM2.out, KB2.out, B2.out⟩
  case round =>
    obtain ⟨k, hk, rfl, hO, hP, hK, hB⟩ := hrel
    have HO := Lib.hid hO
    have HP := Lib.hid hP
    have HK := Lib.hid hK
    have HB := Lib.hid hB
    clear hO hP hK hB
    by_cases hlt : k < q
    · have c0 : wr.cell? ⟨w.heap.size, 0, none⟩ = some (.int .i64 bs) := HK.out.cell 0
      have hki : (k : Int) < q := by omega
      go_wp2_with fail
      refine (load_any (bs + k) b g zs _ HP.out).mono ?_
      rintro e w3 ⟨rfl, hB3⟩
      have HO3 := Lib.hid (own_fr HO.out (.of (S := []) hB3) (by simp))
      have HP3 := Lib.hid (HP.out.below hB3)
      have HK3 := Lib.hid (HK.out.below hB3)
      have HB3 := Lib.hid (bel_then HB.out hB3)
      have HS := Lib.hid (getE_succ zs bs k)
      clear hB3
      generalize ldv zs (bs + k) = y at *
      go_wp2_with (at_builtin; refine wpList_append_own _ rfl _ _ 22 rfl w.heap.size 29 i0 (.int .u64 0) 1 8 Try.underlying22 hi hz0 hz1 hz2 rfl (by decide) _ _ _ rfl (HO3.out.alloc _) ⟨w3.heap.size, 0, none⟩ 1 1 [.int .u64 y] rfl rfl ?c1 ?c2 ?c3 ?c4 ?c5 ?_)
      case c1 =>
        intro j x hu
        rw [Addr.add_lit, Nat.zero_add, (Bk.new w3 _ [.int .u64 y]).cell]
        exact hu
      case c2 => simp [Value.oneCell']
      case c3 => unfold maxLen; omega
      case c4 => omega
      case c5 => have := HB3.out.size; rw [World.size_alloc]; omega
      intro v' w4 hown' hgrow _
      have hF := fr_grown hgrow
      have HO4 := Lib.hid (show w4.ownsRow w.heap.size 29 1 v' (k + 1) ((getE zs bs (k + 1)).map (Value.int .u64)) by rw [HS.out, List.map_append]; exact hown')
      have HP4 := Lib.hid (show Pm w4 b g zs from ⟨HP3.out.1.fr hF (fun hm => by have := (HO3.out.lt b (rowB_mem.1 hm)).1; have := HG.out; omega), HP3.out.2.1.fr hF (fun hm => by have := (HO3.out.lt g (rowB_mem.1 hm)).1; have := HG.out; omega), HP3.out.2.2⟩)
      have HK4 := Lib.hid (HK3.out.fr hF (own_ne HO3.out HK3.out (by decide)))
      have HB4 := Lib.hid (show Below w.heap.size w w4 from ((Fr.of (S := []) HB3.out).from hF (fun i hi hl => by have := (HO3.out.lt i (rowB_mem.1 hi)).1; omega)).below)
      clear hown' hgrow hF
      go_wp2_with fail
      go_roundw
      case rel => exact ⟨k + 1, by omega, by go_num, HO4.out, HP4.out, HK4.out, HB4.out⟩
      case measure => simp [intOf]; omega
    · obtain rfl : k = q := by omega
      go_wp2_with fail
      go_ret
      exact ⟨_, rfl, HO.out, HB.out⟩


end Go.Proofs.Yteheckcflnogbaa
