/-
  soughlaw23.events, same; record.ask, Right; soughlaw23.awake: contracts. Written by wip/gen/mkrec3.py.
-/
import Derived.Test.YteheckcflnogbaaRec2
import Derived.Laws.StructEq
import Derived.BigQuiet
import Derived.Deep.QuietTactic
namespace Go.Proofs.Yteheckcflnogbaa
open Go.RowKit

def ecellsK (L : List EvT) (k : Nat) : List Value := ecells (L.take k)
theorem ecellsK_succ (L : List EvT) (k : Nat) (h : k < L.length) : ecellsK L (k + 1) = ecellsK L k ++ evCells (evAt L k) := by
  unfold ecellsK
  rw [List.take_succ_eq_append_getElem h, ecells_snoc]
  congr 2
  simp [evAt, h]
theorem evU : Try.prog.underlying 172 = some (.struct (Try.prog.fieldsOf 172)) := by kernel_rfl
theorem evS : Try.prog.stoodInHeld 172 = false := by kernel_rfl
theorem ev_equal (a b : EvT) (w : World) : (Op.equalIn 10000 172 (.agg (evCells a).toArray) (.agg (evCells b).toArray)).run Try.prog w = .ok (decide (a = b)) w := by
  have u3 := Try.underlying3
  have a3 := Try.isAgg3
  have z3 := Try.sizeOf3
  have u4 := Try.underlying29
  have a4 := Try.isAgg29
  have z4 := Try.sizeOf29
  have u5 := Try.underlying4
  have a5 := Try.isAgg4
  have z5 := Try.sizeOf4
  obtain ⟨a1, a2, a3', a4', a5', a6⟩ := a
  obtain ⟨b1, b2, b3, b4, b5, b6⟩ := b
  unfold evCells
  rw [show (10000 : Nat) = 9999 + 1 from rfl, run_equalIn_agg w 9999 _ _ _ evU evS]
  simp only [Program.fieldsOf, Try.underlying172]
  go_simp
  by_cases h1 : a1 = b1 <;> by_cases h2 : a2 = b2 <;> by_cases h3 : a3' = b3 <;> by_cases h4 : a4' = b4 <;> by_cases h5 : a5' = b5 <;> by_cases h6 : a6 = b6 <;> simp [h1, h2, h3, h4, h5, h6]
theorem ev_neq (a b : EvT) (w : World) : (binOp .neq 172 (.agg (evCells a).toArray) (.agg (evCells b).toArray)).run Try.prog w = .ok (.bool (!(decide (a = b)))) w := by
  rw [run_neq_struct, ev_equal]; rfl
theorem evs_ne {L M : List EvT} {k : Nat} (h : evAt L k ≠ evAt M k) : decide (L = M) = false := by
  simp; rintro rfl; exact h rfl
theorem evs_eq {L M : List EvT} (hl : L.length = M.length) (h : ∀ j, j < L.length → evAt L j = evAt M j) : decide (L = M) = true := by
  simp
  refine List.ext_getElem hl fun j h1 h2 => ?_
  have := h j h1
  unfold evAt at this
  simpa [h1, h2] using this

set_option maxHeartbeats 3200000 in
set_option maxRecDepth 100000 in
theorem events_any (v : Value) (L : List EvT) (gi : Nat) (w : World) (h : Evs w v L gi) (hl : L.length ≤ 1000) :
    Calls Try.prog 38 #[v] w fun e w' => ∃ v', e = .returned v' ∧ w'.ownsRow w.heap.size 172 6 v' L.length (ecells L) ∧ Below w.heap.size w w' := by
  obtain ⟨i0, hi, hz0, hz1, hz2⟩ := info_parts ev_info
  obtain ⟨o, c, rfl, hle, hc⟩ := h
  have HC := Lib.hid hc
  clear hc
  go_enter Try.func38, Try.ntmps38
  go_wp2_with fail
  go_loopw [3, 8] (fun v i wr => ∃ k : Nat, k ≤ L.length ∧ i = .int .i64 k ∧ wr.ownsRow w.heap.size 172 6 v k (ecellsK L k) ∧ Below w.heap.size w wr)
    (fun _ i _ => L.length - (intOf i).toNat)
  case atStart => exact ⟨0, Nat.zero_le _, rfl, World.ownsRow_nil _ _ _ _, Below.refl _ _⟩
  case round =>
    obtain ⟨k, hk, rfl, hown, hB⟩ := hrel
    have HB := Lib.hid hB
    have HO := Lib.hid hown
    clear hB hown
    by_cases hlt : k < L.length
    · obtain ⟨off, rfl, hd⟩ := HC.out (by omega)
      replace hd := hd k hlt
      have d0 := keepc hd.1 HB.out
      have d1 := keepc hd.2.1 HB.out
      have d2 := keepc hd.2.2.1 HB.out
      have d3 := keepc hd.2.2.2.1 HB.out
      have d4 := keepc hd.2.2.2.2.1 HB.out
      have d5 := keepc hd.2.2.2.2.2 HB.out
      have HE := Lib.hid (ecellsK_succ L k hlt)
      clear hd
      generalize evAt L k = x at *
      go_wp2_with (at_builtin; refine wpList_append_own _ rfl _ _ 44 rfl w.heap.size 172 i0 (.agg #[.int .i64 0, .int .i64 0, .int .u64 0, .int .u64 0, .int .u64 0, .bool false]) 6 48 Try.underlying44 hi hz0 hz1 hz2 rfl (by decide) _ _ _ rfl ((HO.out.alloc _).alloc _) ⟨wr.heap.size + 1, 0, none⟩ 1 1 (evCells x) rfl rfl ?c1 ?c2 ?c3 ?c4 ?c5 ?_)
      case c1 =>
        intro j u hu
        have := ev_new (wr.alloc (.cells (evCells x).toArray 49)) x 172 j u hu
        rw [World.size_alloc] at this
        exact this
      case c2 => simp [evCells, Value.oneCell']
      case c3 => unfold maxLen; omega
      case c4 => omega
      case c5 => have := HB.out.size; simp; omega
      intro v' w3 hown' hgrow _
      rw [← HE.out] at hown'
      have HO' := Lib.hid hown'
      have HB' := Lib.hid (((HB.out.alloc (by have := HB.out.size; omega) _).alloc (by have := HB.out.size; simp; omega) _).grown hgrow (by have := HB.out.size; simp; omega) (fun k hk => (HO.out.lt k hk).1))
      clear hown' hgrow
      go_wp2
      go_roundw
      case rel => exact ⟨k + 1, by omega, by go_num, HO'.out, HB'.out⟩
      case measure => simp [intOf]; omega
    · obtain rfl : k = L.length := by omega
      go_wp2
      go_ret
      exact ⟨_, rfl, by have h := HO.out; unfold ecellsK at h; rw [List.take_length] at h; exact h, HB.out⟩

set_option maxHeartbeats 3200000 in
set_option maxRecDepth 100000 in
theorem evsame_any (v1 v2 : Value) (L M : List EvT) (g1 g2 : Nat) (w : World) (h1 : Evs w v1 L g1) (h2 : Evs w v2 M g2) (hl : L.length ≤ 100000) (hm : M.length ≤ 1000) :
    Calls Try.prog 43 #[v1, v2] w fun e w' => e = .returned (.bool (decide (L = M))) ∧ Below w.heap.size w w' := by
  have H1 := Lib.hid h1
  have H2 := Lib.hid h2
  obtain ⟨o1, c1, rfl⟩ := h1.len
  obtain ⟨o2, c2, rfl⟩ := h2.len
  obtain ⟨q, hq⟩ : ∃ q, q = decide (L = M) := ⟨_, rfl⟩
  have HQ := Lib.hid hq
  rw [← hq]
  clear hq h1 h2
  by_cases hlen : L.length = M.length
  case neg =>
    have hb : ((L.length : Int) != M.length) = true := by simpa using (fun e : (L.length : Int) = M.length => hlen (by omega))
    have HV := Lib.hid (show q = false by rw [HQ.out]; simp; rintro rfl; exact hlen rfl)
    clear hlen
    go_enter Try.func43, Try.ntmps43
    go_wp2_with fail
    go_ret
    exact ⟨ret_bool HV.out.symm, Below.refl _ _⟩
  have hb : ((L.length : Int) != M.length) = false := by simp; omega
  have HLN := Lib.hid hlen
  clear hlen
  go_enter Try.func43, Try.ntmps43
  go_wp2_with fail
  refine (events_any _ M g2 _ H2.out hm).mono ?_
  rintro e w1 ⟨v', rfl, hO, hB⟩
  obtain ⟨g3, he, _⟩ := Evs.of_owns hO
  obtain ⟨o3, c3, rfl⟩ := he.len
  have H3 := Lib.hid he
  have HB1 := Lib.hid hB
  have H11 := Lib.hid (H1.out.below hB)
  clear hO hB he
  go_wp2_with fail
  go_loopw [15] (fun i wr => ∃ k : Nat, k ≤ M.length ∧ i = .int .i64 k ∧ Hid (∀ j, j < k → evAt L j = evAt M j) ∧ Below w1.heap.size w1 wr)
    (fun i _ => M.length - (intOf i).toNat)
  case atStart => exact ⟨0, Nat.zero_le _, rfl, Lib.hid (fun i h => by omega), Below.refl _ _⟩
  case round =>
    obtain ⟨k, hk, rfl, HA, hB⟩ := hrel
    have HB := Lib.hid hB
    clear hB
    by_cases hlt : k < M.length
    · obtain ⟨_, _, e3, _, hd0⟩ := H3.out
      simp only [Value.slice.injEq, true_and] at e3
      obtain ⟨rfl, rfl⟩ := e3
      obtain ⟨off, rfl, hd1⟩ := hd0 (by omega)
      have hd := hd1 k hlt
      have d0 := keepc hd.1 HB.out
      have d1 := keepc hd.2.1 HB.out
      have d2 := keepc hd.2.2.1 HB.out
      have d3 := keepc hd.2.2.2.1 HB.out
      have d4 := keepc hd.2.2.2.2.1 HB.out
      have d5 := keepc hd.2.2.2.2.2 HB.out
      have hkL : k < L.length := by have := HLN.out; omega
      have hki : (k : Int) < L.length := by omega
      obtain ⟨_, _, e3, _, he0⟩ := H11.out
      simp only [Value.slice.injEq, true_and] at e3
      obtain ⟨rfl, rfl⟩ := e3
      obtain ⟨off1, rfl, he1⟩ := he0 (by omega)
      have he := he1 k hkL
      have b0 := keepc he.1 HB.out
      have b1 := keepc he.2.1 HB.out
      have b2 := keepc he.2.2.1 HB.out
      have b3 := keepc he.2.2.2.1 HB.out
      have b4 := keepc he.2.2.2.2.1 HB.out
      have b5 := keepc he.2.2.2.2.2 HB.out
      have H0k := Lib.hid (show evAt L k ≠ evAt M k → q = false from fun h => by rw [HQ.out]; exact evs_ne h)
      have HSk := Lib.hid (show evAt L k = evAt M k → ∀ j, j < k + 1 → evAt L j = evAt M j from fun e j hj => by
        rcases (show j < k ∨ j = k by omega) with h | rfl
        · exact HA.out j h
        · exact e)
      clear hd he hd0 hd1 he0 he1
      generalize evAt L k = x at *
      generalize evAt M k = y at *
      have hE := ev_neq x y
      unfold evCells at hE
      have hal := (Below.refl wr.heap.size wr).alloc (Nat.le_refl _) (.cells #[.int .i64 y.k, .int .i64 y.a, .int .u64 y.x, .int .u64 y.y, .int .u64 y.g, .bool y.ok] 172)
      have q0 := keepc b0 hal
      have q1 := keepc b1 hal
      have q2 := keepc b2 hal
      have q3 := keepc b3 hal
      have q4 := keepc b4 hal
      have q5 := keepc b5 hal
      clear hal b0 b1 b2 b3 b4 b5
      have HB2 := Lib.hid (HB.out.alloc HB.out.size (.cells (evCells y).toArray 172))
      by_cases hxy : x = y
      · have hd : decide (x = y) = true := decide_eq_true hxy
        rw [hd] at hE
        have HS := Lib.hid (HSk.out hxy)
        clear hxy hd H0k HSk
        go_wp2_with fail
        go_quiet (fail)
        go_wp2_with fail
        go_roundw
        case rel => exact ⟨k + 1, by omega, by go_num, HS, bel_drewN HB2.out _⟩
        case measure => simp [intOf]; omega
      · have hd : decide (x = y) = false := decide_eq_false hxy
        rw [hd] at hE
        have HV := Lib.hid (H0k.out hxy)
        clear hxy hd H0k HSk
        go_wp2_with fail
        go_quiet (fail)
        go_wp2_with fail
        go_ret
        exact ⟨ret_bool HV.out.symm, bel_drewN (bel_then HB1.out HB2.out) _⟩
    · obtain rfl : k = M.length := by omega
      have HV := Lib.hid (show q = true by rw [HQ.out]; exact evs_eq HLN.out (fun j hj => HA.out j (by have := HLN.out; omega)))
      go_wp2_with fail
      go_ret
      exact ⟨ret_bool HV.out.symm, bel_then HB1.out HB.out⟩

set_option maxHeartbeats 3200000 in
set_option maxRecDepth 100000 in
theorem pask_yes (x : EvT) (B lb b g : Nat) (zs : List Int) (L : List EvT) (v : Value) (w : World) (h : Lg w B lb b g zs L v) (hn : L.length ≤ 100000) (hB : B ≤ w.heap.size) (hk : 1 ≤ x.k ∧ x.k ≤ 4) :
    Calls Try.prog 119 #[.iface 169 (.pointer (some ⟨lb, 0, none⟩)), .agg #[.int .i64 x.k, .int .i64 x.a, .int .u64 x.x, .int .u64 x.y, .int .u64 x.g, .bool x.ok]] w fun e w' => e = .returned (.tuple #[]) ∧ Noted w w' B lb b g (actv zs x.k x.a x.x x.y) L v (evOf zs x.k x.a x.x x.y) := by
  have HL := Lib.hid (h.below ((Below.refl _ _).alloc (Nat.le_refl _) (.cells #[.int .i64 x.k, .int .i64 x.a, .int .u64 x.x, .int .u64 x.y, .int .u64 x.g, .bool x.ok] 172)))
  have F0 := Lib.hid ((Fr.refl (lgB lb b g v) w).alloc (.cells #[.int .i64 x.k, .int .i64 x.a, .int .u64 x.x, .int .u64 x.y, .int .u64 x.g, .bool x.ok] 172))
  have HSZ : B ≤ (w.alloc (.cells #[.int .i64 x.k, .int .i64 x.a, .int .u64 x.x, .int .u64 x.y, .int .u64 x.g, .bool x.ok] 172)).heap.size := by simp; omega
  have m1 : ∀ (a : Addr) (w : World), (method 394 169 (.pointer (some a)) "Load").run Try.prog w = .ok (115, .pointer (some a)) w := fun a w => by kernel_rfl
  have m2 : ∀ (a : Addr) (w : World), (method 394 169 (.pointer (some a)) "Store").run Try.prog w = .ok (114, .pointer (some a)) w := fun a w => by kernel_rfl
  have m3 : ∀ (a : Addr) (w : World), (method 394 169 (.pointer (some a)) "CAS").run Try.prog w = .ok (229, .pointer (some a)) w := fun a w => by kernel_rfl
  have m4 : ∀ (a : Addr) (w : World), (method 394 169 (.pointer (some a)) "Add").run Try.prog w = .ok (228, .pointer (some a)) w := fun a w => by kernel_rfl
  clear h
  have fin : ∀ (w' : World) (e : EvT) (z : List Int), Noted (w.alloc (.cells #[.int .i64 x.k, .int .i64 x.a, .int .u64 x.x, .int .u64 x.y, .int .u64 x.g, .bool x.ok] 172)) w' B lb b g z L v e → Noted w w' B lb b g z L v e := fun w' e z ⟨v', h1, h2, h3⟩ => ⟨v', h1, F0.out.trans h2, fun q hq => (h3 q hq).imp_right (fun h => by simp at h; omega)⟩
  have FIN := Lib.hid fin
  clear fin
  obtain ⟨k, a, y, z, u, ok⟩ := x
  dsimp only at *
  rcases (show k = 1 ∨ k = 2 ∨ k = 3 ∨ k = 4 by omega) with hk | hk | hk | hk
  · have d1 : (k == 1) = true := by simp [hk]
    obtain rfl := hk
    go_enter Try.func119, Try.ntmps119
    go_wp2_with fail
    refine (lload_any a B lb b g zs L v _ HL.out hn HSZ).mono ?_
    rintro e w1 ⟨rfl, hN⟩
    have HN := Lib.hid (FIN.out _ _ _ hN)
    clear hN
    go_wp2_with fail
    exact bodyPost_end (v := .tuple #[]) (by simp [results, Try.results119, go_sem]) rfl ⟨rfl, HN.out⟩
  · have d1 : (k == 1) = false := by simp [hk]
    have d2 : (k == 2) = true := by simp [hk]
    obtain rfl := hk
    go_enter Try.func119, Try.ntmps119
    go_wp2_with fail
    refine (lstore_any a y B lb b g zs L v _ HL.out hn HSZ).mono ?_
    rintro e w1 ⟨rfl, hN⟩
    have HN := Lib.hid (FIN.out _ _ _ hN)
    clear hN
    go_wp2_with fail
    exact bodyPost_end (v := .tuple #[]) (by simp [results, Try.results119, go_sem]) rfl ⟨rfl, HN.out⟩
  · have d1 : (k == 1) = false := by simp [hk]
    have d2 : (k == 2) = false := by simp [hk]
    have d3 : (k == 3) = true := by simp [hk]
    obtain rfl := hk
    go_enter Try.func119, Try.ntmps119
    go_wp2_with fail
    refine (lcas_any a y z B lb b g zs L v _ HL.out hn HSZ).mono ?_
    rintro e w1 ⟨rfl, hN⟩
    have HN := Lib.hid (FIN.out _ _ _ hN)
    clear hN
    go_wp2_with fail
    exact bodyPost_end (v := .tuple #[]) (by simp [results, Try.results119, go_sem]) rfl ⟨rfl, HN.out⟩
  · have d1 : (k == 1) = false := by simp [hk]
    have d2 : (k == 2) = false := by simp [hk]
    have d3 : (k == 3) = false := by simp [hk]
    have d4 : (k == 4) = true := by simp [hk]
    obtain rfl := hk
    go_enter Try.func119, Try.ntmps119
    go_wp2_with fail
    refine (ladd_any a y B lb b g zs L v _ HL.out hn HSZ).mono ?_
    rintro e w1 ⟨rfl, hN⟩
    have HN := Lib.hid (FIN.out _ _ _ hN)
    clear hN
    go_wp2_with fail
    exact bodyPost_end (v := .tuple #[]) (by simp [results, Try.results119, go_sem]) rfl ⟨rfl, HN.out⟩

set_option maxHeartbeats 3200000 in
set_option maxRecDepth 100000 in
theorem pask_no (x : EvT) (p : Value) (w : World) (hk : x.k < 1 ∨ 4 < x.k) :
    Calls Try.prog 119 #[p, .agg #[.int .i64 x.k, .int .i64 x.a, .int .u64 x.x, .int .u64 x.y, .int .u64 x.g, .bool x.ok]] w fun e w' => e = .returned (.tuple #[]) ∧ Below w.heap.size w w' := by
  obtain ⟨k, a, y, z, u, ok⟩ := x
  dsimp only at *
  have d1 : (k == 1) = false := by simp; omega
  have d2 : (k == 2) = false := by simp; omega
  have d3 : (k == 3) = false := by simp; omega
  have d4 : (k == 4) = false := by simp; omega
  go_enter Try.func119, Try.ntmps119
  go_wp2_with fail
  exact bodyPost_end (v := .tuple #[]) (by simp [results, Try.results119, go_sem]) rfl ⟨rfl, (Below.refl _ _).alloc (Nat.le_refl _) _⟩


end Go.Proofs.Yteheckcflnogbaa
