/-
  record.Writes: contract; soughlaw23.RecordWrites: its walk. Written by wip/gen/mkrec6.py.
-/
import Derived.Test.YthidinalhbnmmaaRec5
namespace Go.Proofs.Ythidinalhbnmmaa
open Go.RowKit

/-- May an event have changed a word? -/
def isWr (e : EvT) : Bool := e.k == 2 || (e.k == 4 || (e.k == 3 && e.ok))
def writesK (L : List EvT) (k : Nat) : List EvT := (L.take k).filter isWr
theorem writesK_yes {L : List EvT} {k : Nat} (h : k < L.length) (hw : isWr (evAt L k) = true) : writesK L (k + 1) = writesK L k ++ [evAt L k] := by
  unfold writesK
  rw [take_evs L k h, List.filter_append, List.filter_cons, if_pos hw, List.filter_nil]
theorem writesK_no {L : List EvT} {k : Nat} (h : k < L.length) (hw : isWr (evAt L k) = false) : writesK L (k + 1) = writesK L k := by
  unfold writesK
  rw [take_evs L k h, List.filter_append, List.filter_cons, if_neg (by rw [hw]; decide), List.filter_nil, List.append_nil]
theorem writesK_len (L : List EvT) (k : Nat) : (writesK L k).length ≤ L.length := by
  unfold writesK
  have h1 := List.length_filter_le isWr (L.take k)
  have h2 : (L.take k).length ≤ L.length := by rw [List.length_take]; omega
  omega
/-- What an event's write does to words. -/
def playZ (zs : List Int) (e : EvT) : List Int := if e.k = 2 then stv zs e.a e.x else if e.k = 3 then stv zs e.a e.y else addv zs e.a e.x
def playK (zs : List Int) (L : List EvT) : List Int := L.foldl playZ zs
theorem playK_snoc (zs : List Int) (L : List EvT) (e : EvT) : playK zs (L ++ [e]) = playZ (playK zs L) e := by unfold playK; rw [List.foldl_append]; rfl
theorem play_act (zs : List Int) (x : ActT) : (if isWr (actE zs x) = true then playZ zs (actE zs x) else zs) = actZ zs x := by
  obtain ⟨h1, h2⟩ := kindv_in x.k
  unfold actE actZ
  generalize kindv x.k = k at *
  rcases (show k = 1 ∨ k = 2 ∨ k = 3 ∨ k = 4 by omega) with rfl | rfl | rfl | rfl
  · rfl
  · rfl
  · cases hc : casb zs x.a x.x <;> simp [evOf, actv, casv, isWr, playZ, hc]
  · rfl
theorem play_acts (D : List ActT) : ∀ zs, playK zs ((actsE zs D).filter isWr) = actsZ zs D := by
  induction D with
  | nil => intro zs; rfl
  | cons x t ih =>
    intro zs
    show playK zs ((actE zs x :: actsE (actZ zs x) t).filter isWr) = actsZ (actZ zs x) t
    have h := play_act zs x
    rw [List.filter_cons]
    cases hw : isWr (actE zs x) with
    | true =>
      rw [hw, if_pos rfl] at h
      rw [if_pos rfl]
      show playK (playZ zs (actE zs x)) _ = _
      rw [h, ih]
    | false =>
      rw [hw, if_neg (by decide)] at h
      rw [if_neg (by decide)]
      have := ih (actZ zs x)
      rw [← this, ← h]

set_option maxHeartbeats 3200000 in
set_option maxRecDepth 100000 in
theorem writes_any (v : Value) (L : List EvT) (gi : Nat) (w : World) (h : Evs w v L gi) (hl : L.length ≤ 100000) :
    Calls Try.prog 47 #[v] w fun e w' => ∃ v', e = .returned v' ∧ w'.ownsRow w.heap.size 76 6 v' (L.filter isWr).length (ecells (L.filter isWr)) ∧ Below w.heap.size w w' := by
  obtain ⟨i0, hi, hz0, hz1, hz2⟩ := info_parts ev_info
  obtain ⟨o, c, rfl, hle, hc⟩ := h
  have HC := Lib.hid hc
  clear hc
  go_enter Try.func47, Try.ntmps47
  go_wp2_with fail
  go_loopw [3, 8] (fun v i wr => ∃ k : Nat, k ≤ L.length ∧ i = .int .i64 k ∧ wr.ownsRow w.heap.size 76 6 v (writesK L k).length (ecells (writesK L k)) ∧ Below w.heap.size w wr)
    (fun _ i _ => L.length - (intOf i).toNat)
  case atStart => exact ⟨0, Nat.zero_le _, rfl, World.ownsRow_nil _ _ _ _, Below.refl _ _⟩
  case round =>
    obtain ⟨k, hk, rfl, hown, hB⟩ := hrel
    have HB := Lib.hid hB
    have HO := Lib.hid hown
    clear hB hown
    have hwl := writesK_len L k
    by_cases hlt : k < L.length
    · obtain ⟨off, rfl, hd0⟩ := HC.out (by omega)
      have hd := hd0 k hlt
      have d0 := keepc hd.1 HB.out
      have d1 := keepc hd.2.1 HB.out
      have d2 := keepc hd.2.2.1 HB.out
      have d3 := keepc hd.2.2.2.1 HB.out
      have d4 := keepc hd.2.2.2.2.1 HB.out
      have d5 := keepc hd.2.2.2.2.2 HB.out
      have HY := Lib.hid (show isWr (evAt L k) = true → writesK L (k + 1) = writesK L k ++ [evAt L k] from writesK_yes hlt)
      have HN := Lib.hid (show isWr (evAt L k) = false → writesK L (k + 1) = writesK L k from writesK_no hlt)
      clear hd hd0
      generalize evAt L k = x at *
      obtain ⟨xk, xa, xx, xy, xg, xo⟩ := x
      dsimp only at *
      by_cases k2 : xk = 2
      · subst k2
        have HS := Lib.hid (HY.out (by unfold isWr; simp []))
        clear HY HN 
        go_wp2_with (at_builtin; refine wpList_append_own _ rfl _ _ 67 rfl w.heap.size 76 i0 (.agg #[.int .i64 0, .int .i64 0, .int .u64 0, .int .u64 0, .int .u64 0, .bool false]) 6 48 Try.underlying67 hi hz0 hz1 hz2 rfl (by decide) _ _ _ rfl ((HO.out.alloc _).alloc _) ⟨wr.heap.size + 1, 0, none⟩ 1 1 (evCells (⟨2, xa, xx, xy, xg, xo⟩ : EvT)) rfl rfl ?c1 ?c2 ?c3 ?c4 ?c5 ?_)
        case c1 =>
          intro j u hu
          have := ev_new (wr.alloc (.cells (evCells (⟨2, xa, xx, xy, xg, xo⟩ : EvT)).toArray 76)) (⟨2, xa, xx, xy, xg, xo⟩ : EvT) 76 j u hu
          rw [World.size_alloc] at this
          exact this
        case c2 => simp [evCells, Value.oneCell']
        case c3 => unfold maxLen; omega
        case c4 => omega
        case c5 => have := HB.out.size; simp; omega
        intro v' w3 hown' hgrow _
        have HO' := Lib.hid (show w3.ownsRow w.heap.size 76 6 v' (writesK L (k + 1)).length (ecells (writesK L (k + 1))) by rw [HS.out, List.length_append, ecells_snoc]; exact hown')
        have HB' := Lib.hid (((HB.out.alloc (by have := HB.out.size; omega) _).alloc (by have := HB.out.size; simp; omega) _).grown hgrow (by have := HB.out.size; simp; omega) (fun k hk => (HO.out.lt k hk).1))
        clear hown' hgrow
        go_wp2
        go_roundw
        case rel => exact ⟨k + 1, by omega, by go_num, HO'.out, HB'.out⟩
        case measure => simp [intOf]; omega
      have b2 : (xk == 2) = false := by simpa using k2
      by_cases k4 : xk = 4
      · subst k4
        clear k2
        have HS := Lib.hid (HY.out (by unfold isWr; simp []))
        clear HY HN 
        go_wp2_with (at_builtin; refine wpList_append_own _ rfl _ _ 67 rfl w.heap.size 76 i0 (.agg #[.int .i64 0, .int .i64 0, .int .u64 0, .int .u64 0, .int .u64 0, .bool false]) 6 48 Try.underlying67 hi hz0 hz1 hz2 rfl (by decide) _ _ _ rfl ((HO.out.alloc _).alloc _) ⟨wr.heap.size + 1, 0, none⟩ 1 1 (evCells (⟨4, xa, xx, xy, xg, xo⟩ : EvT)) rfl rfl ?c1 ?c2 ?c3 ?c4 ?c5 ?_)
        case c1 =>
          intro j u hu
          have := ev_new (wr.alloc (.cells (evCells (⟨4, xa, xx, xy, xg, xo⟩ : EvT)).toArray 76)) (⟨4, xa, xx, xy, xg, xo⟩ : EvT) 76 j u hu
          rw [World.size_alloc] at this
          exact this
        case c2 => simp [evCells, Value.oneCell']
        case c3 => unfold maxLen; omega
        case c4 => omega
        case c5 => have := HB.out.size; simp; omega
        intro v' w3 hown' hgrow _
        have HO' := Lib.hid (show w3.ownsRow w.heap.size 76 6 v' (writesK L (k + 1)).length (ecells (writesK L (k + 1))) by rw [HS.out, List.length_append, ecells_snoc]; exact hown')
        have HB' := Lib.hid (((HB.out.alloc (by have := HB.out.size; omega) _).alloc (by have := HB.out.size; simp; omega) _).grown hgrow (by have := HB.out.size; simp; omega) (fun k hk => (HO.out.lt k hk).1))
        clear hown' hgrow
        go_wp2
        go_roundw
        case rel => exact ⟨k + 1, by omega, by go_num, HO'.out, HB'.out⟩
        case measure => simp [intOf]; omega
      have b4 : (xk == 4) = false := by simpa using k4
      by_cases k3 : xk = 3
      · subst k3
        clear k2 k4
        cases xo with
        | true =>
          have HS := Lib.hid (HY.out (by unfold isWr; simp []))
          clear HY HN 
          go_wp2_with (at_builtin; refine wpList_append_own _ rfl _ _ 67 rfl w.heap.size 76 i0 (.agg #[.int .i64 0, .int .i64 0, .int .u64 0, .int .u64 0, .int .u64 0, .bool false]) 6 48 Try.underlying67 hi hz0 hz1 hz2 rfl (by decide) _ _ _ rfl ((HO.out.alloc _).alloc _) ⟨wr.heap.size + 1, 0, none⟩ 1 1 (evCells (⟨3, xa, xx, xy, xg, true⟩ : EvT)) rfl rfl ?c1 ?c2 ?c3 ?c4 ?c5 ?_)
          case c1 =>
            intro j u hu
            have := ev_new (wr.alloc (.cells (evCells (⟨3, xa, xx, xy, xg, true⟩ : EvT)).toArray 76)) (⟨3, xa, xx, xy, xg, true⟩ : EvT) 76 j u hu
            rw [World.size_alloc] at this
            exact this
          case c2 => simp [evCells, Value.oneCell']
          case c3 => unfold maxLen; omega
          case c4 => omega
          case c5 => have := HB.out.size; simp; omega
          intro v' w3 hown' hgrow _
          have HO' := Lib.hid (show w3.ownsRow w.heap.size 76 6 v' (writesK L (k + 1)).length (ecells (writesK L (k + 1))) by rw [HS.out, List.length_append, ecells_snoc]; exact hown')
          have HB' := Lib.hid (((HB.out.alloc (by have := HB.out.size; omega) _).alloc (by have := HB.out.size; simp; omega) _).grown hgrow (by have := HB.out.size; simp; omega) (fun k hk => (HO.out.lt k hk).1))
          clear hown' hgrow
          go_wp2
          go_roundw
          case rel => exact ⟨k + 1, by omega, by go_num, HO'.out, HB'.out⟩
          case measure => simp [intOf]; omega
        | false =>
          have HS := Lib.hid (HN.out (by unfold isWr; simp []))
          have HB' := Lib.hid (HB.out.alloc HB.out.size (.cells #[.int .i64 3, .int .i64 xa, .int .u64 xx, .int .u64 xy, .int .u64 xg, .bool false] 76))
          have HO' := Lib.hid (HO.out.alloc (.cells #[.int .i64 3, .int .i64 xa, .int .u64 xx, .int .u64 xy, .int .u64 xg, .bool false] 76))
          rw [← HS.out] at HO'
          clear HY HN 
          go_wp2_with fail
          go_roundw
          case rel => exact ⟨k + 1, by omega, by go_num, HO'.out, HB'.out⟩
          case measure => simp [intOf]; omega
      have b3 : (xk == 3) = false := by simpa using k3
      have HS := Lib.hid (HN.out (by unfold isWr; simp [b2, b3, b4]))
      have HB' := Lib.hid (HB.out.alloc HB.out.size (.cells #[.int .i64 xk, .int .i64 xa, .int .u64 xx, .int .u64 xy, .int .u64 xg, .bool xo] 76))
      have HO' := Lib.hid (HO.out.alloc (.cells #[.int .i64 xk, .int .i64 xa, .int .u64 xx, .int .u64 xy, .int .u64 xg, .bool xo] 76))
      rw [← HS.out] at HO'
      clear HY HN k2 k3 k4
      go_wp2_with fail
      go_roundw
      case rel => exact ⟨k + 1, by omega, by go_num, HO'.out, HB'.out⟩
      case measure => simp [intOf]; omega
    · obtain rfl : k = L.length := by omega
      go_wp2
      go_ret
      exact ⟨_, rfl, by have h := HO.out; unfold writesK at h; rw [List.take_length] at h; exact h, HB.out⟩

set_option maxHeartbeats 3200000 in
set_option maxRecDepth 100000 in
theorem ask23_none (w : World) :
    Calls Try.prog 37 #[.pointer none, .agg #[.int .i64 2, .int .i64 0, .int .u64 0, .int .u64 0]] w fun e w' => e = .returned (.tuple #[]) ∧ Below w.heap.size w w' := by
  go_enter Try.func37, Try.ntmps37
  go_wp2_with fail
  refine (lstore_none _ _ _).mono ?_
  rintro e w1 ⟨rfl, rfl⟩
  go_wp2_with fail
  exact bodyPost_end (v := .tuple #[]) (by simp [results, Try.results37, go_sem]) rfl ⟨rfl, (Below.refl _ _).alloc (Nat.le_refl _) _⟩


/-- What holds at each round: a Log, and another memory. -/
structure Rq (W w : World) (lb b g bq gq : Nat) (zs zq : List Int) (L : List EvT) (v : Value) : Prop where
  log : LgN W w lb b g zs L v
  q : Pm w bq gq zq
theorem Rq.below {W w w' : World} {lb b g bq gq : Nat} {zs zq : List Int} {L : List EvT} {v : Value} (h : Rq W w lb b g bq gq zs zq L v) (k : Below w.heap.size w w') : Rq W w' lb b g bq gq zs zq L v := ⟨h.log.below k, h.q.below k⟩
theorem Rq.apart {W w : World} {lb b g bq gq : Nat} {zs zq : List Int} {L : List EvT} {v : Value} (h : Rq W w lb b g bq gq zs zq L v) (hb : bq ≠ b) (hg : gq ≠ g) : bq ∉ lgB lb b g v ∧ gq ∉ lgB lb b g v := by
  refine ⟨?_, ?_⟩
  · simp only [lgB, List.mem_cons, not_or]
    exact ⟨h.q.1.ne h.log.log.box (by decide), hb, h.q.1.ne h.log.log.mem.2.1 (by decide), own_ne h.log.log.row h.q.1 (by decide)⟩
  · simp only [lgB, List.mem_cons, not_or]
    exact ⟨h.q.2.1.ne h.log.log.box (by decide), h.q.2.1.ne h.log.log.mem.1 (by decide), hg, own_ne h.log.log.row h.q.2.1 (by decide)⟩
theorem Rq.ask {W w w' : World} {lb b g bq gq : Nat} {zs zs' zq : List Int} {L : List EvT} {v : Value} {e : EvT} (h : Rq W w lb b g bq gq zs zq L v) (hb : bq ≠ b) (hg : gq ≠ g) (hN : Noted w w' 0 lb b g zs' L v e) : ∃ v', Rq W w' lb b g bq gq zs' zq (L ++ [e]) v' := by
  obtain ⟨v', h1, hF, _⟩ := h.log.noted hN
  obtain ⟨a1, a2⟩ := h.apart hb hg
  exact ⟨v', h1, h.q.1.fr hF a1, h.q.2.1.fr hF a2, h.q.2.2⟩
theorem Rq.turn {W w w' : World} {lb b g bq gq : Nat} {zs zq zq' : List Int} {L : List EvT} {v : Value} (h : Rq W w lb b g bq gq zs zq L v) (hb : bq ≠ b) (hg : gq ≠ g) (hn : W.heap.size ≤ gq) (hq : Pm w' bq gq zq') (k : w.grownBy w' (some gq)) : Rq W w' lb b g bq gq zs zq' L v := by
  obtain ⟨_, a2⟩ := h.apart hb hg
  exact ⟨h.log.frm (.gb k (List.mem_singleton.2 rfl)) (fun x hx he => a2 (List.mem_singleton.1 he ▸ hx)) (fun i hi => by rw [List.mem_singleton.1 hi]; exact hn), hq⟩

set_option maxHeartbeats 3200000 in
set_option maxRecDepth 100000 in
theorem recordWrites_walk (n : Int) (vd : Value) (D : List ActT) (W : World) (hD : Acts W vd D) (hm : D.length ≤ 9223372036854775807) :
    Calls Try.prog 8 #[.int .i64 n, vd] W fun e w' => e = .returned (.bool true) ∧ Below W.heap.size W w' := by
  have HD := Lib.hid hD
  obtain ⟨o2, c2, rfl, _⟩ := hD
  by_cases h1 : 50 < n
  · have d1 : decide (50 < n) = true := decide_eq_true h1
    clear h1
    go_enter Try.func8, Try.ntmps8
    go_wp2_with fail
    refine (awake23_any _).mono ?_
    rintro e w1 ⟨rfl, hB⟩
    have HB1 := Lib.hid hB
    clear hB
    go_wp2_with fail
    go_ret
    exact ⟨rfl, HB1.out⟩
  have d1 : decide (50 < n) = false := decide_eq_false h1
  clear h1
  by_cases h2 : 60 < D.length
  · have d2 : decide ((60 : Int) < D.length) = true := by simp; omega
    clear h2
    go_enter Try.func8, Try.ntmps8
    go_wp2_with fail
    refine (awake23_any _).mono ?_
    rintro e w1 ⟨rfl, hB⟩
    have HB1 := Lib.hid hB
    clear hB
    go_wp2_with fail
    go_ret
    exact ⟨rfl, HB1.out⟩
  have d2 : decide ((60 : Int) < D.length) = false := by simp; omega
  go_enter Try.func8, Try.ntmps8
  go_wp2_with fail
  refine (awake23_any _).mono ?_
  rintro e w1 ⟨rfl, hB⟩
  have HB1 := Lib.hid hB
  clear hB
  go_wp2_with fail
  refine (newPlain_any _ _).mono ?_
  rintro e w2 ⟨b, g, rfl, hP, hB, hb, hg⟩
  have HP := Lib.hid hP
  have HB2 := Lib.hid (bel_then HB1.out hB)
  have hs1 := HB1.out.size
  have hgl := hP.2.1.lt
  have hbl := hP.1.lt
  clear hP hB
  go_wp2_with fail
  refine (newPlain_any _ _).mono ?_
  rintro e w3 ⟨bq, gq, rfl, hQ, hB, hbq, hgq⟩
  have HP3 := Lib.hid (HP.out.below hB)
  have HB3 := Lib.hid (bel_then HB2.out hB)
  have hs2 := hB.size
  have HQ := Lib.hid hQ
  have hs3 := HB2.out.size
  clear hQ hB
  go_wp2_with fail
  refine (lnew_any b g _ _ HP3.out).mono ?_
  rintro e w4 ⟨rfl, hL, hB, _⟩
  have HNE := Lib.hid (show bq ≠ b ∧ gq ≠ g ∧ W.heap.size ≤ gq by omega)
  have HR0 := Lib.hid (show Rq W w4 w3.heap.size b g bq gq (actsZ (List.replicate (memn n) 0) (D.take 0)) (List.replicate (memn n) 0) (actsE (List.replicate (memn n) 0) (D.take 0)) (.slice none 0 0) from ⟨LgN.start HB3.out (hL 0) hB HB3.out.size (by omega) (by omega), HQ.out.below hB⟩)
  have HPA := Lib.hid (play_acts D (List.replicate (memn n) 0))
  generalize List.replicate (memn n) (0 : Int) = z0 at *
  generalize w3.heap.size = lb at *
  clear hL hB hs1 hs2 hs3 hgl hbl hb hg hbq hgq
  go_wp2_with fail
  go_loopw [31] (fun i wr => ∃ k : Nat, k ≤ D.length ∧ i = .int .i64 k ∧ ∃ v, Rq W wr lb b g bq gq (actsZ z0 (D.take k)) z0 (actsE z0 (D.take k)) v)
    (fun i _ => D.length - (intOf i).toNat)
  case atStart => exact ⟨0, Nat.zero_le _, rfl, _, HR0.out⟩
  case round =>
    obtain ⟨k, hk, rfl, vl, hR⟩ := hrel
    have HR := Lib.hid hR
    clear hR HR0
    by_cases hlt : k < D.length
    · obtain ⟨_, _, e3, hd0⟩ := HD.out
      simp only [Value.slice.injEq, true_and] at e3
      obtain ⟨rfl, rfl⟩ := e3
      obtain ⟨bd, off, rfl, hd1⟩ := hd0 (by omega)
      have hd := hd1 k hlt
      have d0 := keepc hd.1 HR.out.log.fr
      have d1 := keepc hd.2.1 HR.out.log.fr
      have d2 := keepc hd.2.2.1 HR.out.log.fr
      have d3 := keepc hd.2.2.2 HR.out.log.fr
      have HZK := Lib.hid (show actsZ z0 (D.take (k + 1)) = actZ (actsZ z0 (D.take k)) (actAt D k) by rw [take_acts D k hlt, actsZ_snoc])
      have HEK := Lib.hid (show actsE z0 (D.take (k + 1)) = actsE z0 (D.take k) ++ [actE (actsZ z0 (D.take k)) (actAt D k)] by rw [take_acts D k hlt, actsE_snoc])
      have HLK := Lib.hid (show (actsE z0 (D.take k)).length ≤ 60 by rw [actsE_len, List.length_take]; omega)
      clear hd hd0 hd1
      generalize actAt D k = x at *
      generalize actsE z0 (D.take k) = L at *
      generalize actsZ z0 (D.take k) = zs at *
      have hbw : Below wr.heap.size wr (wr.alloc (.cells #[.int .i64 (kindv x.k), .int .i64 x.a, .int .u64 x.x, .int .u64 x.y] 30)) := (Below.refl _ _).alloc (Nat.le_refl _) _
      have HR1 := Lib.hid (HR.out.below hbw)
      clear hbw
      go_wp2_with fail
      refine (kind23_any _ _).mono ?_
      rintro e w5 ⟨rfl, rfl⟩
      go_wp2_with fail
      refine (ask23_any (kindv x.k) x.a x.x x.y 0 lb b g zs L vl _ HR1.out.log.log (by have := HLK.out; omega) (Nat.zero_le _)).mono ?_
      rintro e w6 ⟨rfl, hN⟩
      obtain ⟨v6, hR6⟩ := HR1.out.ask HNE.out.1 HNE.out.2.1 hN
      have HR6 := Lib.hid hR6
      clear hN hR6 d0 d1 d2 d3
      go_wp2_with fail
      go_roundw
      case rel => exact ⟨k + 1, by omega, by go_num, v6, by rw [HZK.out, HEK.out]; exact HR6.out⟩
      case measure => simp [intOf]; omega
    · obtain rfl : k = D.length := by omega
      rw [List.take_length] at HR
      have hL60 : (actsE z0 D).length ≤ 60 := by rw [actsE_len]; omega
      generalize actsE z0 D = L at *
      generalize actsZ z0 D = zs at *
      have hzl : zs.length ≤ 1048576 := HR.out.log.log.mem.2.2
      go_wp2_with fail
      refine (levents_any 0 lb b g zs L vl _ HR.out.log.log (by omega)).mono ?_
      rintro e w5 ⟨ve, rfl, hO, hB⟩
      obtain ⟨ge, he, _⟩ := Evs.of_owns hO
      have HE := Lib.hid he
      have HR5 := Lib.hid (HR.out.below hB)
      clear hO he hB
      go_wp2_with fail
      refine (writes_any _ L ge _ HE.out (by omega)).mono ?_
      rintro e w6 ⟨vw, rfl, hO, hB⟩
      have hgq6 := HR5.out.q.2.1.lt
      obtain ⟨gw, hw, hgw⟩ := Evs.of_owns hO
      have HGW := Lib.hid (show 0 < (L.filter isWr).length → gw ∉ [gq] from fun h0 => by
        rcases hgw with h | h
        · obtain ⟨o, c, e, _, hx⟩ := hw
          obtain ⟨off, e2, _⟩ := hx h0
          rw [e, e2] at h
          cases h
        · have := (hO.lt gw h).1
          simp
          omega)
      have HW := Lib.hid hw
      have HR6 := Lib.hid (HR5.out.below hB)
      have HWL := Lib.hid (show (L.filter isWr).length ≤ 60 by have := List.length_filter_le isWr L; omega)
      obtain ⟨o6, c6, rfl⟩ := hw.len
      have HPA2 := Lib.hid (show playK z0 (L.filter isWr) = zs from HPA.out)
      generalize L.filter isWr = M at *
      have hM60 : M.length ≤ 60 := HWL.out
      have HQ0 := Lib.hid (show Rq W w6 lb b g bq gq zs (playK z0 (M.take 0)) L vl from HR6.out)
      clear hO hB hw hgw hgq6 HR
      go_wp2_with fail
      go_loopw [47] (fun i wr => ∃ k : Nat, k ≤ M.length ∧ i = .int .i64 k ∧ Rq W wr lb b g bq gq zs (playK z0 (M.take k)) L vl ∧ Fr [gq] w6 wr)
        (fun i _ => M.length - (intOf i).toNat)
      case atStart => exact ⟨0, Nat.zero_le _, rfl, HQ0.out, Fr.refl _ _⟩
      case round =>
        obtain ⟨k, hk, rfl, hQ, hF⟩ := hrel
        have HQ := Lib.hid hQ
        have HF := Lib.hid hF
        clear hQ hF HQ0
        by_cases hlt : k < M.length
        · have HWk := HW.out.fr HF.out HGW.out
          obtain ⟨_, _, e3, _, hd0⟩ := HWk
          simp only [Value.slice.injEq, true_and] at e3
          obtain ⟨rfl, rfl⟩ := e3
          obtain ⟨off, rfl, hd1⟩ := hd0 (by omega)
          obtain ⟨d0, d1, d2, d3, d4, d5⟩ := hd1 k hlt
          have HPK := Lib.hid (show playK z0 (M.take (k + 1)) = playZ (playK z0 (M.take k)) (evAt M k) by rw [take_evs M k hlt, playK_snoc])
          clear hd0 hd1
          generalize evAt M k = x at *
          generalize playK z0 (M.take k) = zq at *
          obtain ⟨xk, xa, xx, xy, xg, xo⟩ := x
          dsimp only at *
          have HBX := Lib.hid ((Below.refl _ wr).alloc (Nat.le_refl _) (.cells #[.int .i64 xk, .int .i64 xa, .int .u64 xx, .int .u64 xy, .int .u64 xg, .bool xo] 76))
          by_cases k2 : xk = 2
          · subst k2
            have HZV := Lib.hid (show playZ zq ⟨2, xa, xx, xy, xg, xo⟩ = stv zq xa xx from rfl)
            go_wp2_with fail
            refine (store_any xa xx bq gq zq _ (HQ.out.q.below HBX.out)).mono ?_
            rintro e w9 ⟨rfl, hq, hk⟩
            have HQ9 := Lib.hid ((HQ.out.below HBX.out).turn HNE.out.1 HNE.out.2.1 HNE.out.2.2 hq hk)
            have HF9 := Lib.hid (HF.out.trans ((Fr.of HBX.out).trans (Fr.gb hk (by simp))))
            clear hq hk
            go_wp2_with fail
            go_roundw
            case rel => exact ⟨k + 1, by omega, by go_num, by rw [HPK.out, HZV.out]; exact HQ9.out, HF9.out⟩
            case measure => simp [intOf]; omega
          have b2 : (xk == 2) = false := by simpa using k2
          by_cases k3 : xk = 3
          · subst k3
            clear k2
            have HZV := Lib.hid (show playZ zq ⟨3, xa, xx, xy, xg, xo⟩ = stv zq xa xy from rfl)
            go_wp2_with fail
            refine (store_any xa xy bq gq zq _ (HQ.out.q.below HBX.out)).mono ?_
            rintro e w9 ⟨rfl, hq, hk⟩
            have HQ9 := Lib.hid ((HQ.out.below HBX.out).turn HNE.out.1 HNE.out.2.1 HNE.out.2.2 hq hk)
            have HF9 := Lib.hid (HF.out.trans ((Fr.of HBX.out).trans (Fr.gb hk (by simp))))
            clear hq hk
            go_wp2_with fail
            go_roundw
            case rel => exact ⟨k + 1, by omega, by go_num, by rw [HPK.out, HZV.out]; exact HQ9.out, HF9.out⟩
            case measure => simp [intOf]; omega
          have b3 : (xk == 3) = false := by simpa using k3
          have HZV := Lib.hid (show playZ zq ⟨xk, xa, xx, xy, xg, xo⟩ = addv zq xa xx by unfold playZ; rw [if_neg k2, if_neg k3])
          clear k2 k3
          go_wp2_with fail
          refine (add_any xa xx bq gq zq _ (HQ.out.q.below HBX.out)).mono ?_
          rintro e w9 ⟨rfl, hq, hk⟩
          have HQ9 := Lib.hid ((HQ.out.below HBX.out).turn HNE.out.1 HNE.out.2.1 HNE.out.2.2 hq hk)
          have HF9 := Lib.hid (HF.out.trans ((Fr.of HBX.out).trans (Fr.gb hk (by simp))))
          clear hq hk
          go_wp2_with fail
          go_roundw
          case rel => exact ⟨k + 1, by omega, by go_num, by rw [HPK.out, HZV.out]; exact HQ9.out, HF9.out⟩
          case measure => simp [intOf]; omega
        · obtain rfl : k = M.length := by omega
          rw [List.take_length, HPA2.out] at HQ
          go_wp2_with fail
          refine (ask23_none _).mono ?_
          rintro e w7 ⟨rfl, hB⟩
          have HQ7 := Lib.hid (HQ.out.below hB)
          clear hB
          go_wp2_with fail
          refine (all_any b g zs _ HQ7.out.log.log.mem).mono ?_
          rintro e w8 ⟨va, rfl, hU, hB⟩
          have HQ8 := Lib.hid (HQ7.out.below hB)
          have HU := Lib.hid hU
          clear hU hB
          go_wp2_with fail
          refine (all_any bq gq zs _ HQ8.out.q).mono ?_
          rintro e w9 ⟨vb, rfl, hU, hB⟩
          have HQ9 := Lib.hid (HQ8.out.below hB)
          have HU2 := Lib.hid hU
          have HU1 := Lib.hid (HU.out.keep hB)
          clear hU hB
          go_wp2_with fail
          refine (us_any _ _ zs zs _ HU1.out HU2.out (by omega) (by omega)).mono ?_
          rintro e w10 ⟨rfl, nq, rfl⟩
          rw [decide_eq_true (rfl : zs = zs)]
          go_wp2_with fail
          refine (lcount_none _).mono ?_
          rintro e w11 ⟨rfl, hww⟩
          subst w11
          go_wp2_with fail
          refine (llen_none _).mono ?_
          rintro e w12 ⟨rfl, hww⟩
          subst w12
          go_wp2_with fail
          refine (ladd_none _ _ _).mono ?_
          rintro e w13 ⟨rfl, hww⟩
          subst w13
          go_wp2_with fail
          go_ret
          exact ⟨ret_bool (by first | rfl | simp), bel_drewN HQ9.out.log.fr _⟩


end Go.Proofs.Ythidinalhbnmmaa
