/-
  record.Writes: contract; soughlaw23.RecordWrites: its walk. Written by wip/gen/mkrec6.py.
-/
import Derived.Test.YteheckcflnogbaaRec5
namespace Go.Proofs.Yteheckcflnogbaa
open Go.RowKit

/-- May an event have changed a word? -/
def isWr (e : EvT) : Bool := e.k == 2 || (e.k == 4 || (e.k == 3 && e.ok))
def writesK (L : List EvT) (k : Nat) : List EvT := (L.take k).filter isWr
theorem writesK_yes {L : List EvT} {k : Nat} (h : k < L.length) (hw : isWr (evAt L k) = true) : writesK L (k + 1) = writesK L k ++ [evAt L k] := by
  unfold writesK
  rw [take_evs L k h, List.filter_append, List.filter_cons, if_pos hw, List.filter_nil]
theorem writesK_no {L : List EvT} {k : Nat} (h : k < L.length) (hw : isWr (evAt L k) = false) : writesK L (k + 1) = writesK L k := by
  unfold writesK
  rw [take_evs L k h, List.filter_append, List.filter_cons, if_neg (by rw [hw]; decide), List.filter_nil, List.append_nil]
theorem writesK_len (L : List EvT) (k : Nat) : (writesK L k).length ≤ L.length := by
  unfold writesK
  have h1 := List.length_filter_le isWr (L.take k)
  have h2 : (L.take k).length ≤ L.length := by rw [List.length_take]; omega
  omega
/-- What an event's write does to words. -/
def playZ (zs : List Int) (e : EvT) : List Int := if e.k = 2 then stv zs e.a e.x else if e.k = 3 then stv zs e.a e.y else addv zs e.a e.x
def playK (zs : List Int) (L : List EvT) : List Int := L.foldl playZ zs
theorem playK_snoc (zs : List Int) (L : List EvT) (e : EvT) : playK zs (L ++ [e]) = playZ (playK zs L) e := by unfold playK; rw [List.foldl_append]; rfl
theorem play_act (zs : List Int) (x : ActT) : (if isWr (actE zs x) = true then playZ zs (actE zs x) else zs) = actZ zs x := by
  obtain ⟨h1, h2⟩ := kindv_in x.k
  unfold actE actZ
  generalize kindv x.k = k at *
  rcases (show k = 1 ∨ k = 2 ∨ k = 3 ∨ k = 4 by omega) with rfl | rfl | rfl | rfl
  · rfl
  · rfl
  · cases hc : casb zs x.a x.x <;> simp [evOf, actv, casv, isWr, playZ, hc]
  · rfl
theorem play_acts (D : List ActT) : ∀ zs, playK zs ((actsE zs D).filter isWr) = actsZ zs D := by
  induction D with
  | nil => intro zs; rfl
  | cons x t ih =>
    intro zs
    show playK zs ((actE zs x :: actsE (actZ zs x) t).filter isWr) = actsZ (actZ zs x) t
    have h := play_act zs x
    rw [List.filter_cons]
    cases hw : isWr (actE zs x) with
    | true =>
      rw [hw, if_pos rfl] at h
      rw [if_pos rfl]
      show playK (playZ zs (actE zs x)) _ = _
      rw [h, ih]
    | false =>
      rw [hw, if_neg (by decide)] at h
      rw [if_neg (by decide)]
      have := ih (actZ zs x)
      rw [← this, ← h]

set_option maxHeartbeats 3200000 in
set_option maxRecDepth 100000 in
theorem writes_any (v : Value) (L : List EvT) (gi : Nat) (w : World) (h : Evs w v L gi) (hl : L.length ≤ 100000) :
    Calls Try.prog 44 #[v] w fun e w' => ∃ v', e = .returned v' ∧ w'.ownsRow w.heap.size 172 6 v' (L.filter isWr).length (ecells (L.filter isWr)) ∧ Below w.heap.size w w' := by
  obtain ⟨i0, hi, hz0, hz1, hz2⟩ := info_parts ev_info
  obtain ⟨o, c, rfl, hle, hc⟩ := h
  have HC := Lib.hid hc
  clear hc
  go_enter Try.func44, Try.ntmps44
  go_wp2_with fail
  go_loopw [3, 8] (fun v i wr => ∃ k : Nat, k ≤ L.length ∧ i = .int .i64 k ∧ wr.ownsRow w.heap.size 172 6 v (writesK L k).length (ecells (writesK L k)) ∧ Below w.heap.size w wr)
    (fun _ i _ => L.length - (intOf i).toNat)
  case atStart => exact ⟨0, Nat.zero_le _, rfl, World.ownsRow_nil _ _ _ _, Below.refl _ _⟩
  case round =>
    obtain ⟨k, hk, rfl, hown, hB⟩ := hrel
    have HB := Lib.hid hB
    have HO := Lib.hid hown
    clear hB hown
    have hwl := writesK_len L k
    by_cases hlt : k < L.length
    · obtain ⟨off, rfl, hd0⟩ := HC.out (by omega)
      have hd := hd0 k hlt
      have d0 := keepc hd.1 HB.out
      have d1 := keepc hd.2.1 HB.out
      have d2 := keepc hd.2.2.1 HB.out
      have d3 := keepc hd.2.2.2.1 HB.out
      have d4 := keepc hd.2.2.2.2.1 HB.out
      have d5 := keepc hd.2.2.2.2.2 HB.out
      have HY := Lib.hid (show isWr (evAt L k) = true → writesK L (k + 1) = writesK L k ++ [evAt L k] from writesK_yes hlt)
      have HN := Lib.hid (show isWr (evAt L k) = false → writesK L (k + 1) = writesK L k from writesK_no hlt)
      clear hd hd0
      generalize evAt L k = x at *
      obtain ⟨xk, xa, xx, xy, xg, xo⟩ := x
      dsimp only at *
      by_cases k2 : xk = 2
      · subst k2
        have HS := Lib.hid (HY.out (by unfold isWr; simp []))
        clear HY HN 
        go_wp2_with (at_builtin; refine wpList_append_own _ rfl _ _ 44 rfl w.heap.size 172 i0 (.agg #[.int .i64 0, .int .i64 0, .int .u64 0, .int .u64 0, .int .u64 0, .bool false]) 6 48 Try.underlying44 hi hz0 hz1 hz2 rfl (by decide) _ _ _ rfl ((HO.out.alloc _).alloc _) ⟨wr.heap.size + 1, 0, none⟩ 1 1 (evCells (⟨2, xa, xx, xy, xg, xo⟩ : EvT)) rfl rfl ?c1 ?c2 ?c3 ?c4 ?c5 ?_)
        case c1 =>
          intro j u hu
          have := ev_new (wr.alloc (.cells (evCells (⟨2, xa, xx, xy, xg, xo⟩ : EvT)).toArray 172)) (⟨2, xa, xx, xy, xg, xo⟩ : EvT) 172 j u hu
          rw [World.size_alloc] at this
          exact this
        case c2 => simp [evCells, Value.oneCell']
        case c3 => unfold maxLen; omega
        case c4 => omega
        case c5 => have := HB.out.size; simp; omega
        intro v' w3 hown' hgrow _
        have HO' := Lib.hid (show w3.ownsRow w.heap.size 172 6 v' (writesK L (k + 1)).length (ecells (writesK L (k + 1))) by rw [HS.out, List.length_append, ecells_snoc]; exact hown')
        have HB' := Lib.hid (((HB.out.alloc (by have := HB.out.size; omega) _).alloc (by have := HB.out.size; simp; omega) _).grown hgrow (by have := HB.out.size; simp; omega) (fun k hk => (HO.out.lt k hk).1))
        clear hown' hgrow
        go_wp2
        go_roundw
        case rel => exact ⟨k + 1, by omega, by go_num, HO'.out, HB'.out⟩
        case measure => simp [intOf]; omega
      have b2 : (xk == 2) = false := by simpa using k2
      by_cases k4 : xk = 4
      · subst k4
        clear k2
        have HS := Lib.hid (HY.out (by unfold isWr; simp []))
        clear HY HN 
        go_wp2_with (at_builtin; refine wpList_append_own _ rfl _ _ 44 rfl w.heap.size 172 i0 (.agg #[.int .i64 0, .int .i64 0, .int .u64 0, .int .u64 0, .int .u64 0, .bool false]) 6 48 Try.underlying44 hi hz0 hz1 hz2 rfl (by decide) _ _ _ rfl ((HO.out.alloc _).alloc _) ⟨wr.heap.size + 1, 0, none⟩ 1 1 (evCells (⟨4, xa, xx, xy, xg, xo⟩ : EvT)) rfl rfl ?c1 ?c2 ?c3 ?c4 ?c5 ?_)
        case c1 =>
          intro j u hu
          have := ev_new (wr.alloc (.cells (evCells (⟨4, xa, xx, xy, xg, xo⟩ : EvT)).toArray 172)) (⟨4, xa, xx, xy, xg, xo⟩ : EvT) 172 j u hu
          rw [World.size_alloc] at this
          exact this
        case c2 => simp [evCells, Value.oneCell']
        case c3 => unfold maxLen; omega
        case c4 => omega
        case c5 => have := HB.out.size; simp; omega
        intro v' w3 hown' hgrow _
        have HO' := Lib.hid (show w3.ownsRow w.heap.size 172 6 v' (writesK L (k + 1)).length (ecells (writesK L (k + 1))) by rw [HS.out, List.length_append, ecells_snoc]; exact hown')
        have HB' := Lib.hid (((HB.out.alloc (by have := HB.out.size; omega) _).alloc (by have := HB.out.size; simp; omega) _).grown hgrow (by have := HB.out.size; simp; omega) (fun k hk => (HO.out.lt k hk).1))
        clear hown' hgrow
        go_wp2
        go_roundw
        case rel => exact ⟨k + 1, by omega, by go_num, HO'.out, HB'.out⟩
        case measure => simp [intOf]; omega
      have b4 : (xk == 4) = false := by simpa using k4
      by_cases k3 : xk = 3
      · subst k3
        clear k2 k4
        cases xo with
        | true =>
          have HS := Lib.hid (HY.out (by unfold isWr; simp []))
          clear HY HN 
          go_wp2_with (at_builtin; refine wpList_append_own _ rfl _ _ 44 rfl w.heap.size 172 i0 (.agg #[.int .i64 0, .int .i64 0, .int .u64 0, .int .u64 0, .int .u64 0, .bool false]) 6 48 Try.underlying44 hi hz0 hz1 hz2 rfl (by decide) _ _ _ rfl ((HO.out.alloc _).alloc _) ⟨wr.heap.size + 1, 0, none⟩ 1 1 (evCells (⟨3, xa, xx, xy, xg, true⟩ : EvT)) rfl rfl ?c1 ?c2 ?c3 ?c4 ?c5 ?_)
          case c1 =>
            intro j u hu
            have := ev_new (wr.alloc (.cells (evCells (⟨3, xa, xx, xy, xg, true⟩ : EvT)).toArray 172)) (⟨3, xa, xx, xy, xg, true⟩ : EvT) 172 j u hu
            rw [World.size_alloc] at this
            exact this
          case c2 => simp [evCells, Value.oneCell']
          case c3 => unfold maxLen; omega
          case c4 => omega
          case c5 => have := HB.out.size; simp; omega
          intro v' w3 hown' hgrow _
          have HO' := Lib.hid (show w3.ownsRow w.heap.size 172 6 v' (writesK L (k + 1)).length (ecells (writesK L (k + 1))) by rw [HS.out, List.length_append, ecells_snoc]; exact hown')
          have HB' := Lib.hid (((HB.out.alloc (by have := HB.out.size; omega) _).alloc (by have := HB.out.size; simp; omega) _).grown hgrow (by have := HB.out.size; simp; omega) (fun k hk => (HO.out.lt k hk).1))
          clear hown' hgrow
          go_wp2
          go_roundw
          case rel => exact ⟨k + 1, by omega, by go_num, HO'.out, HB'.out⟩
          case measure => simp [intOf]; omega
        | false =>
          have HS := Lib.hid (HN.out (by unfold isWr; simp []))
          have HB' := Lib.hid (HB.out.alloc HB.out.size (.cells #[.int .i64 3, .int .i64 xa, .int .u64 xx, .int .u64 xy, .int .u64 xg, .bool false] 172))
          have HO' := Lib.hid (HO.out.alloc (.cells #[.int .i64 3, .int .i64 xa, .int .u64 xx, .int .u64 xy, .int .u64 xg, .bool false] 172))
          rw [← HS.out] at HO'
          clear HY HN 
          go_wp2_with fail
          go_roundw
          case rel => exact ⟨k + 1, by omega, by go_num, HO'.out, HB'.out⟩
          case measure => simp [intOf]; omega
      have b3 : (xk == 3) = false := by simpa using k3
      have HS := Lib.hid (HN.out (by unfold isWr; simp [b2, b3, b4]))
      have HB' := Lib.hid (HB.out.alloc HB.out.size (.cells #[.int .i64 xk, .int .i64 xa, .int .u64 xx, .int .u64 xy, .int .u64 xg, .bool xo] 172))
      have HO' := Lib.hid (HO.out.alloc (.cells #[.int .i64 xk, .int .i64 xa, .int .u64 xx, .int .u64 xy, .int .u64 xg, .bool xo] 172))
      rw [← HS.out] at HO'
      clear HY HN k2 k3 k4
      go_wp2_with fail
      go_roundw
      case rel => exact ⟨k + 1, by omega, by go_num, HO'.out, HB'.out⟩
      case measure => simp [intOf]; omega
    · obtain rfl : k = L.length := by omega
      go_wp2
      go_ret
      exact ⟨_, rfl, by have h := HO.out; unfold writesK at h; rw [List.take_length] at h; exact h, HB.out⟩



/-- What holds at each round: a Log, and another memory. -/
structure Rq (W w : World) (lb b g bq gq : Nat) (zs zq : List Int) (L : List EvT) (v : Value) : Prop where
  log : LgN W w lb b g zs L v
  q : Pm w bq gq zq
theorem Rq.below {W w w' : World} {lb b g bq gq : Nat} {zs zq : List Int} {L : List EvT} {v : Value} (h : Rq W w lb b g bq gq zs zq L v) (k : Below w.heap.size w w') : Rq W w' lb b g bq gq zs zq L v := ⟨h.log.below k, h.q.below k⟩
theorem Rq.apart {W w : World} {lb b g bq gq : Nat} {zs zq : List Int} {L : List EvT} {v : Value} (h : Rq W w lb b g bq gq zs zq L v) (hb : bq ≠ b) (hg : gq ≠ g) : bq ∉ lgB lb b g v ∧ gq ∉ lgB lb b g v := by
  refine ⟨?_, ?_⟩
  · simp only [lgB, List.mem_cons, not_or]
    exact ⟨h.q.1.ne h.log.log.box (by decide), hb, h.q.1.ne h.log.log.mem.2.1 (by decide), own_ne h.log.log.row h.q.1 (by decide)⟩
  · simp only [lgB, List.mem_cons, not_or]
    exact ⟨h.q.2.1.ne h.log.log.box (by decide), h.q.2.1.ne h.log.log.mem.1 (by decide), hg, own_ne h.log.log.row h.q.2.1 (by decide)⟩
theorem Rq.ask {W w w' : World} {lb b g bq gq : Nat} {zs zs' zq : List Int} {L : List EvT} {v : Value} {e : EvT} (h : Rq W w lb b g bq gq zs zq L v) (hb : bq ≠ b) (hg : gq ≠ g) (hN : Noted w w' 0 lb b g zs' L v e) : ∃ v', Rq W w' lb b g bq gq zs' zq (L ++ [e]) v' := by
  obtain ⟨v', h1, hF, _⟩ := h.log.noted hN
  obtain ⟨a1, a2⟩ := h.apart hb hg
  exact ⟨v', h1, h.q.1.fr hF a1, h.q.2.1.fr hF a2, h.q.2.2⟩
theorem Rq.turn {W w w' : World} {lb b g bq gq : Nat} {zs zq zq' : List Int} {L : List EvT} {v : Value} (h : Rq W w lb b g bq gq zs zq L v) (hb : bq ≠ b) (hg : gq ≠ g) (hn : W.heap.size ≤ gq) (hq : Pm w' bq gq zq') (k : w.grownBy w' (some gq)) : Rq W w' lb b g bq gq zs zq' L v := by
  obtain ⟨_, a2⟩ := h.apart hb hg
  exact ⟨h.log.frm (.gb k (List.mem_singleton.2 rfl)) (fun x hx he => a2 (List.mem_singleton.1 he ▸ hx)) (fun i hi => by rw [List.mem_singleton.1 hi]; exact hn), hq⟩



end Go.Proofs.Yteheckcflnogbaa
