/-
  soughref17.Start, Out, Bottom, Same: contracts. Written by wip/gen/mksys8.py.
-/
import Derived.Test.YtfeipfemknnhhaaPk2
import Derived.Test.YtfeipfemknnhhaaRowL
namespace Go.Proofs.Ytfeipfemknnhhaa
open Go.RowKit

def botK (s : SysT) (k : Nat) : List (List Nat) := List.replicate k (bottomE s.what s.width)
theorem botK_len (s : SysT) (k : Nat) : (botK s k).length = k := by simp [botK]
theorem botK_succ (s : SysT) (k : Nat) : botK s (k + 1) = botK s k ++ [bottomE s.what s.width] := by unfold botK; rw [List.replicate_succ']
theorem ws_take {w : World} {p : Option Addr} {n c : Nat} {a : List Nat} (h : Ws w (.slice p n c) a) (h0 : 0 < a.length) : ∃ ad, p = some ad ∧ ∀ j u, (u64s a)[j]? = some u → w.cell? (ad.add j) = some u := by
  obtain ⟨p', c', e, q⟩ := ws_row h
  simp only [Value.slice.injEq] at e
  obtain ⟨rfl, _, rfl⟩ := e
  obtain ⟨ad, rfl, hc⟩ := q h0
  refine ⟨ad, rfl, fun j u hj => ?_⟩
  have hlt : j < a.length := by
    rcases Nat.lt_or_ge j a.length with h | h
    · exact h
    · rw [List.getElem?_eq_none (by simpa [u64s] using h)] at hj; cases hj
  rw [u64s_at a j hlt] at hj
  injection hj with hj
  subst hj
  exact hc j hlt

set_option maxHeartbeats 3200000 in
set_option maxRecDepth 100000 in
theorem rsstart_any (s : SysT) (ve vn vi vt : Value) (v : Int) (w : World) (hL : SysL w ve vn vi vt s) (hb : SysF s) :
    Calls Try.prog 40 #[.agg #[.int .i64 s.what, .int .i64 s.width, .int .i64 s.nodes, ve, vn, vi, vt], .int .i64 v] w fun e w' => ∃ u, e = .returned u ∧ Ws w' u (startE s v) ∧ Below w.heap.size w w' := by
  have HS := Lib.hid hL
  obtain ⟨pe, ce, rfl⟩ := hL.1.len
  obtain ⟨pn, cn, rfl⟩ := hL.2.1.len
  obtain ⟨pi, ci, rfl⟩ := ws_len hL.2.2.1
  obtain ⟨pt, ct, rfl⟩ := hL.2.2.2.len
  have KS := Lib.hid (Bk.new w 27 [.int .i64 s.what, .int .i64 s.width, .int .i64 s.nodes, .slice pe s.E.length ce, .slice pn s.N.length cn, .slice pi s.I.length ci, .slice pt s.T.length ct])
  have B0 := Lib.hid ((Below.refl w.heap.size w).alloc (Nat.le_refl _) (.cells #[.int .i64 s.what, .int .i64 s.width, .int .i64 s.nodes, .slice pe s.E.length ce, .slice pn s.N.length cn, .slice pi s.I.length ci, .slice pt s.T.length ct] 27))
  have HS0 := Lib.hid (HS.out.below B0.out)
  clear hL
  have HF := Lib.hid hb
  clear hb

  obtain ⟨i0, hi, hz0, hz1, hz2⟩ := info_parts u64_info
  have HD := Lib.hid (show startE s v = if inE s.N v = true then s.I else bottomE s.what s.width from rfl)
  obtain ⟨q, hq⟩ : ∃ q, q = startE s v := ⟨_, rfl⟩
  rw [← hq] at HD ⊢
  clear hq
  have HZ := Lib.hid HS.out.2.2.1.1
  have hli : s.I.length ≤ 1000 := HF.out.il
  by_cases hpos : 0 < s.I.length
  · have HU := Lib.hid (own_bare64 (w.alloc (.cells #[.int .i64 s.what, .int .i64 s.width, .int .i64 s.nodes, .slice pe s.E.length ce, .slice pn s.N.length cn, .slice pi s.I.length ci, .slice pt s.T.length ct] 27)) w.heap.size (by simp))
    simp only [World.size_alloc] at HU
    have BA := Lib.hid (B0.out.alloc (by simp) (.cells #[] 41))
    have HIX := Lib.hid (HS0.out.2.2.1.below ((Below.refl _ _).alloc (Nat.le_refl _) (.cells #[] 41)))
    obtain ⟨ad, rfl, hq⟩ := ws_take HIX.out hpos
    have HQ := Lib.hid hq
    clear hq
    go_enter Try.func40, Try.ntmps40
    go_wp2_with fail
    refine (in7_any _ s.N v _ HS0.out.2.1 (by have := HF.out.nl; omega)).mono ?_
    rintro e w1 ⟨rfl, hww⟩
    subst w1
    cases hin : inE s.N v with
    | true =>
      have HV := Lib.hid (show q = s.I by rw [HD.out, hin, if_pos rfl])
      clear hin
      go_wp2_with (at_builtin; refine wpList_append_own _ rfl _ _ 24 rfl w.heap.size 41 i0 (.int .u64 0) 1 8 Try.underlying24 hi hz0 hz1 hz2 rfl (by decide) _ 0 [] rfl HU.out ad s.I.length ci (u64s s.I) rfl ?c1 ?c2 ?c3 ?c4 ?c5 ?c6 ?_)
      case c1 => simp [u64s]
      case c2 => exact HQ.out
      case c3 => exact fun u hu => by obtain ⟨_, _, rfl⟩ := List.mem_map.1 hu; rfl
      case c4 => unfold maxLen; omega
      case c5 => omega
      case c6 => simp; omega
      intro v' w1 hown hgrow _
      have HO := Lib.hid (show Own w1 w.heap.size v' s.I by unfold Own; simpa using hown)
      have B1 := Lib.hid (BA.out.grown hgrow (by simp; omega) (fun k hk => (HU.out.lt k hk).1))
      clear hown hgrow
      go_wp2_with fail
      go_ret
      exact ⟨_, rfl, by rw [HV.out]; exact Ws.of_owns HO.out HZ.out, B1.out⟩
    | false =>
      have HV := Lib.hid (show q = bottomE s.what s.width by rw [HD.out, hin, if_neg (by decide)])
      clear hin
      go_wp2_with fail
      refine (rbottom_any s.what s.width _).mono ?_
      rintro e w1 ⟨u, rfl, hW, hB⟩
      have HW := Lib.hid hW
      have B1 := Lib.hid (B0.out.trans (hB.mono B0.out.size))
      clear hW hB
      go_wp2_with fail
      go_ret
      exact ⟨_, rfl, by rw [HV.out]; exact HW.out, B1.out⟩
  · have h0 : s.I.length = 0 := by omega
    have HI0 := Lib.hid (show s.I = [] from List.eq_nil_of_length_eq_zero h0)
    rw [h0] at KS B0 HS0 ⊢
    clear h0 hpos hli HS
    have HU := Lib.hid (own_bare64 (w.alloc (.cells #[.int .i64 s.what, .int .i64 s.width, .int .i64 s.nodes, .slice pe s.E.length ce, .slice pn s.N.length cn, .slice pi 0 ci, .slice pt s.T.length ct] 27)) w.heap.size (by simp))
    simp only [World.size_alloc] at HU
    have BA := Lib.hid (B0.out.alloc (by simp) (.cells #[] 41))
    have hpp : (pi = none) ∨ (∃ ad, pi = some ad) := by cases pi; exact .inl rfl; exact .inr ⟨_, rfl⟩
    rcases hpp with rfl | ⟨ad, rfl⟩
    all_goals
      go_enter Try.func40, Try.ntmps40
      go_wp2_with fail
      refine (in7_any _ s.N v _ HS0.out.2.1 (by have := HF.out.nl; omega)).mono ?_
      rintro e w1 ⟨rfl, hww⟩
      subst w1
      cases hin : inE s.N v with
      | true =>
        have HV := Lib.hid (show q = s.I by rw [HD.out, hin, if_pos rfl])
        clear hin
        go_wp2_with fail
        go_ret
        exact ⟨_, rfl, by rw [HV.out]; exact Ws.of_owns (a := s.I) (by rw [HI0.out]; exact HU.out) HZ.out, BA.out⟩
      | false =>
        have HV := Lib.hid (show q = bottomE s.what s.width by rw [HD.out, hin, if_neg (by decide)])
        clear hin
        go_wp2_with fail
        refine (rbottom_any s.what s.width _).mono ?_
        rintro e w1 ⟨u, rfl, hW, hB⟩
        have HW := Lib.hid hW
        have B1 := Lib.hid (B0.out.trans (hB.mono B0.out.size))
        clear hW hB
        go_wp2_with fail
        go_ret
        exact ⟨_, rfl, by rw [HV.out]; exact HW.out, B1.out⟩

set_option maxHeartbeats 3200000 in
set_option maxRecDepth 100000 in
theorem rsout_any (s : SysT) (ve vn vi vt : Value) (n : Nat) (va : Value) (a : List Nat) (w : World) (hL : SysL w ve vn vi vt s) (hb : SysF s) (ha : Ws w va a) (hn : a.length ≤ 1000) (hok : OkS s) (hnt : n < s.nodes.toNat) (hva : valueE s.what s.width a = true) :
    Calls Try.prog 41 #[.agg #[.int .i64 s.what, .int .i64 s.width, .int .i64 s.nodes, ve, vn, vi, vt], .int .i64 (n : Nat), va] w fun e w' => ∃ u, e = .returned u ∧ Ws w' u (applyT s n a) ∧ Below w.heap.size w w' := by
  have HS := Lib.hid hL
  obtain ⟨pe, ce, rfl⟩ := hL.1.len
  obtain ⟨pn, cn, rfl⟩ := hL.2.1.len
  obtain ⟨pi, ci, rfl⟩ := ws_len hL.2.2.1
  obtain ⟨pt, ct, rfl⟩ := hL.2.2.2.len
  have KS := Lib.hid (Bk.new w 27 [.int .i64 s.what, .int .i64 s.width, .int .i64 s.nodes, .slice pe s.E.length ce, .slice pn s.N.length cn, .slice pi s.I.length ci, .slice pt s.T.length ct])
  have B0 := Lib.hid ((Below.refl w.heap.size w).alloc (Nat.le_refl _) (.cells #[.int .i64 s.what, .int .i64 s.width, .int .i64 s.nodes, .slice pe s.E.length ce, .slice pn s.N.length cn, .slice pi s.I.length ci, .slice pt s.T.length ct] 27))
  have HS0 := Lib.hid (HS.out.below B0.out)
  clear hL
  have HF := Lib.hid hb
  clear hb

  have HA := Lib.hid (ha.below B0.out)
  obtain ⟨pa, ca, rfl⟩ := ws_len ha
  clear ha
  have hnt : n < s.T.length := by have := hok.tl; omega
  have hni : (n : Int) < s.T.length := by omega
  have HCT := Lib.hid (hok.tr n hnt)
  have HVA := Lib.hid hva
  have K1 := KS
  have HS1 := HS0
  clear hok hva
  obtain ⟨c0, c1, c2, c3, c4, c5, c6⟩ := K1.out.seven
  obtain ⟨_, _, h5, hTc⟩ := HS1.out.2.2.2
  simp only [Value.slice.injEq, true_and] at h5
  obtain ⟨rfl, rfl⟩ := h5
  obtain ⟨bt, ot, rfl, hd⟩ := hTc (by omega)
  obtain ⟨vg, vk, vl, d0, d1, d2, hV⟩ := hd n hnt
  have HTV := Lib.hid (hV.below (Below.refl _ _).drew)
  have HA1 := Lib.hid (HA.out.below (Below.refl _ _).drew)
  have HBd := Lib.hid (HF.out.tr n hnt)
  obtain ⟨pg, cg, rfl⟩ := ws_len hV.1
  obtain ⟨pk, ck, rfl⟩ := ws_len hV.2.1
  obtain ⟨pl, cl, rfl⟩ := hV.2.2.len
  clear hd hV hTc
  go_enter Try.func41, Try.ntmps41
  go_wp2_with fail
  go_region_held3 (fun w' => w'.cell? ⟨w.heap.size, 0, none⟩ = some (.int .i64 s.what) ∧ w'.cell? ⟨w.heap.size, 6, none⟩ = some (.slice (some ⟨bt, ot, none⟩) s.T.length ct) ∧ w'.cell? ⟨bt, ot + n * 3, none⟩ = some (.slice pg (trAt s.T n).g.length cg) ∧ w'.cell? ⟨bt, ot + n * 3 + 1, none⟩ = some (.slice pk (trAt s.T n).k.length ck) ∧ w'.cell? ⟨bt, ot + n * 3 + 2, none⟩ = some (.slice pl (trAt s.T n).l.length cl) ∧ Below w.heap.size w w')
    (first
      | exact ⟨c0, c6, d0, d1, d2, B0.out.drew⟩
      | (go_split_ands; exact ⟨keepc (by assumption) hB, keepc (by assumption) hB, keepc (by assumption) hB, keepc (by assumption) hB, keepc (by assumption) hB, bel_then (by assumption) hB⟩))
    (first
      | (go_at_call 71; refine (rapply_any s.what s.width _ _ _ _ (trAt s.T n).g (trAt s.T n).k a (trAt s.T n).l _ HTV.out.1 HTV.out.2.1 HTV.out.2.2 HA1.out HBd.out.1 HBd.out.2.1 (by have := HBd.out.2.2; omega) hn HVA.out HCT.out).mono ?_; rintro e w' ⟨u, rfl, hW, hB⟩; have HW := Lib.hid (show Ws w' u (applyT s n a) from hW); clear hW))
  go_split_ands
  have B2 := Lib.hid (show Below w.heap.size w _ from by assumption)
  go_wp2_with fail
  go_ret
  exact ⟨_, rfl, HW.out, B2.out⟩




end Go.Proofs.Ytfeipfemknnhhaa
