/-
  soughlaw23.awake; record.Right: contracts. Written by wip/gen/mkrec4.py.
-/
import Derived.Test.YteheckcflnogbaaRec3
namespace Go.Proofs.Yteheckcflnogbaa
open Go.RowKit

/-! ### What events say of words -/
def stepZ (zs : List Int) (e : EvT) : List Int := actv zs e.k e.a e.x e.y
def wordsK (zs : List Int) (L : List EvT) : List Int := L.foldl stepZ zs
def rightE (zs : List Int) (e : EvT) : Bool := decide (1 ≤ e.k ∧ e.k ≤ 4) && decide (evOf zs e.k e.a e.x e.y = e)
def rightL : List Int → List EvT → Bool
  | _, [] => true
  | zs, e :: t => rightE zs e && rightL (stepZ zs e) t
theorem wordsK_snoc (zs : List Int) (L : List EvT) (e : EvT) : wordsK zs (L ++ [e]) = stepZ (wordsK zs L) e := by unfold wordsK; rw [List.foldl_append]; rfl
theorem rightL_append (L : List EvT) : ∀ (zs : List Int) (M : List EvT), rightL zs (L ++ M) = (rightL zs L && rightL (wordsK zs L) M) := by
  induction L with
  | nil => intro zs M; rfl
  | cons e t ih => intro zs M; show (rightE zs e && rightL (stepZ zs e) (t ++ M)) = ((rightE zs e && rightL (stepZ zs e) t) && rightL (wordsK (stepZ zs e) t) M); rw [ih, Bool.and_assoc]
theorem take_evs (L : List EvT) (k : Nat) (h : k < L.length) : L.take (k + 1) = L.take k ++ [evAt L k] := by
  rw [List.take_succ_eq_append_getElem h]
  simp [evAt, h]
theorem right_no {zs : List Int} {L : List EvT} {k : Nat} (h : k < L.length) (he : rightE (wordsK zs (L.take k)) (evAt L k) = false) : rightL zs L = false := by
  have e : L = L.take k ++ (evAt L k :: L.drop (k + 1)) := by
    have := List.take_append_drop (k + 1) L
    rw [take_evs L k h, List.append_assoc] at this
    exact this.symm
  rw [e, rightL_append]
  have : rightL (wordsK zs (L.take k)) (evAt L k :: L.drop (k + 1)) = false := by
    show (rightE _ _ && _) = false
    rw [he]; rfl
  rw [this, Bool.and_false]
theorem right_step {zs : List Int} {L : List EvT} {k : Nat} (h : k < L.length) (hr : rightL zs (L.take k) = true) (he : rightE (wordsK zs (L.take k)) (evAt L k) = true) : rightL zs (L.take (k + 1)) = true := by
  rw [take_evs L k h, rightL_append, hr]
  show (true && (rightE _ _ && true)) = true
  rw [he]; rfl
/-- A Log whose blocks a call has made. -/
structure LgN (W w : World) (lb b g : Nat) (zs : List Int) (L : List EvT) (v : Value) : Prop where
  log : Lg w 0 lb b g zs L v
  new : ∀ i ∈ lgB lb b g v, W.heap.size ≤ i
  fr : Below W.heap.size W w
theorem Lg.drewN {w : World} {B lb b g : Nat} {zs : List Int} {L : List EvT} {v : Value} (h : Lg w B lb b g zs L v) (n : Nat) : Lg (w.drewN n) B lb b g zs L v := h.fr (S := []) ((Fr.refl [] w).drewN n) (by simp)
theorem LgN.below {W w w' : World} {lb b g : Nat} {zs : List Int} {L : List EvT} {v : Value} (h : LgN W w lb b g zs L v) (k : Below w.heap.size w w') : LgN W w' lb b g zs L v :=
  ⟨h.log.below k, h.new, bel_then h.fr k⟩
theorem LgN.noted {W w w' : World} {lb b g : Nat} {zs zs' : List Int} {L : List EvT} {v : Value} {e : EvT} (h : LgN W w lb b g zs L v) (k : Noted w w' 0 lb b g zs' L v e) : ∃ v', LgN W w' lb b g zs' (L ++ [e]) v' ∧ Fr (lgB lb b g v) w w' ∧ ∀ k, k ∈ lgB lb b g v' → k ∈ lgB lb b g v ∨ w.heap.size ≤ k := by
  obtain ⟨v', h1, h2, h3⟩ := k
  have hs := h.fr.size
  exact ⟨v', ⟨h1, fun i hi => by rcases h3 i hi with h4 | h4; exact h.new i h4; omega, ((Fr.of (S := []) h.fr).from h2 (fun i hi hl => by have := h.new i hi; omega)).below⟩, h2, h3⟩
theorem LgN.start {W w w' : World} {lb b g : Nat} {zs : List Int} (hB : Below W.heap.size W w) (h : Lg w' 0 lb b g zs [] (.slice none 0 0)) (k : Below w.heap.size w w') (h1 : W.heap.size ≤ lb) (h2 : W.heap.size ≤ b) (h3 : W.heap.size ≤ g) : LgN W w' lb b g zs [] (.slice none 0 0) :=
  ⟨h, fun i hi => by simp only [lgB, rowB, Value.ownBlock, Option.toList_none, List.mem_cons, List.not_mem_nil, or_false] at hi; rcases hi with rfl | rfl | rfl <;> assumption, bel_then hB k⟩
theorem evat_snoc (L : List EvT) (e : EvT) : evAt (L ++ [e]) L.length = e := by unfold evAt; simp

set_option maxHeartbeats 3200000 in
set_option maxRecDepth 100000 in
theorem awake23_any (w : World) :
    Calls Try.prog 37 #[] w fun e w' => e = .returned (.bool true) ∧ Below w.heap.size w w' := by
  go_enter Try.func37, Try.ntmps37
  go_wp2_with fail
  refine (newPlain_any _ _).mono ?_
  rintro e w1 ⟨b, g, rfl, hP, hB, hb, hg⟩
  rw [show List.replicate (memn 1) (0 : Int) = [0] from rfl] at hP
  have HP := Lib.hid hP
  have HB := Lib.hid hB
  have hs := hB.size
  clear hP hB
  go_wp2_with fail
  refine (lnew_any b g [0] _ HP.out).mono ?_
  rintro e w2 ⟨rfl, hL, hB, _⟩
  have HL := Lib.hid (LgN.start HB.out (hL 0) hB (by omega) hb hg)
  clear hL hB
  go_wp2_with fail
  refine (lstore_any 0 5 0 _ b g [0] [] _ _ HL.out.log (by decide) (Nat.zero_le _)).mono ?_
  rintro e w3 ⟨rfl, hN⟩
  obtain ⟨v3, hL, _, _⟩ := HL.out.noted hN
  rw [show stv [0] 0 5 = [5] from rfl, show ([] ++ [⟨2, 0, 5, 0, 0, false⟩] : List EvT) = [⟨2, 0, 5, 0, 0, false⟩] from rfl] at hL
  have HL3 := Lib.hid hL
  clear hL hN
  go_wp2_with fail
  refine (lload_any 0 0 _ b g [5] _ _ _ HL3.out.log (by decide) (Nat.zero_le _)).mono ?_
  rintro e w4 ⟨rfl, hN⟩
  obtain ⟨v4, hL, _, _⟩ := HL3.out.noted hN
  rw [show ldv [5] 0 = 5 from rfl, show ([⟨2, 0, 5, 0, 0, false⟩] ++ [⟨1, 0, 0, 0, 5, false⟩] : List EvT) = [⟨2, 0, 5, 0, 0, false⟩, ⟨1, 0, 0, 0, 5, false⟩] from rfl] at hL
  have HL4 := Lib.hid hL
  clear hL hN
  go_wp2_with fail
  refine (levents_any 0 _ b g [5] _ _ _ HL4.out.log (by decide)).mono ?_
  rintro e w5 ⟨v5, rfl, hO, hB⟩
  obtain ⟨gi, he, _⟩ := Evs.of_owns hO
  obtain ⟨o, c, rfl, hle, hd0⟩ := he
  obtain ⟨off, rfl, hd1⟩ := hd0 (by decide)
  have hc := hd1 1 (by decide)
  have c0 : w5.cell? ⟨gi, off + 1 * 6, none⟩ = some (.int .i64 1) := hc.1
  have c4 : w5.cell? ⟨gi, off + 1 * 6 + 4, none⟩ = some (.int .u64 5) := hc.2.2.2.2.1
  have HF := Lib.hid (bel_then HL4.out.fr hB)
  clear hc hd0 hd1 hO hB
  rw [show ([⟨2, 0, 5, 0, 0, false⟩, ⟨1, 0, 0, 0, 5, false⟩] : List EvT).length = 2 from rfl] at *
  go_wp2_with fail
  go_ret
  exact ⟨by first | rfl | simp, HF.out⟩

set_option maxHeartbeats 3200000 in
set_option maxRecDepth 100000 in
theorem lcount_n (B lb b g : Nat) (zs : List Int) (L : List EvT) (v : Value) (w : World) (m : Int) (hm : (L.length : Int) = m) (h : Lg w B lb b g zs L v) :
    Calls Try.prog 120 #[.pointer (some ⟨lb, 0, none⟩)] w fun e w' => e = .returned (.int .i64 m) ∧ w' = w := by
  exact (lcount_any B lb b g zs L v w h).mono fun e w' ⟨h1, h2⟩ => ⟨h1.trans (by rw [hm]), h2⟩

set_option maxHeartbeats 3200000 in
set_option maxRecDepth 100000 in
theorem pright_any (n : Int) (v : Value) (L : List EvT) (gi : Nat) (w : World) (h : Evs w v L gi) (hl : L.length ≤ 1000) :
    Calls Try.prog 41 #[.int .i64 n, v] w fun e w' => e = .returned (.bool (rightL (List.replicate (memn n) 0) L)) ∧ Below w.heap.size w w' := by
  have HE := Lib.hid h
  obtain ⟨o, c, rfl⟩ := h.len
  obtain ⟨q, hq⟩ : ∃ q, q = rightL (List.replicate (memn n) 0) L := ⟨_, rfl⟩
  have HQ := Lib.hid hq
  rw [← hq]
  clear hq h
  go_enter Try.func41, Try.ntmps41
  go_wp2_with fail
  refine (newPlain_any _ _).mono ?_
  rintro e w1 ⟨b, g, rfl, hP, hB, hb, hg⟩
  have HP := Lib.hid hP
  have HB := Lib.hid hB
  have hs := hB.size
  clear hP hB
  go_wp2_with fail
  refine (lnew_any b g _ _ HP.out).mono ?_
  rintro e w2 ⟨rfl, hL, hB, _⟩
  have HL := Lib.hid (LgN.start HB.out (hL 0) hB (by omega) hb hg)
  clear hL hB
  generalize List.replicate (memn n) (0 : Int) = z0 at *
  generalize w1.heap.size = lb at *
  go_wp2_with fail
  go_loopw [14] (fun i wr => ∃ k : Nat, k ≤ L.length ∧ i = .int .i64 k ∧ Hid (rightL z0 (L.take k) = true) ∧ ∃ v, LgN w wr lb b g (wordsK z0 (L.take k)) (L.take k) v)
    (fun i _ => L.length - (intOf i).toNat)
  case atStart => exact ⟨0, Nat.zero_le _, rfl, Lib.hid rfl, _, HL.out⟩
  case round =>
    obtain ⟨k, hk, rfl, HR, vl, hL⟩ := hrel
    have HL := Lib.hid hL
    clear hL
    by_cases hlt : k < L.length
    · obtain ⟨_, _, e3, _, hd0⟩ := HE.out
      simp only [Value.slice.injEq, true_and] at e3
      obtain ⟨rfl, rfl⟩ := e3
      obtain ⟨off, rfl, hd1⟩ := hd0 (by omega)
      have hd := hd1 k hlt
      have d0 := keepc hd.1 HL.out.fr
      have d1 := keepc hd.2.1 HL.out.fr
      have d2 := keepc hd.2.2.1 HL.out.fr
      have d3 := keepc hd.2.2.2.1 HL.out.fr
      have d4 := keepc hd.2.2.2.2.1 HL.out.fr
      have d5 := keepc hd.2.2.2.2.2 HL.out.fr
      have H0k := Lib.hid (show rightE (wordsK z0 (L.take k)) (evAt L k) = false → q = false from fun h => by rw [HQ.out]; exact right_no hlt h)
      have HSk := Lib.hid (show rightE (wordsK z0 (L.take k)) (evAt L k) = true → rightL z0 (L.take (k + 1)) = true from right_step hlt HR.out)
      have HTK := Lib.hid (take_evs L k hlt)
      have HWK := Lib.hid (show wordsK z0 (L.take (k + 1)) = stepZ (wordsK z0 (L.take k)) (evAt L k) by rw [take_evs L k hlt, wordsK_snoc])
      have HKL := Lib.hid (show (L.take k).length = k by rw [List.length_take]; omega)
      clear hd hd0 hd1
      generalize evAt L k = x at *
      generalize L.take k = M at *
      generalize wordsK z0 M = zs at *
      have HL1 := Lib.hid (HL.out.below ((Below.refl _ _).alloc (Nat.le_refl _) (.cells #[.int .i64 x.k, .int .i64 x.a, .int .u64 x.x, .int .u64 x.y, .int .u64 x.g, .bool x.ok] 172)))
      have KX1 := Lib.hid (Bk.new wr 172 [.int .i64 x.k, .int .i64 x.a, .int .u64 x.x, .int .u64 x.y, .int .u64 x.g, .bool x.ok])
      by_cases hkd : 1 ≤ x.k ∧ x.k ≤ 4
      case neg =>
        have HV := Lib.hid (H0k.out (by unfold rightE; rw [decide_eq_false hkd]; rfl))
        have hkd' : x.k < 1 ∨ 4 < x.k := by omega
        clear H0k HSk hkd
        go_wp2_with fail
        refine (pask_no x _ _ hkd').mono ?_
        rintro e w3 ⟨rfl, hB⟩
        have HL2 := Lib.hid (HL1.out.below hB)
        have HKI := HKL.out
        clear hB hkd' d0 d1 d2 d3 d4 d5 hs hg hb
        have hwr : IntKind.i64.wrap ((k : Int) + 1) = (k : Int) + 1 := IntWalk.i64_in _ (by omega)
        have hne : ((M.length : Int) != (k : Int) + 1) = true := by simp; omega
        clear HKI
        go_wp2_with fail
        go_quiet ((go_at_call 120; exact Calls.quiet_of_same (lcount_any 0 lb b g _ _ _ _ (HL2.out.log.drewN _))))
        go_wp2_with fail
        go_ret
        exact ⟨ret_bool HV.out.symm, bel_drewN HL2.out.fr _⟩
      go_wp2_with fail
      refine (pask_yes x 0 lb b g zs M vl _ HL1.out.log (by have := HKL.out; omega) (Nat.zero_le _) hkd).mono ?_
      rintro e w3 ⟨rfl, hN⟩
      obtain ⟨v3, hL, hF, _⟩ := HL1.out.noted hN
      have HKN := Lib.hid (show wr.heap.size ∉ lgB lb b g vl from fun hm => by have := HL.out.log.lt _ hm; omega)
      have HL2 := Lib.hid hL
      have KX := Lib.hid (KX1.out.fr hF HKN.out)
      have x0 : w3.cell? ⟨wr.heap.size, 0, none⟩ = some (.int .i64 x.k) := KX.out.cell 0
      have x1 : w3.cell? ⟨wr.heap.size, 1, none⟩ = some (.int .i64 x.a) := KX.out.cell 1
      have x2 : w3.cell? ⟨wr.heap.size, 2, none⟩ = some (.int .u64 x.x) := KX.out.cell 2
      have x3 : w3.cell? ⟨wr.heap.size, 3, none⟩ = some (.int .u64 x.y) := KX.out.cell 3
      have x4 : w3.cell? ⟨wr.heap.size, 4, none⟩ = some (.int .u64 x.g) := KX.out.cell 4
      have x5 : w3.cell? ⟨wr.heap.size, 5, none⟩ = some (.bool x.ok) := KX.out.cell 5
      obtain ⟨y, hy⟩ : ∃ y, y = evOf zs x.k x.a x.x x.y := ⟨_, rfl⟩
      have HY := Lib.hid hy
      rw [← hy] at hL
      have HL2 := Lib.hid hL
      obtain ⟨gr, her, _⟩ := Evs.of_owns hL.log.row
      obtain ⟨o4, c4', rfl, _, hr0⟩ := her
      obtain ⟨of4, rfl, hr1⟩ := hr0 (by simp)
      have hr := hr1 k (by have := HKL.out; simp; omega)
      rw [show evAt (M ++ [y]) k = y by have := HKL.out; rw [← this]; exact evat_snoc M y] at hr
      obtain ⟨r0, r1, r2, r3, r4, r5⟩ := hr
      have hlk : (M ++ [y]).length = k + 1 := by have := HKL.out; simp; omega
      have b1 : w3.cell? ⟨lb, 1, none⟩ = some (.slice (some ⟨gr, of4, none⟩) (M ++ [y]).length c4') := hL.log.box.cell 1
      rw [hlk] at b1
      have HLK := Lib.hid hlk
      clear hL hN hF hy d0 d1 d2 d3 d4 d5 hs hg hb hlk hr0 hr1
      have hE := ev_neq y x
      unfold evCells at hE
      have hwr : IntKind.i64.wrap ((k : Int) + 1) = (k : Int) + 1 := IntWalk.i64_in _ (by omega)
      have hki : (k : Int) < ((k + 1 : Nat) : Int) := by omega
      have hm1 : ((M ++ [y]).length : Int) = (k : Int) + 1 := by rw [HLK.out]; omega
      have HM1 := Lib.hid hm1
      clear hm1
      by_cases hxy : y = x
      · have hd : decide (y = x) = true := decide_eq_true hxy
        rw [hd] at hE
        have HS := Lib.hid (HSk.out (by unfold rightE; rw [decide_eq_true hkd, ← HY.out, hd]; rfl))
        have HEV := Lib.hid (show L.take (k + 1) = M ++ [y] by rw [HTK.out, hxy])
        have HWV := Lib.hid (show wordsK z0 (M ++ [y]) = actv zs x.k x.a x.x x.y by rw [← HEV.out, HWK.out]; rfl)
        clear hxy hd H0k HSk hkd
        go_wp2_with fail
        go_quiet ((go_at_call 120; exact Calls.quiet_of_same (lcount_n 0 lb b g _ _ _ _ _ HM1.out (HL2.out.log.drewN _))))
        go_wp2_with fail
        go_roundw
        case rel => exact ⟨k + 1, by omega, by go_num, HS, _, by rw [HEV.out, HWV.out]; exact HL2.out.below (bel_drewN (Below.refl _ _) _)⟩
        case measure => simp [intOf]; omega
      · have hd : decide (y = x) = false := decide_eq_false hxy
        rw [hd] at hE
        have HV := Lib.hid (H0k.out (by unfold rightE; rw [← HY.out, hd, Bool.and_false]))
        clear hxy hd H0k HSk hkd
        go_wp2_with fail
        go_quiet ((go_at_call 120; exact Calls.quiet_of_same (lcount_n 0 lb b g _ _ _ _ _ HM1.out (HL2.out.log.drewN _))))
        go_wp2_with fail
        go_ret
        exact ⟨ret_bool HV.out.symm, bel_drewN HL2.out.fr _⟩
    · obtain rfl : k = L.length := by omega
      have HV := Lib.hid (show q = true by rw [HQ.out, ← HR.out, List.take_length])
      go_wp2_with fail
      go_ret
      exact ⟨ret_bool HV.out.symm, HL.out.fr⟩


end Go.Proofs.Yteheckcflnogbaa
