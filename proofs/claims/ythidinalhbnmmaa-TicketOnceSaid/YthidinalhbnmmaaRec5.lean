/-
  soughlaw23.RecordNotes: its walk. Written by wip/gen/mkrec5.py.
-/
import Derived.Test.YthidinalhbnmmaaRec4
import Derived.Test.YthidinalhbnmmaaTake
namespace Go.Proofs.Ythidinalhbnmmaa
open Go.RowKit

theorem own_apart {w : World} {base base' e e' s s' : Nat} {v v' : Value} {n n' : Nat} {xs xs' : List Value} (h : w.ownsRow base e s v n xs) (h' : w.ownsRow base' e' s' v' n' xs') (hne : e ≠ e') : ∀ k ∈ rowB v, k ∉ rowB v' := by
  intro k hk hk'
  have hk := rowB_mem.1 hk
  have hk' := rowB_mem.1 hk'
  obtain ⟨_, ⟨rfl, _⟩ | ⟨g, cap, cur, rfl, _, hh, _⟩⟩ := h
  · cases hk
  obtain ⟨_, ⟨rfl, _⟩ | ⟨g', cap', cur', rfl, _, hh', _⟩⟩ := h'
  · cases hk'
  injection hk with hk
  injection hk' with hk'
  subst hk hk'
  rw [hh] at hh'
  injection hh' with hh'
  injection hh' with _ h2
  exact hne h2
theorem fr_grown {w w' : World} {o : Obj} {v : Value} (h : (w.alloc o).grownBy w' v.ownBlock) : Fr (rowB v) w w' :=
  ((Fr.refl (rowB v) w).alloc o).trans ⟨h.os, h.tape, h.output, h.size, fun k hk hn => h.block k hk (fun he => hn (rowB_mem.2 he.symm))⟩
theorem LgN.frm {S : List Nat} {W w w' : World} {lb b g : Nat} {zs : List Int} {L : List EvT} {v : Value} (h : LgN W w lb b g zs L v) (k : Fr S w w') (hS : ∀ x ∈ lgB lb b g v, x ∉ S) (hW : ∀ i ∈ S, W.heap.size ≤ i) : LgN W w' lb b g zs L v :=
  ⟨h.log.fr k hS, h.new, ((Fr.of (S := []) h.fr).from k (fun i hi hl => by have := hW i hi; omega)).below⟩

/-- What an operation does, and is noted as. -/
def actZ (zs : List Int) (x : ActT) : List Int := actv zs (kindv x.k) x.a x.x x.y
def actE (zs : List Int) (x : ActT) : EvT := evOf zs (kindv x.k) x.a x.x x.y
def actsZ (zs : List Int) (D : List ActT) : List Int := D.foldl actZ zs
def actsE : List Int → List ActT → List EvT
  | _, [] => []
  | zs, x :: t => actE zs x :: actsE (actZ zs x) t
theorem actsZ_snoc (zs : List Int) (D : List ActT) (x : ActT) : actsZ zs (D ++ [x]) = actZ (actsZ zs D) x := by unfold actsZ; rw [List.foldl_append]; rfl
theorem actsE_snoc (D : List ActT) : ∀ (zs : List Int) (x : ActT), actsE zs (D ++ [x]) = actsE zs D ++ [actE (actsZ zs D) x] := by
  induction D with
  | nil => intro zs x; rfl
  | cons y t ih => intro zs x; show actE zs y :: actsE (actZ zs y) (t ++ [x]) = actE zs y :: (actsE (actZ zs y) t ++ [actE (actsZ (actZ zs y) t) x]); rw [ih]
theorem actsE_len (D : List ActT) : ∀ zs, (actsE zs D).length = D.length := by
  induction D with
  | nil => intro zs; rfl
  | cons y t ih => intro zs; show (actsE _ t).length + 1 = t.length + 1; rw [ih]
theorem kindv_in (k : Int) : 1 ≤ kindv k ∧ kindv k ≤ 4 := by unfold kindv; split <;> omega
theorem act_right (zs : List Int) (x : ActT) : rightE zs (actE zs x) = true ∧ stepZ zs (actE zs x) = actZ zs x := by
  obtain ⟨h1, h2⟩ := kindv_in x.k
  unfold rightE stepZ actE actZ
  generalize kindv x.k = k at *
  rcases (show k = 1 ∨ k = 2 ∨ k = 3 ∨ k = 4 by omega) with rfl | rfl | rfl | rfl <;> simp [evOf, actv, casv]
theorem acts_right (D : List ActT) : ∀ zs, rightL zs (actsE zs D) = true := by
  induction D with
  | nil => intro zs; rfl
  | cons y t ih => intro zs; show (rightE zs (actE zs y) && rightL (stepZ zs (actE zs y)) (actsE (actZ zs y) t)) = true; rw [(act_right zs y).1, (act_right zs y).2, ih]; rfl
theorem take_acts (D : List ActT) (k : Nat) (h : k < D.length) : D.take (k + 1) = D.take k ++ [actAt D k] := by
  rw [List.take_succ_eq_append_getElem h]
  simp [actAt, h]

theorem rev_info : (Try.prog.info? 64).map (fun i => (i.zero, i.size, i.bytes)) = some (some (.agg #[.int .i64 0, .int .i64 0, .int .u64 0, .int .u64 0, .int .u64 0, .bool false]), 6, 48) := by kernel_rfl
/-- What holds at each round. -/
structure Rn (W w : World) (lb b g nb ng : Nat) (zs zr : List Int) (L M : List EvT) (v vw : Value) : Prop where
  log : LgN W w lb b g zs L v
  ref : Rm w nb ng zr
  want : w.ownsRow W.heap.size 64 6 vw M.length (ecells M)
theorem Rn.below {W w w' : World} {lb b g nb ng : Nat} {zs zr : List Int} {L M : List EvT} {v vw : Value} (h : Rn W w lb b g nb ng zs zr L M v vw) (k : Below w.heap.size w w') : Rn W w' lb b g nb ng zs zr L M v vw :=
  ⟨h.log.below k, h.ref.below k, own_below h.want k⟩
theorem Rn.apart {W w : World} {lb b g nb ng : Nat} {zs zr : List Int} {L M : List EvT} {v vw : Value} (h : Rn W w lb b g nb ng zs zr L M v vw) (hng : ng ≠ g) : nb ∉ lgB lb b g v ∧ ng ∉ lgB lb b g v ∧ ∀ k, vw.ownBlock = some k → k ∉ lgB lb b g v := by
  refine ⟨?_, ?_, fun k hk hm => ?_⟩
  · simp only [lgB, List.mem_cons, not_or]
    exact ⟨h.ref.1.ne h.log.log.box (by decide), h.ref.1.ne h.log.log.mem.1 (by decide), h.ref.1.ne h.log.log.mem.2.1 (by decide), own_ne h.log.log.row h.ref.1 (by decide)⟩
  · simp only [lgB, List.mem_cons, not_or]
    exact ⟨h.ref.2.1.ne h.log.log.box (by decide), h.ref.2.1.ne h.log.log.mem.1 (by decide), hng, own_ne h.log.log.row h.ref.2.1 (by decide)⟩
  · have hk := rowB_mem.2 hk
    simp only [lgB, List.mem_cons] at hm
    rcases hm with rfl | rfl | rfl | hm
    · exact own_ne h.want h.log.log.box (by decide) hk
    · exact own_ne h.want h.log.log.mem.1 (by decide) hk
    · exact own_ne h.want h.log.log.mem.2.1 (by decide) hk
    · exact own_apart h.log.log.row h.want (by decide) k hm hk
theorem Rn.ask {W w w' : World} {lb b g nb ng : Nat} {zs zr zs' : List Int} {L M : List EvT} {v vw : Value} {e : EvT} (h : Rn W w lb b g nb ng zs zr L M v vw) (hng : ng ≠ g) (hN : Noted w w' 0 lb b g zs' L v e) :
    ∃ v', Rn W w' lb b g nb ng zs' zr (L ++ [e]) M v' vw ∧ Fr (lgB lb b g v) w w' := by
  obtain ⟨v', h1, hF, _⟩ := h.log.noted hN
  obtain ⟨a1, a2, a3⟩ := h.apart hng
  exact ⟨v', ⟨h1, rm_fr h.ref hF a1 a2, own_fr h.want hF a3⟩, hF⟩
theorem Rn.turn {W w w' : World} {lb b g nb ng : Nat} {zs zr zr' : List Int} {L M : List EvT} {v vw : Value} (h : Rn W w lb b g nb ng zs zr L M v vw) (hng : ng ≠ g) (hn : W.heap.size ≤ ng) (hR : Rm w' nb ng zr') (hF : Fr [ng] w w') : Rn W w' lb b g nb ng zs zr' L M v vw := by
  obtain ⟨_, a2, _⟩ := h.apart hng
  refine ⟨h.log.frm hF (fun x hx he => a2 (List.mem_singleton.1 he ▸ hx)) (fun i hi => by rw [List.mem_singleton.1 hi]; exact hn), hR, own_fr h.want hF (fun k hk he => own_ne h.want h.ref.2.1 (by decide) (by rw [← List.mem_singleton.1 he]; exact rowB_mem.2 hk))⟩
theorem Rn.gain {W w w' : World} {lb b g nb ng : Nat} {zs zr : List Int} {L M : List EvT} {v vw vw' : Value} {e : EvT} {o : Obj} (h : Rn W w lb b g nb ng zs zr L M v vw) (hng : ng ≠ g) (hown : w'.ownsRow W.heap.size 64 6 vw' (M.length + 1) (ecells M ++ evCells e)) (hg : (w.alloc o).grownBy w' vw.ownBlock) :
    Rn W w' lb b g nb ng zs zr L (M ++ [e]) v vw' := by
  obtain ⟨_, _, a3⟩ := h.apart hng
  have hF := fr_grown hg
  refine ⟨h.log.frm hF (fun x hx he => a3 x (rowB_mem.1 he) hx) (fun i hi => (h.want.lt i (rowB_mem.1 hi)).1), rm_fr h.ref hF (fun hm => own_ne h.want h.ref.1 (by decide) hm) (fun hm => own_ne h.want h.ref.2.1 (by decide) hm), by rw [ecells_snoc, List.length_append]; exact hown⟩

set_option maxHeartbeats 3200000 in
set_option maxRecDepth 100000 in
theorem recordNotes_walk (n : Int) (vd : Value) (D : List ActT) (W : World) (hD : Acts W vd D) (hm : D.length ≤ 9223372036854775807) :
    Calls Try.prog 6 #[.int .i64 n, vd] W fun e w' => e = .returned (.bool true) ∧ Below W.heap.size W w' := by
  obtain ⟨i0, hi, hz0, hz1, hz2⟩ := info_parts rev_info
  have HD := Lib.hid hD
  obtain ⟨o2, c2, rfl, _⟩ := hD
  by_cases h1 : 50 < n
  · have d1 : decide (50 < n) = true := decide_eq_true h1
    clear h1
    go_enter Try.func6, Try.ntmps6
    go_wp2_with fail
    refine (awake23_any _).mono ?_
    rintro e w1 ⟨rfl, hB⟩
    have HB1 := Lib.hid hB
    clear hB
    go_wp2_with fail
    go_ret
    exact ⟨rfl, HB1.out⟩
  have d1 : decide (50 < n) = false := decide_eq_false h1
  clear h1
  by_cases h2 : 60 < D.length
  · have d2 : decide ((60 : Int) < D.length) = true := by simp; omega
    clear h2
    go_enter Try.func6, Try.ntmps6
    go_wp2_with fail
    refine (awake23_any _).mono ?_
    rintro e w1 ⟨rfl, hB⟩
    have HB1 := Lib.hid hB
    clear hB
    go_wp2_with fail
    go_ret
    exact ⟨rfl, HB1.out⟩
  have d2 : decide ((60 : Int) < D.length) = false := by simp; omega
  go_enter Try.func6, Try.ntmps6
  go_wp2_with fail
  refine (awake23_any _).mono ?_
  rintro e w1 ⟨rfl, hB⟩
  have HB1 := Lib.hid hB
  clear hB
  go_wp2_with fail
  refine (newPlain_any _ _).mono ?_
  rintro e w2 ⟨b, g, rfl, hP, hB, hb, hg⟩
  have HP := Lib.hid hP
  have HB2 := Lib.hid (bel_then HB1.out hB)
  have hs1 := HB1.out.size
  have hgl := hP.2.1.lt
  clear hP hB
  go_wp2_with fail
  refine (lnew_any b g _ _ HP.out).mono ?_
  rintro e w3 ⟨rfl, hL, hB, _⟩
  have hs2 := hB.size
  have HL := Lib.hid (LgN.start HB2.out (hL 0) hB HB2.out.size (by omega) (by omega))
  clear hL hB
  go_wp2_with fail
  refine (rnew_any _ _).mono ?_
  rintro e w4 ⟨nb, ng, rfl, hR, hB, hnb, hng⟩
  have HNG := Lib.hid (show ng ≠ g ∧ W.heap.size ≤ nb ∧ W.heap.size ≤ ng by have := HL.out.fr.size; omega)
  have HR0 := Lib.hid (show Rn W w4 w2.heap.size b g nb ng (actsZ (List.replicate (memn n) 0) (D.take 0)) (actsZ (List.replicate (memn n) 0) (D.take 0)) (actsE (List.replicate (memn n) 0) (D.take 0)) (actsE (List.replicate (memn n) 0) (D.take 0)) (.slice none 0 0) (.slice none 0 0) from ⟨HL.out.below hB, hR, World.ownsRow_nil _ _ _ _⟩)
  have HRT := Lib.hid (acts_right D (List.replicate (memn n) 0))
  generalize hzz : List.replicate (memn n) (0 : Int) = z0 at *
  have HZZ := Lib.hid hzz
  clear hzz
  generalize w2.heap.size = lb at *
  clear hR hB hs1 hs2 hgl hb hg hnb hng
  go_wp2_with fail
  go_loopw [8, 29] (fun vw i wr => ∃ k : Nat, k ≤ D.length ∧ i = .int .i64 k ∧ ∃ v, Rn W wr lb b g nb ng (actsZ z0 (D.take k)) (actsZ z0 (D.take k)) (actsE z0 (D.take k)) (actsE z0 (D.take k)) v vw)
    (fun _ i _ => D.length - (intOf i).toNat)
  case atStart => exact ⟨0, Nat.zero_le _, rfl, _, HR0.out⟩
  case round =>
    rename_i vw _ wr
    obtain ⟨k, hk, rfl, vl, hR⟩ := hrel
    have HR := Lib.hid hR
    clear hR HR0
    by_cases hlt : k < D.length
    · obtain ⟨_, _, e3, hd0⟩ := HD.out
      simp only [Value.slice.injEq, true_and] at e3
      obtain ⟨rfl, rfl⟩ := e3
      obtain ⟨bd, off, rfl, hd1⟩ := hd0 (by omega)
      have hd := hd1 k hlt
      have d0 := keepc hd.1 HR.out.log.fr
      have d1 := keepc hd.2.1 HR.out.log.fr
      have d2 := keepc hd.2.2.1 HR.out.log.fr
      have d3 := keepc hd.2.2.2 HR.out.log.fr
      have HZK := Lib.hid (show actsZ z0 (D.take (k + 1)) = actZ (actsZ z0 (D.take k)) (actAt D k) by rw [take_acts D k hlt, actsZ_snoc])
      have HEK := Lib.hid (show actsE z0 (D.take (k + 1)) = actsE z0 (D.take k) ++ [actE (actsZ z0 (D.take k)) (actAt D k)] by rw [take_acts D k hlt, actsE_snoc])
      have HLK := Lib.hid (show (actsE z0 (D.take k)).length ≤ 60 by rw [actsE_len, List.length_take]; omega)
      clear hd hd0 hd1
      generalize actAt D k = x at *
      generalize actsE z0 (D.take k) = L at *
      generalize actsZ z0 (D.take k) = zs at *
      have hbw : Below wr.heap.size wr (wr.alloc (.cells #[.int .i64 (kindv x.k), .int .i64 x.a, .int .u64 x.x, .int .u64 x.y] 30)) := (Below.refl _ _).alloc (Nat.le_refl _) _
      have HR1 := Lib.hid (HR.out.below hbw)
      have KX1 := Lib.hid (show Bk (wr.alloc (.cells #[.int .i64 (kindv x.k), .int .i64 x.a, .int .u64 x.x, .int .u64 x.y] 30)) wr.heap.size 30 [.int .i64 (kindv x.k), .int .i64 x.a, .int .u64 x.x, .int .u64 x.y] from Bk.new wr 30 [_, _, _, _])
      have HKN := Lib.hid (show wr.heap.size ∉ lgB lb b g vl from fun hm => by have := HR.out.log.log.lt _ hm; omega)
      clear hbw
      go_wp2_with fail
      refine (kind23_any _ _).mono ?_
      rintro e w5 ⟨rfl, rfl⟩
      go_wp2_with fail
      refine (ask23_any (kindv x.k) x.a x.x x.y 0 lb b g zs L vl _ HR1.out.log.log (by have := HLK.out; omega) (Nat.zero_le _)).mono ?_
      rintro e w6 ⟨rfl, hN⟩
      obtain ⟨v6, hR6, hF6⟩ := HR1.out.ask HNG.out.1 hN
      have HR6 := Lib.hid hR6
      have KX6 := Lib.hid (KX1.out.fr hF6 HKN.out)
      have x0 : w6.cell? ⟨wr.heap.size, 0, none⟩ = some (.int .i64 (kindv x.k)) := KX6.out.cell 0
      have x1 : w6.cell? ⟨wr.heap.size, 1, none⟩ = some (.int .i64 x.a) := KX6.out.cell 1
      have x2 : w6.cell? ⟨wr.heap.size, 2, none⟩ = some (.int .u64 x.x) := KX6.out.cell 2
      have x3 : w6.cell? ⟨wr.heap.size, 3, none⟩ = some (.int .u64 x.y) := KX6.out.cell 3
      clear hN hF6 hR6 d0 d1 d2 d3
      go_wp2_with fail
      refine (rask23_any (kindv x.k) x.a x.x x.y nb ng zs _ HR6.out.ref (kindv_in x.k)).mono ?_
      rintro e w7 ⟨rfl, hR7, hF7⟩
      have HR7 := Lib.hid (HR6.out.turn HNG.out.1 HNG.out.2.2 hR7 hF7)
      have HSZ := Lib.hid HR7.out.log.fr.size
      clear hR7 hF7 x0 x1 x2 x3
      have hev : evCells (evOf zs (kindv x.k) x.a x.x x.y) = evCells (actE zs x) := rfl
      rw [hev]
      clear hev
      rw [← show actZ zs x = actv zs (kindv x.k) x.a x.x x.y from rfl] at HR7
      have HNE := Lib.hid (show evOf zs (kindv x.k) x.a x.x x.y = actE zs x from rfl)
      rw [HNE.out] at HR7
      generalize actE zs x = y at *
      rw [show (evCells y).toArray = #[.int .i64 y.k, .int .i64 y.a, .int .u64 y.x, .int .u64 y.y, .int .u64 y.g, .bool y.ok] from rfl]
      go_wp2_with (at_builtin; refine wpList_append_own _ rfl _ _ 61 rfl W.heap.size 64 i0 (.agg #[.int .i64 0, .int .i64 0, .int .u64 0, .int .u64 0, .int .u64 0, .bool false]) 6 48 Try.underlying61 hi hz0 hz1 hz2 rfl (by decide) _ _ _ rfl (HR7.out.want.alloc _) ⟨w7.heap.size, 0, none⟩ 1 1 (evCells y) rfl rfl ?c1 ?c2 ?c3 ?c4 ?c5 ?_)
      case c1 => exact ev_new _ _ _
      case c2 => simp [evCells, Value.oneCell']
      case c3 => have := HLK.out; unfold maxLen; omega
      case c4 => have := HLK.out; omega
      case c5 => have := HSZ.out; simp; omega
      intro v' w8 hown' hgrow _
      have HR8 := Lib.hid (HR7.out.gain HNG.out.1 hown' hgrow)
      clear hown' hgrow
      go_wp2_with fail
      go_roundw
      case rel => exact ⟨k + 1, by omega, by go_num, v6, by rw [HZK.out, HEK.out]; exact HR8.out⟩
      case measure => simp [intOf]; omega
    · obtain rfl : k = D.length := by omega
      rw [List.take_length] at HR
      have HLL := Lib.hid (actsE_len D z0)
      have hL60 : (actsE z0 D).length ≤ 100000 := by rw [actsE_len]; omega
      have hL61 : (actsE z0 D).length ≤ 60 := by rw [actsE_len]; omega
      generalize actsE z0 D = L at *
      have HZ0 := Lib.hid (show rightL z0 L = true from HRT.out)
      generalize actsZ z0 D = zs at *
      have hzl : zs.length ≤ 1048576 := HR.out.log.log.mem.2.2
      have hrow := (HR.out.ref.drewN 1).row
      obtain ⟨gw, hwe, _⟩ := Evs.of_owns HR.out.want
      obtain ⟨ow, cw, rfl⟩ := hwe.len
      have HWE := Lib.hid hwe
      clear hwe HLL
      go_wp2_with fail
      refine wp_region_held_drew (S := (fun w' => w'.cell? ⟨nb, 0, none⟩ = some (.slice (some ⟨ng, 0, none⟩) zs.length zs.length) ∧ Below wr.heap.size wr w')) (by kernel_rfl) ?_ (fun hHeld => ?_)
      · exact ⟨hrow, (Below.refl _ _).drew⟩
      refine take_at 0 (v := ?_) (some 47) rfl rfl (by kernel_rfl) (by kernel_rfl) (by kernel_rfl) (fun _ _ _ h => h) (Or.inl ⟨by rfl, ?_⟩) hHeld ?_
      rotate_left
      · (intro w hSw; (try dsimp only at hSw); go_simp; (try with_reducible rfl))
      simp only [Act.put, List.setIfInBounds_toArray, List.set_cons_zero, List.set_cons_succ]
      refine take_at 2 (v := ?_) (some 49) rfl rfl (by kernel_rfl) (by kernel_rfl) (by kernel_rfl) (fun _ _ _ h => h) (Or.inl ⟨by rfl, ?_⟩) hHeld ?_
      rotate_left
      · (intro w hSw; (try dsimp only at hSw); go_simp; (try with_reducible rfl))
      simp only [Act.put, List.setIfInBounds_toArray, List.set_cons_zero, List.set_cons_succ]
      refine wpAnyH_ready (rs := [1]) (by kernel_rfl) (by simp) ?_
      refine AllReadyH.cons rfl (fun K hK => ?_) AllReadyH.nil
      go_simp
      go_at_call 40; go_split_ands; refine (levents_any 0 lb b g zs L vl _ (HR.out.log.log.below (show Below wr.heap.size wr _ by assumption)) hL60).mono ?_; rintro e v1 ⟨ve, rfl, hO, hB⟩; obtain ⟨ge, he, _⟩ := Evs.of_owns hO; have HE := Lib.hid he; clear hO he
      go_wp2_with fail
      refine hK.out _ _ ?_ (fun hHeld => ?_)
      · (try dsimp only at hHeld ⊢)
        go_split_ands
        exact ⟨keepc (by assumption) hB, bel_then (by assumption) hB⟩
      clear hK K hB
      try simp only [Act.put, List.setIfInBounds_toArray, List.set_cons_zero, List.set_cons_succ]
      refine wpAnyH_ready (rs := [3]) (by kernel_rfl) (by simp) ?_
      refine AllReadyH.cons rfl (fun K hK => ?_) AllReadyH.nil
      go_simp
      go_at_call 39; go_split_ands; refine (evsame_any _ _ L L ge gw _ HE.out (HWE.out.below (show Below wr.heap.size wr _ by assumption)) hL60 (by omega)).mono ?_; rintro e v2 ⟨rfl, hB⟩; rw [decide_eq_true (rfl : L = L)]
      go_wp2_with fail
      refine hK.out _ _ ?_ (fun hHeld => ?_)
      · (try dsimp only at hHeld ⊢)
        go_split_ands
        exact ⟨keepc (by assumption) hB, bel_then (by assumption) hB⟩
      clear hK K hB
      try simp only [Act.put, List.setIfInBounds_toArray, List.set_cons_zero, List.set_cons_succ]
      refine take_at 4 (v := ?_) (some 51) rfl rfl (by kernel_rfl) (by kernel_rfl) (by kernel_rfl) (fun _ _ _ h => h) (Or.inl ⟨by rfl, ?_⟩) hHeld ?_
      rotate_left
      · (intro w hSw; (try dsimp only at hSw); go_simp; (try with_reducible rfl))
      simp only [Act.put, List.setIfInBounds_toArray, List.set_cons_zero, List.set_cons_succ]
      refine take_at 5 (v := ?_) (some 52) rfl rfl (by kernel_rfl) (by kernel_rfl) (by kernel_rfl) (fun _ _ _ h => h) (Or.inl ⟨by rfl, ?_⟩) hHeld ?_
      rotate_left
      · (intro w hSw; (try dsimp only at hSw); go_simp; (try with_reducible rfl))
      simp only [Act.put, List.setIfInBounds_toArray, List.set_cons_zero, List.set_cons_succ]
      refine take_at 7 (v := ?_) (some 54) rfl rfl (by kernel_rfl) (by kernel_rfl) (by kernel_rfl) (fun _ _ _ h => h) (Or.inl ⟨by rfl, ?_⟩) hHeld ?_
      rotate_left
      · (intro w hSw; (try dsimp only at hSw); go_simp; (try with_reducible rfl))
      simp only [Act.put, List.setIfInBounds_toArray, List.set_cons_zero, List.set_cons_succ]
      refine take_at 8 (v := ?_) (some 55) rfl rfl (by kernel_rfl) (by kernel_rfl) (by kernel_rfl) (fun _ _ _ h => h) (Or.inl ⟨by rfl, ?_⟩) hHeld ?_
      rotate_left
      · (intro w hSw; (try dsimp only at hSw); go_simp; (try with_reducible rfl))
      simp only [Act.put, List.setIfInBounds_toArray, List.set_cons_zero, List.set_cons_succ]
      refine wpAnyH_ready (rs := [6]) (by kernel_rfl) (by simp) ?_
      refine AllReadyH.cons rfl (fun K hK => ?_) AllReadyH.nil
      go_simp
      go_at_call 31; go_split_ands; refine (lcount_any 0 lb b g zs L vl _ (HR.out.log.log.below (show Below wr.heap.size wr _ by assumption))).mono ?_; rintro e v3 ⟨rfl, hww⟩; subst v3; have hB := Below.refl v2.heap.size v2
      go_wp2_with fail
      refine hK.out _ _ ?_ (fun hHeld => ?_)
      · (try dsimp only at hHeld ⊢)
        go_split_ands
        exact ⟨keepc (by assumption) hB, bel_then (by assumption) hB⟩
      clear hK K hB
      try simp only [Act.put, List.setIfInBounds_toArray, List.set_cons_zero, List.set_cons_succ]
      refine take_at 9 (v := ?_) (some 56) rfl rfl (by kernel_rfl) (by kernel_rfl) (by kernel_rfl) (fun _ _ _ h => h) (Or.inl ⟨by rfl, ?_⟩) hHeld ?_
      rotate_left
      · (intro w hSw; (try dsimp only at hSw); go_simp; (try with_reducible rfl))
      simp only [Act.put, List.setIfInBounds_toArray, List.set_cons_zero, List.set_cons_succ]
      try simp only [beq_self_eq_true]
      refine take_at 10 (v := ?_) (some 57) rfl rfl (by kernel_rfl) (by kernel_rfl) (by kernel_rfl) (fun _ _ _ h => h) (Or.inl ⟨by rfl, ?_⟩) hHeld ?_
      rotate_left
      · (intro w hSw; (try dsimp only at hSw); go_simp; (try with_reducible rfl))
      simp only [Act.put, List.setIfInBounds_toArray, List.set_cons_zero, List.set_cons_succ]
      refine take_at 11 (v := ?_) (some 58) rfl rfl (by kernel_rfl) (by kernel_rfl) (by kernel_rfl) (fun _ _ _ h => h) (Or.inl ⟨by rfl, ?_⟩) hHeld ?_
      rotate_left
      · (intro w hSw; (try dsimp only at hSw); go_simp; (try with_reducible rfl))
      simp only [Act.put, List.setIfInBounds_toArray, List.set_cons_zero, List.set_cons_succ]
      refine take_at 12 (v := ?_) (some 59) rfl rfl (by kernel_rfl) (by kernel_rfl) (by kernel_rfl) (fun _ _ _ h => h) (Or.inl ⟨by rfl, ?_⟩) hHeld ?_
      rotate_left
      · (intro w hSw; (try dsimp only at hSw); go_simp; (try with_reducible rfl))
      simp only [Act.put, List.setIfInBounds_toArray, List.set_cons_zero, List.set_cons_succ]
      refine take_at 14 (v := ?_) (some 61) rfl rfl (by kernel_rfl) (by kernel_rfl) (by kernel_rfl) (fun _ _ _ h => h) (Or.inl ⟨by rfl, ?_⟩) hHeld ?_
      rotate_left
      · (intro w hSw; (try dsimp only at hSw); go_simp; (try with_reducible rfl))
      simp only [Act.put, List.setIfInBounds_toArray, List.set_cons_zero, List.set_cons_succ]
      refine wpAnyH_ready (rs := [13]) (by kernel_rfl) (by simp) ?_
      refine AllReadyH.cons rfl (fun K hK => ?_) AllReadyH.nil
      go_simp
      go_at_call 41; go_split_ands; refine (llen_any 0 lb b g zs L vl _ (HR.out.log.log.below (show Below wr.heap.size wr _ by assumption))).mono ?_; rintro e v3 ⟨rfl, hww⟩; subst v3; have hB := Below.refl v2.heap.size v2
      go_wp2_with fail
      refine hK.out _ _ ?_ (fun hHeld => ?_)
      · (try dsimp only at hHeld ⊢)
        go_split_ands
        exact ⟨keepc (by assumption) hB, bel_then (by assumption) hB⟩
      clear hK K hB
      try simp only [Act.put, List.setIfInBounds_toArray, List.set_cons_zero, List.set_cons_succ]
      refine wpAnyH_ready (rs := [15]) (by kernel_rfl) (by simp) ?_
      refine AllReadyH.cons rfl (fun K hK => ?_) AllReadyH.nil
      go_simp
      go_at_call 21; go_split_ands; refine (plen_any b g zs _ (HR.out.log.log.mem.below (show Below wr.heap.size wr _ by assumption))).mono ?_; rintro e v3 ⟨rfl, hww⟩; subst v3; have hB := Below.refl v2.heap.size v2
      go_wp2_with fail
      refine hK.out _ _ ?_ (fun hHeld => ?_)
      · (try dsimp only at hHeld ⊢)
        go_split_ands
        exact ⟨keepc (by assumption) hB, bel_then (by assumption) hB⟩
      clear hK K hB
      try simp only [Act.put, List.setIfInBounds_toArray, List.set_cons_zero, List.set_cons_succ]
      refine take_at 16 (v := ?_) (some 63) rfl rfl (by kernel_rfl) (by kernel_rfl) (by kernel_rfl) (fun _ _ _ h => h) (Or.inl ⟨by rfl, ?_⟩) hHeld ?_
      rotate_left
      · (intro w hSw; (try dsimp only at hSw); go_simp; (try with_reducible rfl))
      simp only [Act.put, List.setIfInBounds_toArray, List.set_cons_zero, List.set_cons_succ]
      try simp only [beq_self_eq_true]
      refine take_at 17 (v := ?_) (some 64) rfl rfl (by kernel_rfl) (by kernel_rfl) (by kernel_rfl) (fun _ _ _ h => h) (Or.inl ⟨by rfl, ?_⟩) hHeld ?_
      rotate_left
      · (intro w hSw; (try dsimp only at hSw); go_simp; (try with_reducible rfl))
      simp only [Act.put, List.setIfInBounds_toArray, List.set_cons_zero, List.set_cons_succ]
      refine take_at 18 (v := ?_) (some 65) rfl rfl (by kernel_rfl) (by kernel_rfl) (by kernel_rfl) (fun _ _ _ h => h) (Or.inl ⟨by rfl, ?_⟩) hHeld ?_
      rotate_left
      · (intro w hSw; (try dsimp only at hSw); go_simp; (try with_reducible rfl))
      simp only [Act.put, List.setIfInBounds_toArray, List.set_cons_zero, List.set_cons_succ]
      refine take_at 19 (v := ?_) (some 66) rfl rfl (by kernel_rfl) (by kernel_rfl) (by kernel_rfl) (fun _ _ _ h => h) (Or.inl ⟨by rfl, ?_⟩) hHeld ?_
      rotate_left
      · (intro w hSw; (try dsimp only at hSw); go_simp; (try with_reducible rfl))
      simp only [Act.put, List.setIfInBounds_toArray, List.set_cons_zero, List.set_cons_succ]
      refine take_at 20 (v := ?_) (some 67) rfl rfl (by kernel_rfl) (by kernel_rfl) (by kernel_rfl) (fun _ _ _ h => h) (Or.inl ⟨by rfl, ?_⟩) hHeld ?_
      rotate_left
      · (intro w hSw; (try dsimp only at hSw); go_simp; (try with_reducible rfl))
      simp only [Act.put, List.setIfInBounds_toArray, List.set_cons_zero, List.set_cons_succ]
      refine wpAnyH_ready (rs := [21]) (by kernel_rfl) (by simp) ?_
      refine AllReadyH.cons rfl (fun K hK => ?_) AllReadyH.nil
      go_simp
      go_at_call 40; go_split_ands; refine (levents_any 0 lb b g zs L vl _ (HR.out.log.log.below (show Below wr.heap.size wr _ by assumption)) hL60).mono ?_; rintro e v4 ⟨vf, rfl, hO, hB⟩; obtain ⟨gf, he, _⟩ := Evs.of_owns hO; have HE2 := Lib.hid he; clear hO he
      go_wp2_with fail
      refine hK.out _ _ ?_ (fun hHeld => ?_)
      · (try dsimp only at hHeld ⊢)
        go_split_ands
        exact ⟨keepc (by assumption) hB, bel_then (by assumption) hB⟩
      clear hK K hB
      try simp only [Act.put, List.setIfInBounds_toArray, List.set_cons_zero, List.set_cons_succ]
      refine wpAnyH_ready (rs := [22]) (by kernel_rfl) (by simp) ?_
      refine AllReadyH.cons rfl (fun K hK => ?_) AllReadyH.nil
      go_simp
      go_at_call 42; go_split_ands; refine (pright_any n _ L gf _ HE2.out (by omega)).mono ?_; rintro e v5 ⟨rfl, hB⟩; rw [HZZ.out, HRT.out]
      go_wp2_with fail
      refine hK.out _ _ ?_ (fun hHeld => ?_)
      · (try dsimp only at hHeld ⊢)
        go_split_ands
        exact ⟨keepc (by assumption) hB, bel_then (by assumption) hB⟩
      clear hK K hB
      try simp only [Act.put, List.setIfInBounds_toArray, List.set_cons_zero, List.set_cons_succ]
      refine take_at 23 (v := ?_) (some 70) rfl rfl (by kernel_rfl) (by kernel_rfl) (by kernel_rfl) (fun _ _ _ h => h) (Or.inl ⟨by rfl, ?_⟩) hHeld ?_
      rotate_left
      · (intro w hSw; (try dsimp only at hSw); go_simp; (try with_reducible rfl))
      simp only [Act.put, List.setIfInBounds_toArray, List.set_cons_zero, List.set_cons_succ]
      refine take_at 24 (v := ?_) (some 71) rfl rfl (by kernel_rfl) (by kernel_rfl) (by kernel_rfl) (fun _ _ _ h => h) (Or.inl ⟨by rfl, ?_⟩) hHeld ?_
      rotate_left
      · (intro w hSw; (try dsimp only at hSw); go_simp; (try with_reducible rfl))
      simp only [Act.put, List.setIfInBounds_toArray, List.set_cons_zero, List.set_cons_succ]
      refine take_at 25 (v := ?_) (some 72) rfl rfl (by kernel_rfl) (by kernel_rfl) (by kernel_rfl) (fun _ _ _ h => h) (Or.inl ⟨by rfl, ?_⟩) hHeld ?_
      rotate_left
      · (intro w hSw; (try dsimp only at hSw); go_simp; (try with_reducible rfl))
      simp only [Act.put, List.setIfInBounds_toArray, List.set_cons_zero, List.set_cons_succ]
      refine take_at 26 (v := ?_) (some 73) rfl rfl (by kernel_rfl) (by kernel_rfl) (by kernel_rfl) (fun _ _ _ h => h) (Or.inl ⟨by rfl, ?_⟩) hHeld ?_
      rotate_left
      · (intro w hSw; (try dsimp only at hSw); go_simp; (try with_reducible rfl))
      simp only [Act.put, List.setIfInBounds_toArray, List.set_cons_zero, List.set_cons_succ]
      refine take_at 28 (v := ?_) (some 75) rfl rfl (by kernel_rfl) (by kernel_rfl) (by kernel_rfl) (fun _ _ _ h => h) (Or.inl ⟨by rfl, ?_⟩) hHeld ?_
      rotate_left
      · (intro w hSw; (try dsimp only at hSw); go_simp; (try with_reducible rfl))
      simp only [Act.put, List.setIfInBounds_toArray, List.set_cons_zero, List.set_cons_succ]
      refine take_at 29 (v := ?_) (some 76) rfl rfl (by kernel_rfl) (by kernel_rfl) (by kernel_rfl) (fun _ _ _ h => h) (Or.inl ⟨by rfl, ?_⟩) hHeld ?_
      rotate_left
      · (intro w hSw; (try dsimp only at hSw); go_simp; (try with_reducible rfl))
      simp only [Act.put, List.setIfInBounds_toArray, List.set_cons_zero, List.set_cons_succ]
      refine take_at 30 (v := ?_) (some 77) rfl rfl (by kernel_rfl) (by kernel_rfl) (by kernel_rfl) (fun _ _ _ h => h) (Or.inl ⟨by rfl, ?_⟩) hHeld ?_
      rotate_left
      · (intro w hSw; (try dsimp only at hSw); go_simp; (try with_reducible rfl))
      simp only [Act.put, List.setIfInBounds_toArray, List.set_cons_zero, List.set_cons_succ]
      refine take_at 31 (v := ?_) (some 78) rfl rfl (by kernel_rfl) (by kernel_rfl) (by kernel_rfl) (fun _ _ _ h => h) (Or.inl ⟨by rfl, ?_⟩) hHeld ?_
      rotate_left
      · (intro w hSw; (try dsimp only at hSw); go_simp; (try with_reducible rfl))
      simp only [Act.put, List.setIfInBounds_toArray, List.set_cons_zero, List.set_cons_succ]
      refine wpAnyH_ready (rs := [27]) (by kernel_rfl) (by simp) ?_
      refine AllReadyH.cons rfl (fun K hK => ?_) AllReadyH.nil
      go_simp
      go_at_call 23; go_split_ands; refine (all_any b g zs _ (HR.out.log.log.mem.below (show Below wr.heap.size wr _ by assumption))).mono ?_; rintro e v6 ⟨va, rfl, hU, hB⟩; have HU := Lib.hid hU; clear hU
      go_wp2_with fail
      refine hK.out _ _ ?_ (fun hHeld => ?_)
      · (try dsimp only at hHeld ⊢)
        go_split_ands
        exact ⟨keepc (by assumption) hB, bel_then (by assumption) hB⟩
      clear hK K hB
      try simp only [Act.put, List.setIfInBounds_toArray, List.set_cons_zero, List.set_cons_succ]
      refine wpAnyH_ready (rs := [32]) (by kernel_rfl) (by simp) ?_
      refine AllReadyH.cons rfl (fun K hK => ?_) AllReadyH.nil
      go_simp
      go_at_call 22; go_split_ands; refine (us_any _ _ zs zs _ HU.out (Us.of_bk (HR.out.ref.below (show Below wr.heap.size wr _ by assumption)).2.1 _) (by omega) (by omega)).mono ?_; rintro e v7 ⟨rfl, nq, hww⟩; subst v7; have hB := bel_drewN (Below.refl v6.heap.size v6) nq; rw [decide_eq_true (rfl : zs = zs)]
      go_wp2_with fail
      refine hK.out _ _ ?_ (fun hHeld => ?_)
      · (try dsimp only at hHeld ⊢)
        go_split_ands
        exact ⟨keepc (by assumption) hB, bel_then (by assumption) hB⟩
      clear hK K hB
      try simp only [Act.put, List.setIfInBounds_toArray, List.set_cons_zero, List.set_cons_succ]
      refine take_at 33 (v := ?_) (some 80) rfl rfl (by kernel_rfl) (by kernel_rfl) (by kernel_rfl) (fun _ _ _ h => h) (Or.inl ⟨by rfl, ?_⟩) hHeld ?_
      rotate_left
      · (intro w hSw; (try dsimp only at hSw); go_simp; (try with_reducible rfl))
      simp only [Act.put, List.setIfInBounds_toArray, List.set_cons_zero, List.set_cons_succ]
      refine take_at 34 (v := ?_) (some 4) rfl rfl (by kernel_rfl) (by kernel_rfl) (by kernel_rfl) (fun _ _ _ h => h) (Or.inl ⟨by rfl, ?_⟩) hHeld ?_
      rotate_left
      · (intro w hSw; (try dsimp only at hSw); go_simp; (try with_reducible rfl))
      simp only [Act.put, List.setIfInBounds_toArray, List.set_cons_zero, List.set_cons_succ]
      refine wpAnyH_done (by kernel_rfl) ?_ _
      go_split_ands
      have HBF := Lib.hid (show Below wr.heap.size wr _ from by assumption)
      go_wp2_with fail
      go_ret
      exact ⟨ret_bool (by simp), bel_then HR.out.log.fr HBF.out⟩


end Go.Proofs.Ythidinalhbnmmaa
