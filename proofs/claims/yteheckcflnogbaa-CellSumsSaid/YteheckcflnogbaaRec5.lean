/-
  soughlaw23.RecordNotes: its walk. Written by wip/gen/mkrec5.py.
-/
import Derived.Test.YteheckcflnogbaaRec4
import Derived.Test.YteheckcflnogbaaTake
namespace Go.Proofs.Yteheckcflnogbaa
open Go.RowKit

theorem own_apart {w : World} {base base' e e' s s' : Nat} {v v' : Value} {n n' : Nat} {xs xs' : List Value} (h : w.ownsRow base e s v n xs) (h' : w.ownsRow base' e' s' v' n' xs') (hne : e ≠ e') : ∀ k ∈ rowB v, k ∉ rowB v' := by
  intro k hk hk'
  have hk := rowB_mem.1 hk
  have hk' := rowB_mem.1 hk'
  obtain ⟨_, ⟨rfl, _⟩ | ⟨g, cap, cur, rfl, _, hh, _⟩⟩ := h
  · cases hk
  obtain ⟨_, ⟨rfl, _⟩ | ⟨g', cap', cur', rfl, _, hh', _⟩⟩ := h'
  · cases hk'
  injection hk with hk
  injection hk' with hk'
  subst hk hk'
  rw [hh] at hh'
  injection hh' with hh'
  injection hh' with _ h2
  exact hne h2
theorem fr_grown {w w' : World} {o : Obj} {v : Value} (h : (w.alloc o).grownBy w' v.ownBlock) : Fr (rowB v) w w' :=
  ((Fr.refl (rowB v) w).alloc o).trans ⟨h.os, h.tape, h.output, h.size, fun k hk hn => h.block k hk (fun he => hn (rowB_mem.2 he.symm))⟩
theorem LgN.frm {S : List Nat} {W w w' : World} {lb b g : Nat} {zs : List Int} {L : List EvT} {v : Value} (h : LgN W w lb b g zs L v) (k : Fr S w w') (hS : ∀ x ∈ lgB lb b g v, x ∉ S) (hW : ∀ i ∈ S, W.heap.size ≤ i) : LgN W w' lb b g zs L v :=
  ⟨h.log.fr k hS, h.new, ((Fr.of (S := []) h.fr).from k (fun i hi hl => by have := hW i hi; omega)).below⟩

/-- What an operation does, and is noted as. -/
def actZ (zs : List Int) (x : ActT) : List Int := actv zs (kindv x.k) x.a x.x x.y
def actE (zs : List Int) (x : ActT) : EvT := evOf zs (kindv x.k) x.a x.x x.y
def actsZ (zs : List Int) (D : List ActT) : List Int := D.foldl actZ zs
def actsE : List Int → List ActT → List EvT
  | _, [] => []
  | zs, x :: t => actE zs x :: actsE (actZ zs x) t
theorem actsZ_snoc (zs : List Int) (D : List ActT) (x : ActT) : actsZ zs (D ++ [x]) = actZ (actsZ zs D) x := by unfold actsZ; rw [List.foldl_append]; rfl
theorem actsE_snoc (D : List ActT) : ∀ (zs : List Int) (x : ActT), actsE zs (D ++ [x]) = actsE zs D ++ [actE (actsZ zs D) x] := by
  induction D with
  | nil => intro zs x; rfl
  | cons y t ih => intro zs x; show actE zs y :: actsE (actZ zs y) (t ++ [x]) = actE zs y :: (actsE (actZ zs y) t ++ [actE (actsZ (actZ zs y) t) x]); rw [ih]
theorem actsE_len (D : List ActT) : ∀ zs, (actsE zs D).length = D.length := by
  induction D with
  | nil => intro zs; rfl
  | cons y t ih => intro zs; show (actsE _ t).length + 1 = t.length + 1; rw [ih]
theorem kindv_in (k : Int) : 1 ≤ kindv k ∧ kindv k ≤ 4 := by unfold kindv; split <;> omega
theorem act_right (zs : List Int) (x : ActT) : rightE zs (actE zs x) = true ∧ stepZ zs (actE zs x) = actZ zs x := by
  obtain ⟨h1, h2⟩ := kindv_in x.k
  unfold rightE stepZ actE actZ
  generalize kindv x.k = k at *
  rcases (show k = 1 ∨ k = 2 ∨ k = 3 ∨ k = 4 by omega) with rfl | rfl | rfl | rfl <;> simp [evOf, actv, casv]
theorem acts_right (D : List ActT) : ∀ zs, rightL zs (actsE zs D) = true := by
  induction D with
  | nil => intro zs; rfl
  | cons y t ih => intro zs; show (rightE zs (actE zs y) && rightL (stepZ zs (actE zs y)) (actsE (actZ zs y) t)) = true; rw [(act_right zs y).1, (act_right zs y).2, ih]; rfl
theorem take_acts (D : List ActT) (k : Nat) (h : k < D.length) : D.take (k + 1) = D.take k ++ [actAt D k] := by
  rw [List.take_succ_eq_append_getElem h]
  simp [actAt, h]

theorem rev_info : (Try.prog.info? 49).map (fun i => (i.zero, i.size, i.bytes)) = some (some (.agg #[.int .i64 0, .int .i64 0, .int .u64 0, .int .u64 0, .int .u64 0, .bool false]), 6, 48) := by kernel_rfl
/-- What holds at each round. -/
structure Rn (W w : World) (lb b g nb ng : Nat) (zs zr : List Int) (L M : List EvT) (v vw : Value) : Prop where
  log : LgN W w lb b g zs L v
  ref : Rm w nb ng zr
  want : w.ownsRow W.heap.size 49 6 vw M.length (ecells M)
theorem Rn.below {W w w' : World} {lb b g nb ng : Nat} {zs zr : List Int} {L M : List EvT} {v vw : Value} (h : Rn W w lb b g nb ng zs zr L M v vw) (k : Below w.heap.size w w') : Rn W w' lb b g nb ng zs zr L M v vw :=
  ⟨h.log.below k, h.ref.below k, own_below h.want k⟩
theorem Rn.apart {W w : World} {lb b g nb ng : Nat} {zs zr : List Int} {L M : List EvT} {v vw : Value} (h : Rn W w lb b g nb ng zs zr L M v vw) (hng : ng ≠ g) : nb ∉ lgB lb b g v ∧ ng ∉ lgB lb b g v ∧ ∀ k, vw.ownBlock = some k → k ∉ lgB lb b g v := by
  refine ⟨?_, ?_, fun k hk hm => ?_⟩
  · simp only [lgB, List.mem_cons, not_or]
    exact ⟨h.ref.1.ne h.log.log.box (by decide), h.ref.1.ne h.log.log.mem.1 (by decide), h.ref.1.ne h.log.log.mem.2.1 (by decide), own_ne h.log.log.row h.ref.1 (by decide)⟩
  · simp only [lgB, List.mem_cons, not_or]
    exact ⟨h.ref.2.1.ne h.log.log.box (by decide), h.ref.2.1.ne h.log.log.mem.1 (by decide), hng, own_ne h.log.log.row h.ref.2.1 (by decide)⟩
  · have hk := rowB_mem.2 hk
    simp only [lgB, List.mem_cons] at hm
    rcases hm with rfl | rfl | rfl | hm
    · exact own_ne h.want h.log.log.box (by decide) hk
    · exact own_ne h.want h.log.log.mem.1 (by decide) hk
    · exact own_ne h.want h.log.log.mem.2.1 (by decide) hk
    · exact own_apart h.log.log.row h.want (by decide) k hm hk
theorem Rn.ask {W w w' : World} {lb b g nb ng : Nat} {zs zr zs' : List Int} {L M : List EvT} {v vw : Value} {e : EvT} (h : Rn W w lb b g nb ng zs zr L M v vw) (hng : ng ≠ g) (hN : Noted w w' 0 lb b g zs' L v e) :
    ∃ v', Rn W w' lb b g nb ng zs' zr (L ++ [e]) M v' vw ∧ Fr (lgB lb b g v) w w' := by
  obtain ⟨v', h1, hF, _⟩ := h.log.noted hN
  obtain ⟨a1, a2, a3⟩ := h.apart hng
  exact ⟨v', ⟨h1, rm_fr h.ref hF a1 a2, own_fr h.want hF a3⟩, hF⟩
theorem Rn.turn {W w w' : World} {lb b g nb ng : Nat} {zs zr zr' : List Int} {L M : List EvT} {v vw : Value} (h : Rn W w lb b g nb ng zs zr L M v vw) (hng : ng ≠ g) (hn : W.heap.size ≤ ng) (hR : Rm w' nb ng zr') (hF : Fr [ng] w w') : Rn W w' lb b g nb ng zs zr' L M v vw := by
  obtain ⟨_, a2, _⟩ := h.apart hng
  refine ⟨h.log.frm hF (fun x hx he => a2 (List.mem_singleton.1 he ▸ hx)) (fun i hi => by rw [List.mem_singleton.1 hi]; exact hn), hR, own_fr h.want hF (fun k hk he => own_ne h.want h.ref.2.1 (by decide) (by rw [← List.mem_singleton.1 he]; exact rowB_mem.2 hk))⟩
theorem Rn.gain {W w w' : World} {lb b g nb ng : Nat} {zs zr : List Int} {L M : List EvT} {v vw vw' : Value} {e : EvT} {o : Obj} (h : Rn W w lb b g nb ng zs zr L M v vw) (hng : ng ≠ g) (hown : w'.ownsRow W.heap.size 49 6 vw' (M.length + 1) (ecells M ++ evCells e)) (hg : (w.alloc o).grownBy w' vw.ownBlock) :
    Rn W w' lb b g nb ng zs zr L (M ++ [e]) v vw' := by
  obtain ⟨_, _, a3⟩ := h.apart hng
  have hF := fr_grown hg
  refine ⟨h.log.frm hF (fun x hx he => a3 x (rowB_mem.1 he) hx) (fun i hi => (h.want.lt i (rowB_mem.1 hi)).1), rm_fr h.ref hF (fun hm => own_ne h.want h.ref.1 (by decide) hm) (fun hm => own_ne h.want h.ref.2.1 (by decide) hm), by rw [ecells_snoc, List.length_append]; exact hown⟩



end Go.Proofs.Yteheckcflnogbaa
