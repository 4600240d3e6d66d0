/-
  soughlaw17.SystemChecks: its walk. Written by wip/gen/mksys9.py.
-/
import Derived.Test.YtfeipfemknnhhaaSys8
namespace Go.Proofs.Ytfeipfemknnhhaa
open Go.RowKit

theorem out_bad {s : SysT} {v : Int} {a : List Nat} (h : checkV s v ≠ 0) : outC s v a = checkV s v ∧ outL s v a = [] := by
  unfold outC outL
  rw [if_neg h, if_neg h]
  exact ⟨rfl, rfl⟩
theorem out_dom {s : SysT} {v : Int} {a : List Nat} (h : checkV s v = 0) (hv : valueE s.what s.width a = false) : outC s v a = 2 ∧ outL s v a = [] := by
  obtain ⟨h0, hn⟩ := cv_zero h
  have ok := okS_of h0
  have hn := nodeE_iff.1 hn
  have hc := ok.tr v.toNat (by have := ok.tl; omega)
  have e : applyC s.what s.width (trAt s.T v.toNat).g (trAt s.T v.toNat).k (trAt s.T v.toNat).l a = 2 := by unfold applyC; rw [if_pos hc, hv, if_neg (by decide)]
  unfold outC outL
  rw [if_pos h, if_pos h]
  refine ⟨e, ?_⟩
  unfold applyR
  rw [e, if_neg (by decide)]
theorem out_ok {s : SysT} {v : Int} {a : List Nat} (h : checkV s v = 0) (hv : valueE s.what s.width a = true) : outC s v a = 0 ∧ outL s v a = applyT s v.toNat a := by
  obtain ⟨h0, hn⟩ := cv_zero h
  have ok := okS_of h0
  have hn := nodeE_iff.1 hn
  have hc := ok.tr v.toNat (by have := ok.tl; omega)
  unfold outC outL
  rw [if_pos h, if_pos h]
  exact ⟨apply_zero hc hv, by rw [apply_is hc hv]; rfl⟩



end Go.Proofs.Ytfeipfemknnhhaa
