/-
  A slice of structs of ints that came in: its cells.
-/
import Derived.Test.YteheckcflnogbaaKit
import Derived.Deep.Slices
import Derived.Deep.Fields
import Derived.ChangeSame
namespace Go.Proofs.Yteheckcflnogbaa
open Go.RowKit Go.ChangeShapes Go.WideShapes

theorem spot_of {w : World} {a : Addr} {v : Value} (h : w.cell? a = some v) : a.spot = none := (World.shape?_of_cell? h).choose_spec.choose_spec.2.2
theorem add_plain (a : Addr) (n : Nat) (h : a.spot = none) : a.add n = ⟨a.block, a.off + n, none⟩ := by
  obtain ⟨b, o, s⟩ := a
  simp at h
  subst h
  unfold Addr.add
  split
  · rename_i e; subst e; rfl
  · rfl

theorem rows_ints {H : Type} {enc : TypeId × Value → H} {P : Program} {w : World} {base : Nat} {spare : Nat → Bool} {held : Bool} {t e : TypeId} {fs : Array Field} {fuel : Nat} {cs : List Value} {x : DataW H × List MemPlace}
    (ht : P.underlying t = some (.slice e)) (he : P.underlying e = some (.struct fs)) (hone : Go.Deep.oneCellFields P fs = true) (hC : P.cellsOf e = fs.size) (h0 : 0 < fs.size) (h : DataW.trod enc P w base spare held fuel t cs = some x) :
    cs = [.slice none 0 0] ∨ ∃ (a : Addr) (len cap : Nat), cs = [.slice (some a) len cap] ∧ len ≤ cap ∧ cap ≤ maxLen ∧
      ∀ i, i < len → a.spot = none ∧ ∀ (j : Nat) (f : Field) (k : IntKind), fs[j]? = some f → P.underlying f.type = some (.int k) → ∃ n : Int, w.cell? ⟨a.block, a.off + i * fs.size + j, none⟩ = some (.int k n) ∧ (Lit.int k n).wf = true := by
  rcases Go.Deep.open_slice ht h with h1 | ⟨a, len, cap, m, n, D, Pl, hcs, hb, hl, hm, hmm, hx, hi⟩
  · exact .inl h1.1
  have hsp : 0 < len → a.spot = none := fun hlt => by
    have him : 0 < m := by rw [hmm]; split <;> omega
    obtain ⟨cs', hc, ht'⟩ := hi 0 him
    rw [hC] at hc
    obtain ⟨_, hcl, hat⟩ := World.cells?_some hc
    have hfirst := hat 0 h0
    rw [List.getElem?_eq_getElem (by omega)] at hfirst
    have := spot_of hfirst
    simpa [Addr.add] using this
  refine .inr ⟨a, len, cap, hcs, hl, hm, fun i hlt => ⟨hsp (by omega), fun j f k hj hk => ?_⟩⟩
  have him : i < m := by rw [hmm]; split <;> omega
  obtain ⟨cs', hc, ht'⟩ := hi i him
  rw [hC] at hc
  obtain ⟨ys, n', hn', hy, hlen, hyl, hf⟩ := DataW.trod_struct he ht'
  obtain ⟨_, hcl, hat⟩ := World.cells?_some hc
  obtain ⟨ho, hk1⟩ := Go.Deep.hone_of hone j f hj
  have hjl : j < fs.size := (Array.getElem?_eq_some_iff.1 hj).1
  have h1 := hf j f hj
  rw [ho, hk1] at h1
  have e1 : (cs'.drop j).take 1 = [cs'[j]'(by omega)] := by
    rw [List.drop_eq_getElem_cons (by omega)]
    rfl
  rw [e1, List.getElem?_eq_getElem (show j < ys.length by omega)] at h1
  obtain ⟨z, hz, _, hw⟩ := DataW.trod_int hk h1
  refine ⟨z, ?_, hw⟩
  have hcell := hat j hjl
  rw [Go.Deep.add_add, add_plain _ _ (hsp (by omega)), List.getElem?_eq_getElem (show j < cs'.length by omega)] at hcell
  rw [Nat.add_assoc, hcell]
  simp only [List.cons.injEq, and_true] at hz
  rw [hz]

end Go.Proofs.Yteheckcflnogbaa
