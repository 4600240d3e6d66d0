/-
  A slice of ints that came in, as a list; a block written from its beginning on.
-/
import Derived.Test.YteheckcflnogbaaBlk
import Derived.Test.YteheckcflnogbaaOpenS
import Derived.Laws.IdiomCopy
namespace Go.Proofs.Yteheckcflnogbaa
open Go.RowKit

def intAt (L : List Int) (j : Nat) : Int := L[j]?.getD 0
/-- A slice of ints reads as a list. -/
def Nums (w : World) (v : Value) (L : List Int) : Prop :=
  ∃ o c, v = .slice o L.length c ∧ L.length ≤ c ∧ (0 < L.length → ∃ b off, o = some ⟨b, off, none⟩ ∧ ∀ j, j < L.length → w.cell? ⟨b, off + j, none⟩ = some (.int .i64 (intAt L j)))
theorem Nums.below {w w' : World} {v : Value} {L : List Int} (h : Nums w v L) (hB : Below w.heap.size w w') : Nums w' v L := by
  obtain ⟨o, c, rfl, hle, hc⟩ := h
  refine ⟨o, c, rfl, hle, fun h0 => ?_⟩
  obtain ⟨b, f, rfl, hd⟩ := hc h0
  exact ⟨b, f, rfl, fun j hj => keepc (hd j hj) hB⟩

set_option maxRecDepth 100000 in
theorem nums_of {H : Type} {enc : TypeId × Value → H} {w : World} {base : Nat} {spare : Nat → Bool} {held : Bool} {fuel : Nat} {o : Option Addr} {n c : Nat} {x : DataW H × List MemPlace}
    (h : DataW.trod enc Try.prog w base spare held fuel 46 [.slice o n c] = some x) : ∃ L, Nums w (.slice o n c) L ∧ L.length ≤ maxLen := by
  rcases Go.Deep.open_slice Try.underlying46 h with h | ⟨a, len, cap, m, k, D, Pl, hcs, hb, hl, hm, hmm, hx, hi⟩
  · have h := h.1
    simp only [List.cons.injEq, Value.slice.injEq, and_true] at h
    obtain ⟨rfl, rfl, rfl⟩ := h
    exact ⟨[], ⟨none, 0, rfl, by simp, by simp⟩, by simp⟩
  · simp only [List.cons.injEq, Value.slice.injEq, and_true] at hcs
    obtain ⟨rfl, rfl, rfl⟩ := hcs
    have hC : Try.prog.cellsOf 3 = 1 := by kernel_rfl
    have hx : ∀ i, ∃ t : Int, i < n → a.spot = none ∧ w.cell? ⟨a.block, a.off + i, none⟩ = some (.int .i64 t) := fun i => by
      by_cases hlt : i < n
      · have hn : n ≤ m := by rw [hmm]; split <;> omega
        have hsp : a.spot = none := by
          obtain ⟨cs', hc, ht'⟩ := hi 0 (by omega)
          rw [hC] at hc
          obtain ⟨_, hcl, hat⟩ := World.cells?_some hc
          have hfirst := hat 0 (by omega)
          rw [List.getElem?_eq_getElem (by omega)] at hfirst
          have := spot_of hfirst
          simpa [Addr.add] using this
        obtain ⟨cs', hc, ht'⟩ := hi i (by omega)
        rw [hC] at hc
        obtain ⟨_, hcl, hat⟩ := World.cells?_some hc
        obtain ⟨z, hz, _, _⟩ := DataW.trod_int Try.underlying3 ht'
        have hfirst := hat 0 (by omega)
        rw [Go.Deep.add_add, add_plain _ _ hsp, hz] at hfirst
        exact ⟨z, fun _ => ⟨hsp, by simpa using hfirst⟩⟩
      · exact ⟨0, fun h => absurd h hlt⟩
    refine ⟨(List.range n).map fun i => (hx i).choose, ⟨some a, c, by simp, by simpa using hl, fun h0 => ?_⟩, by simp; omega⟩
    have hsp : a.spot = none := ((hx 0).choose_spec (by simpa using h0)).1
    refine ⟨a.block, a.off, by cases a; simp at hsp; subst hsp; rfl, fun j hj => ?_⟩
    have hj' : j < n := by simpa using hj
    have e : intAt ((List.range n).map fun i => (hx i).choose) j = (hx j).choose := by
      unfold intAt
      rw [List.getElem?_map, List.getElem?_range hj']
      rfl
    rw [e]
    exact ((hx j).choose_spec hj').2

/-- A row of cells written into a block. -/
theorem Bk.sets {b : Nat} {t : TypeId} {post : List Value} : ∀ (vs mid pre : List Value) {w : World}, vs.length = mid.length → Bk w b t (pre ++ mid ++ post) → Bk (w.setCells b pre.length vs) b t (pre ++ vs ++ post)
  | [], mid, pre, w, h, hb => by
    have : mid = [] := List.eq_nil_of_length_eq_zero (by simpa using h.symm)
    subst this
    exact hb
  | v :: vs, mid, pre, w, h, hb => by
    match mid, h with
    | m :: mid, h =>
      have h1 := hb.set pre.length v
      have e : (pre ++ (m :: mid) ++ post).set pre.length v = (pre ++ [v]) ++ mid ++ post := by simp
      rw [e] at h1
      have := Bk.sets vs mid (pre ++ [v]) (by simpa using h) h1
      simpa [World.setCells] using this
theorem gb_sets {w : World} {b : Nat} : ∀ (vs : List Value) (o : Nat) (w1 : World), w.grownBy w1 (some b) → w.grownBy (w1.setCells b o vs) (some b)
  | [], _, _, h => h
  | v :: vs, o, _, h => gb_sets vs (o + 1) _ (gb_set h o v)

end Go.Proofs.Yteheckcflnogbaa
