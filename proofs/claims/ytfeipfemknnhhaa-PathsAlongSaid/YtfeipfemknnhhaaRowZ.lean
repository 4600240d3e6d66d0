/-
  A row that the walk appends to, all of whose block's cells are of one sort: so are those of the row behind the append.
-/
import Derived.Test.YtfeipfemknnhhaaPk2
import Derived.Maps.AppendAt
namespace Go.Proofs.Ytfeipfemknnhhaa
open Go.RowKit

/-- The block r holds nothing but what meets Z. -/
def AllZ (Z : Value → Prop) (w : World) (r : Option Nat) : Prop := ∀ g, r = some g → ∃ cs t, Bk w g t cs ∧ ∀ u ∈ cs, Z u
theorem AllZ.none (Z : Value → Prop) (w : World) : AllZ Z w none := fun g h => by cases h
theorem AllZ.below {Z : Value → Prop} {w w' : World} {r : Option Nat} (h : AllZ Z w r) (k : Below w.heap.size w w') : AllZ Z w' r := fun g hg => by
  obtain ⟨cs, t, hb, hs⟩ := h g hg
  exact ⟨cs, t, hb.below k, hs⟩
theorem ok_inj {α : Type} {a b : α} {w w' : World} (h : Result.ok a w = Result.ok b w') : a = b ∧ w = w' := by cases h; exact ⟨rfl, rfl⟩

theorem run_append_z (Z : Value → Prop) (w : World) (B : Nat) (t ty e : TypeId) (i : TypeInfo) (z : Value) (size bytes : Nat) (ht : Try.prog.underlying t = some (.slice e)) (hi : Try.prog.info? e = some i) (hz : i.zero = some z)
    (hsize : i.size = size) (hby : i.bytes = bytes) (hzs : z.cells.size = size) (hsz : 0 < size) (v : Value) (n : Nat) (xs : List Value) (hown : w.ownsRow B e size v n xs) (ad : Addr) (m c : Nat) (news : List Value) (hl : news.length = m * size)
    (hnews : ∀ j u, news[j]? = some u → w.cell? (ad.add j) = some u) (h1 : ∀ u ∈ news, u.oneCell' = true) (hm : 0 < m) (h63 : n + m ≤ maxLen) (hbytes : (n + m) * bytes ≤ 140737488355328) (hB : B ≤ w.heap.size)
    (hall : AllZ Z w v.ownBlock) (zn : ∀ u ∈ news, Z u) (zz : ∀ k, ∀ u ∈ (Builtin.zeroCells z.cells k).toList, Z u) :
    ∃ g cap w', (Builtin.append_ #[t, t] ty #[v, .slice (some ad) m c]).run Try.prog w = .ok (.slice (some ⟨g, 0, none⟩) (n + m) cap) w' ∧ w'.ownsRow B e size (.slice (some ⟨g, 0, none⟩) (n + m) cap) (n + m) (xs ++ news) ∧ w.grownBy w' v.ownBlock ∧
      AllZ Z w' (some g) ∧ B ≤ g := by
  obtain ⟨v', w', hr, hown', hgrow, _, _⟩ := run_append_own_at (P := Try.prog) w B t ty e i z size bytes ht hi hz hsize hby hzs hsz v n xs hown ad m c news hl hnews h1 h63 hbytes hB
  have hmx : n + m ≤ 9223372036854775807 := h63
  subst hsize hby
  have fresh : ∀ (cs : Array Value) (k : Nat), (∀ u ∈ cs.toList, Z u) → AllZ Z (w.drew.alloc (.cells (cs ++ Builtin.zeroCells z.cells k) e)) (some w.heap.size) := by
    intro cs k hcs g hg
    injection hg with hg
    subst hg
    refine ⟨(cs ++ Builtin.zeroCells z.cells k).toList, e, by unfold Bk; rw [Array.toArray_toList]; exact heap_alloc_new w.drew _, fun u hu => ?_⟩
    rw [Array.toList_append, List.mem_append] at hu
    rcases hu with hu | hu
    · exact hcs u hu
    · exact zz k u hu
  rcases hown.2 with ⟨rfl, rfl⟩ | ⟨g, cap, cur, rfl, hbg, hg, hnc, hcm, hcs, htake⟩
  · have hx : xs = [] := List.eq_nil_of_length_eq_zero (by simpa using hown.1)
    subst hx
    have hexact := run_append_nil (P := Try.prog) w t ty e i z ht hi hz ad m c news hl hnews hm (by omega) (by simp only [Nat.zero_add] at hbytes; omega)
    obtain ⟨rfl, rfl⟩ := ok_inj (hr.symm.trans hexact)
    simp only [Nat.zero_add] at hown' ⊢
    exact ⟨_, _, _, hr, hown', hgrow, fresh news.toArray _ (by simpa using zn), hB⟩
  · have hcur : ∀ u ∈ cur.toList, Z u := by
      obtain ⟨cs, t', hb, hs⟩ := hall g rfl
      unfold Bk at hb
      rw [hg] at hb
      injection hb with hb
      injection hb with hb
      rw [hb]
      exact hs
    have hxs : ∀ u ∈ xs, Z u := fun u hu => hcur u (by rw [← htake] at hu; exact List.mem_of_mem_take hu)
    by_cases hroom : n + m ≤ cap
    · have hfit : n * i.size + news.length ≤ cur.size := by rw [hl, hcs, ← Nat.add_mul]; exact Nat.mul_le_mul_right _ hroom
      have hexact := run_append_room (P := Try.prog) w t ty e i ht hi g n cap cur hg ad m c news hl hnews h1 hroom hfit
      obtain ⟨rfl, rfl⟩ := ok_inj (hr.symm.trans hexact)
      refine ⟨_, _, _, hr, hown', hgrow, fun g' hg' => ?_, hbg⟩
      injection hg' with hg'
      subst hg'
      refine ⟨_, e, setRow_heap w g cur _ e _ hg, fun u hu => ?_⟩
      rw [List.mem_append, List.mem_append] at hu
      rcases hu with (hu | hu) | hu
      · exact hcur u (List.mem_of_mem_take hu)
      · exact zn u hu
      · exact hcur u (List.mem_of_mem_drop hu)
    · have holds : ∀ j u, xs[j]? = some u → w.cell? ((⟨g, 0, none⟩ : Addr).add j) = some u := hown.cells (g := g) rfl
      have hexact := run_append_grow (P := Try.prog) w t ty e i z ht hi hz ⟨g, 0, none⟩ n cap xs hown.1 holds ad m c news hl hnews (by omega) (by omega) (growslice_fits (by omega) hbytes)
      obtain ⟨rfl, rfl⟩ := ok_inj (hr.symm.trans hexact)
      exact ⟨_, _, _, hr, hown', hgrow, fresh (xs.toArray ++ news.toArray) _ (by
        intro u hu
        rw [Array.toList_append, List.mem_append] at hu
        rcases hu with hu | hu
        · exact hxs u (by simpa using hu)
        · exact zn u (by simpa using hu)), hB⟩

end Go.Proofs.Ytfeipfemknnhhaa
