/-
  append(own row of strings, any slice of strings): also where the source holds nothing.
-/
import Derived.Test.YtannfkibahinhaaDoorStrs
import Derived.Test.YtannfkibahinhaaDoorTake
import Derived.Deep.AppendSrc
import Derived.Deep.AppendLies
namespace Go.Proofs.YtannfkibahinhaaDoor
open Go.RowKit

/-- What a slice of strings appends. -/
def Feeds (w : World) (u : Value) (ys : List (List UInt8)) : Prop :=
  (∃ c, u = .slice none 0 c ∧ ys = []) ∨ ∃ ad c, u = .slice (some ad) ys.length c ∧ ∀ j, j < ys.length → w.cell? (ad.add j) = some (.string ⟨(strAt ys j).toArray⟩)
theorem Strs.feeds {w : World} {u : Value} {ys : List (List UInt8)} (h : Strs w u ys) : Feeds w u ys := by
  obtain ⟨o, c, rfl, _, hc⟩ := h
  match o with
  | none =>
    by_cases h0 : 0 < ys.length
    · obtain ⟨_, _, h, _⟩ := hc h0
      cases h
    · have : ys = [] := List.eq_nil_of_length_eq_zero (by omega)
      subst this
      exact .inl ⟨c, rfl, rfl⟩
  | some ad =>
    refine .inr ⟨ad, c, rfl, fun j hj => ?_⟩
    obtain ⟨b, off, h, hd⟩ := hc (by omega)
    injection h with h
    subst h
    rw [show (⟨b, off, none⟩ : Addr).add j = ⟨b, off + j, none⟩ from by unfold Addr.add; split <;> simp_all]
    exact hd j hj
def strCells (ys : List (List UInt8)) : List Value := ys.map fun y => .string ⟨y.toArray⟩
theorem strCells_at (ys : List (List UInt8)) (j : Nat) (h : j < ys.length) : (strCells ys)[j]? = some (.string ⟨(strAt ys j).toArray⟩) := by
  unfold strCells strAt
  rw [List.getElem?_map, List.getElem?_eq_getElem h]
  rfl
theorem str_info : (Tryd.prog.info? 9).map (fun i => (i.zero, i.size, i.bytes)) = some (some (.string ⟨#[]⟩), 1, 16) := by kernel_rfl

theorem run_append_strs (w : World) (ty : TypeId) (base : Nat) (g n cap : Nat) (xs : List Value) (hown : w.ownsRow base 9 1 (.slice (some ⟨g, 0, none⟩) n cap) n xs) (hnc : n ≤ cap)
    (u : Value) (ys : List (List UInt8)) (hu : Feeds w u ys) (hb : n + ys.length ≤ 1000000) (hbase : base ≤ w.heap.size) :
    ∃ g' cap' w', (Builtin.append_ #[53, 53] ty #[.slice (some ⟨g, 0, none⟩) n cap, u]).run Tryd.prog w = .ok (.slice (some ⟨g', 0, none⟩) (n + ys.length) cap') w' ∧
      w'.ownsRow base 9 1 (.slice (some ⟨g', 0, none⟩) (n + ys.length) cap') (n + ys.length) (xs ++ strCells ys) ∧ n + ys.length ≤ cap' ∧ w.grownBy w' (some g) := by
  obtain ⟨i, hi, hz0, hz1, hz2⟩ := info_parts str_info
  have form : ∀ {w' : World} {v : Value} {m : Nat} {zs : List Value} {g c : Nat}, w'.ownsRow base 9 1 v m zs → v = .slice (some ⟨g, 0, none⟩) m c → m ≤ c := by
    rintro w' v m zs g c ⟨_, ⟨h1, _⟩ | ⟨g', cap', cur, h1, _, _, h2, _⟩⟩ rfl
    · cases h1
    · injection h1 with _ _ h3
      omega
  by_cases h0 : 0 < ys.length
  · rcases hu with ⟨c, rfl, rfl⟩ | ⟨ad, c, rfl, hc⟩
    · simp at h0
    · obtain ⟨g', cap', w', h1, h2, h3, h4, h5⟩ := run_append_lies (P := Tryd.prog) w 53 ty base 9 i (.string ⟨#[]⟩) 1 16 Tryd.underlying53 hi hz0 hz1 hz2 rfl (by decide) _ n xs hown ad ys.length c (strCells ys) (by simp [strCells])
        (fun j x hj => by
          have hlt : j < ys.length := by
            rcases Nat.lt_or_ge j ys.length with h | h
            · exact h
            · rw [List.getElem?_eq_none (by simp [strCells]; exact h)] at hj; cases hj
          rw [strCells_at ys j hlt] at hj
          injection hj with hj
          subst hj
          exact hc j hlt)
        (fun x hx => by obtain ⟨_, _, rfl⟩ := List.mem_map.1 hx; rfl) h0 (by unfold maxLen; omega) (by omega) hbase _ rfl
      exact ⟨g', cap', w', h1, h2, form h2 rfl, h3⟩
  · have : ys = [] := List.eq_nil_of_length_eq_zero (by omega)
    subst this
    have hs : ∃ m', Src Tryd.prog i.size 53 u 0 [] w ∧ m' = 0 := by
      rcases hu with ⟨c, rfl, _⟩ | ⟨ad, c, rfl, _⟩
      · exact ⟨0, Src.ofNil w Tryd.underlying53 c, rfl⟩
      · exact ⟨0, Src.ofSlice w Tryd.underlying53 ad 0 c [] (by simp) (by simp) (by simp), rfl⟩
    obtain ⟨_, hs, _⟩ := hs
    have hr := run_append_room_src (P := Tryd.prog) w 53 53 ty 9 i Tryd.underlying53 hi g 0 n cap u 0 [] hs (by omega) (by simp) (by simp)
    refine ⟨g, cap, w, ?_, by simpa [strCells] using hown, by simpa using hnc, gb_refl w _⟩
    rw [hr]
    rfl

theorem step_append_strs (w : World) {ops : Array Oper} {o : Oper} {a : Act} {K : Act → World → Prop} {Q : Exit → Act → World → Prop} {E : Prop} (hgd : o.guard = none) (d : Option Tmp) (hd : o.dst = d) (s x : Operand)
    (ho : o.op = .call { callee := .builtin .append, args := #[s, x], argTypes := #[53, 53] })
    (base : Nat) (g n cap : Nat) (xs : List Value) (hs : a.eval s = .slice (some ⟨g, 0, none⟩) n cap) (hown : w.ownsRow base 9 1 (.slice (some ⟨g, 0, none⟩) n cap) n xs) (hnc : n ≤ cap)
    (u : Value) (hx : a.eval x = u) (ys : List (List UInt8)) (hu : Feeds w u ys) (hb : n + ys.length ≤ 1000000) (hbase : base ≤ w.heap.size)
    (h : ∀ g' cap' w', w'.ownsRow base 9 1 (.slice (some ⟨g', 0, none⟩) (n + ys.length) cap') (n + ys.length) (xs ++ strCells ys) → n + ys.length ≤ cap' → w.grownBy w' (some g) → K (a.put d (.slice (some ⟨g', 0, none⟩) (n + ys.length) cap')) w') :
    if Region.wanted o (yielded ops a.tmps) = true then Oper.wp Tryd.prog o a w K Q else E := by
  have hw : Region.wanted o (yielded ops a.tmps) = true := by simp [Region.wanted, hgd]
  rw [if_pos hw]
  subst hd
  obtain ⟨g', cap', w', hr, h2, h3, h4⟩ := run_append_strs w o.type base g n cap xs hown hnc u ys hu hb hbase
  unfold Oper.wp execOp
  simp only [ho, resolve, invoke, builtin, Sem.run_bind, Sem.run_pure, Result.andThen_ok, List.map_toArray, List.map_cons, List.map_nil, hs, hx, hr]
  exact h g' cap' w' h2 h3 h4

end Go.Proofs.YtannfkibahinhaaDoor
