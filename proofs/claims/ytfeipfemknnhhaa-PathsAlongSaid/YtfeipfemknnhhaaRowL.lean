/-
  A row of slices of words that the walk appends to: what lies elsewhere stays.
-/
import Derived.Test.YtfeipfemknnhhaaPk2
import Derived.Test.YtfeipfemknnhhaaRowZ
namespace Go.Proofs.Ytfeipfemknnhhaa
open Go.RowKit

def IsSl (u : Value) : Prop := ∃ o n c, u = .slice o n c
theorem ws_sl {w : World} {u : Value} {a : List Nat} (h : Ws w u a) : IsSl u := by obtain ⟨p, c, rfl⟩ := ws_len h; exact ⟨_, _, _, rfl⟩
theorem ws_grown {w w' : World} {u : Value} {a : List Nat} {r : Option Nat} (h : Ws w u a) (k : w.grownBy w' r) (hr : AllZ IsSl w r) : Ws w' u a := by
  obtain ⟨hz, ⟨rfl, rfl⟩ | ⟨ad, c, rfl, hc⟩⟩ := h
  · exact ⟨hz, .inl ⟨rfl, rfl⟩⟩
  · refine ⟨hz, .inr ⟨ad, c, rfl, fun j hj => ?_⟩⟩
    have h1 := hc j hj
    have hlt := cell_lt h1
    have hne : some (ad.add j).block ≠ r := by
      rintro rfl
      obtain ⟨cs, t, hb, hs⟩ := hr _ rfl
      have hsp := spot_of h1
      generalize ad.add j = p at *
      obtain ⟨b, o, sp⟩ := p
      simp at hsp
      subst hsp
      rw [hb.cell] at h1
      obtain ⟨_, _, _, e⟩ := hs _ (List.mem_of_getElem? h1)
      cases e
    have hblk := k.block _ hlt hne
    have : w'.cell? (ad.add j) = w.cell? (ad.add j) := by unfold World.cell?; rw [hblk]
    rw [this]
    exact h1
theorem zero_sl (k : Nat) : ∀ u ∈ (Builtin.zeroCells (Value.slice none 0 0).cells k).toList, IsSl u := fun u hu => by
  have e : Builtin.zeroCells (Value.slice none 0 0).cells k = (List.replicate k (Value.slice none 0 0)).toArray := by
    rw [← Array.toList_inj]
    simp only [Builtin.zeroCells, Value.cells]
    refine List.ext_getElem (by simp) fun i h1 h2 => ?_
    simp [Nat.mod_one]
  rw [e] at hu
  have := List.eq_of_mem_replicate (by simpa using hu)
  exact ⟨none, 0, 0, this⟩
/-- A row of slices of words that grows, of the walk's own. -/
def Rw (w : World) (B : Nat) (v : Value) (ls : List (List Nat)) : Prop :=
  (∃ us : List Value, w.ownsRow B 24 1 v ls.length us ∧ us.length = ls.length ∧ ∀ j, j < ls.length → ∃ u, us[j]? = some u ∧ Ws w u (lsAt ls j)) ∧ AllZ IsSl w v.ownBlock
theorem Rw.nil (w : World) (B : Nat) : Rw w B (.slice none 0 0) [] := ⟨⟨[], World.ownsRow_nil _ _ _ _, rfl, fun j hj => by simp at hj⟩, AllZ.none _ _⟩
theorem Rw.below {w w' : World} {B : Nat} {v : Value} {ls : List (List Nat)} (h : Rw w B v ls) (k : Below w.heap.size w w') : Rw w' B v ls := by
  obtain ⟨⟨us, h1, h2, h3⟩, h4⟩ := h
  exact ⟨⟨us, own_below h1 k, h2, fun j hj => by obtain ⟨u, a, b⟩ := h3 j hj; exact ⟨u, a, b.below k⟩⟩, h4.below k⟩
theorem Rw.vals {w : World} {B : Nat} {v : Value} {ls : List (List Nat)} (h : Rw w B v ls) : Vals w v ls := by
  obtain ⟨⟨us, ⟨hl, h1⟩, h2, h3⟩, _⟩ := h
  rcases h1 with ⟨rfl, h0⟩ | ⟨g, cap, cur, rfl, hg, hb, hn, hm, hs, hc⟩
  · have : ls = [] := List.eq_nil_of_length_eq_zero h0
    subst this
    exact vals_nil w
  · refine ⟨_, _, rfl, fun _ => ⟨g, 0, rfl, fun j hj => ?_⟩⟩
    obtain ⟨u, hu, hw⟩ := h3 j hj
    refine ⟨u, ?_, hw⟩
    rw [← hc, List.getElem?_take] at hu
    have hbk : Bk w g 24 cur.toList := hb
    rw [Nat.zero_add, hbk.cell]
    split at hu
    · exact hu
    · cases hu
theorem Rw.len {w : World} {B : Nat} {v : Value} {ls : List (List Nat)} (h : Rw w B v ls) : ∃ o c, v = .slice o ls.length c := h.vals.len
theorem Rw.own {w : World} {B : Nat} {v : Value} {ls : List (List Nat)} (h : Rw w B v ls) : ∀ k, v.ownBlock = some k → B ≤ k ∧ k < w.heap.size := by
  obtain ⟨⟨us, h1, _⟩, _⟩ := h
  exact fun k hk => h1.lt k hk

theorem run_append_rw (w : World) (ty : TypeId) (B : Nat) (v : Value) (ls : List (List Nat)) (hR : Rw w B v ls) (ad : Addr) (c : Nat) (u : Value) (y : List Nat) (hc : ∀ j x, [u][j]? = some x → w.cell? (ad.add j) = some x) (hu : Ws w u y) (hn : ls.length ≤ 1000000) (hB : B ≤ w.heap.size) :
    ∃ g cap w', (Builtin.append_ #[34, 34] ty #[v, .slice (some ad) 1 c]).run Try.prog w = .ok (.slice (some ⟨g, 0, none⟩) (ls.length + 1) cap) w' ∧ Rw w' B (.slice (some ⟨g, 0, none⟩) (ls.length + 1) cap) (ls ++ [y]) ∧ w.grownBy w' v.ownBlock ∧ B ≤ g := by
  obtain ⟨i, hi, hz0, hz1, hz2⟩ := info_parts lists_info
  obtain ⟨⟨us, hown, hul, hus⟩, hall⟩ := hR
  have h1 : ∀ x ∈ [u], x.oneCell' = true := fun x hx => by
    obtain ⟨o, n, c, rfl⟩ := ws_sl hu
    rw [List.mem_singleton.1 hx]
    rfl
  obtain ⟨g, cap, w', hr, hown', hgrow, hall', hg⟩ := run_append_z IsSl w B 34 ty 24 i (.slice none 0 0) 1 24 Try.underlying34 hi hz0 hz1 hz2 rfl (by decide) v ls.length us hown ad 1 c [u] rfl hc h1 (by omega) (by unfold maxLen; omega) (by omega) hB hall
    (fun x hx => by rw [List.mem_singleton.1 hx]; exact ws_sl hu) zero_sl
  refine ⟨g, cap, w', hr, ⟨⟨us ++ [u], by rw [List.length_append]; exact hown', by simp [hul], fun j hj => ?_⟩, hall'⟩, hgrow, hg⟩
  rw [List.length_append, List.length_singleton] at hj
  by_cases hlt : j < ls.length
  · obtain ⟨x, hx, hw⟩ := hus j hlt
    refine ⟨x, by rw [List.getElem?_append_left (by omega)]; exact hx, ?_⟩
    have e : lsAt (ls ++ [y]) j = lsAt ls j := by unfold lsAt; rw [List.getElem?_append_left hlt]
    rw [e]
    exact ws_grown hw hgrow hall
  · have hj : j = ls.length := by omega
    subst hj
    refine ⟨u, by rw [← hul]; simp, ?_⟩
    have e : lsAt (ls ++ [y]) ls.length = y := by unfold lsAt; simp
    rw [e]
    exact ws_grown hu hgrow hall
theorem wpList_append_rw {w : World} {ops : Array Oper} {rest : List Oper} {o : Oper} {a : Act} {Q : Exit → Act → World → Prop} (hgd : o.guard = none) (s x : Operand)
    (ho : o.op = .call { callee := .builtin .append, args := #[s, x], argTypes := #[34, 34] }) (B : Nat) (v : Value) (ls : List (List Nat)) (hs : a.eval s = v) (hR : Rw w B v ls) (ad : Addr) (c : Nat) (u : Value) (y : List Nat)
    (hx : a.eval x = .slice (some ad) 1 c) (hc : ∀ j x, [u][j]? = some x → w.cell? (ad.add j) = some x) (hu : Ws w u y) (hn : ls.length ≤ 1000000) (hB : B ≤ w.heap.size)
    (h : ∀ g cap w', Rw w' B (.slice (some ⟨g, 0, none⟩) (ls.length + 1) cap) (ls ++ [y]) → w.grownBy w' v.ownBlock → wpList Try.prog ops Q rest (a.put o.dst (.slice (some ⟨g, 0, none⟩) (ls.length + 1) cap)) w') :
    wpList Try.prog ops Q (o :: rest) a w := by
  refine wpList_plain hgd fun K hK => ?_
  obtain ⟨g, cap, w', hr, h2, h3, _⟩ := run_append_rw w o.type B v ls hR ad c u y hc hu hn hB
  unfold Oper.wp execOp
  simp only [ho, resolve, invoke, builtin, Sem.run_bind, Sem.run_pure, Result.andThen_ok, List.map_toArray, List.map_cons, List.map_nil, hs, hx, hr]
  exact hK _ _ (h g cap w' h2 h3)

end Go.Proofs.Ytfeipfemknnhhaa
