/-
  A row of words that the walk made itself, at any offset of its block: appended to, cut at its end, cut at its front.
-/
import Derived.Test.YtacmlgcoockpcaaUs
import Derived.Test.YtacmlgcoockpcaaFr
import Derived.ArgAppend
import Derived.Maps.AppendAt
namespace Go.Proofs.Ytacmlgcoockpcaa
open Go.RowKit

/-- The slice v holds zs: it is nil, or lies in a block from B on, which nobody else holds; it may grow to the block's end. -/
def OwU (w : World) (B : Nat) (t : TypeId) (v : Value) (zs : List Int) : Prop :=
  (v = .slice none 0 0 ∧ zs = []) ∨
  ∃ b c pre post, v = .slice (some ⟨b, pre.length, none⟩) zs.length c ∧ B ≤ b ∧ Bk w b t (pre ++ zs.map (Value.int .u64) ++ post) ∧ zs.length ≤ c ∧ c ≤ zs.length + post.length
theorem OwU.nil (w : World) (B : Nat) (t : TypeId) : OwU w B t (.slice none 0 0) [] := .inl ⟨rfl, rfl⟩
theorem OwU.form {w : World} {B : Nat} {t : TypeId} {v : Value} {zs : List Int} (h : OwU w B t v zs) : ∃ o c, v = .slice o zs.length c ∧ zs.length ≤ c := by
  rcases h with ⟨rfl, rfl⟩ | ⟨b, c, pre, post, rfl, _, _, hc, _⟩
  · exact ⟨_, _, rfl, Nat.le_refl _⟩
  · exact ⟨_, _, rfl, hc⟩
theorem OwU.lt {w : World} {B : Nat} {t : TypeId} {v : Value} {zs : List Int} (h : OwU w B t v zs) : ∀ k, v.ownBlock = some k → B ≤ k ∧ k < w.heap.size := by
  intro k hk
  rcases h with ⟨rfl, _⟩ | ⟨b, c, pre, post, rfl, hB, hb, _⟩
  · simp [Value.ownBlock] at hk
  · simp [Value.ownBlock] at hk
    subst hk
    exact ⟨hB, hb.lt⟩
theorem OwU.fr {S : List Nat} {w w' : World} {B : Nat} {t : TypeId} {v : Value} {zs : List Int} (h : OwU w B t v zs) (k : Fr S w w') (hS : ∀ b, v.ownBlock = some b → b ∉ S) : OwU w' B t v zs := by
  rcases h with h | ⟨b, c, pre, post, rfl, hB, hb, hc⟩
  · exact .inl h
  · exact .inr ⟨b, c, pre, post, rfl, hB, hb.fr k (hS b rfl), hc⟩
theorem OwU.us {w : World} {B : Nat} {t : TypeId} {v : Value} {zs : List Int} (h : OwU w B t v zs) : Us w v zs := by
  rcases h with ⟨rfl, rfl⟩ | ⟨b, c, pre, post, rfl, hB, hb, hc⟩
  · exact ⟨_, _, rfl, by simp⟩
  · refine ⟨_, _, rfl, fun _ => ⟨b, pre.length, rfl, fun j hj => ?_⟩⟩
    rw [hb.cell, List.append_assoc, List.getElem?_append_right (by omega), Nat.add_sub_cancel_left, List.getElem?_append_left (by simpa using hj)]
    simp [hj]
theorem OwU.word {w : World} {B : Nat} {t : TypeId} {b off n c : Nat} {zs : List Int} (h : OwU w B t (.slice (some ⟨b, off, none⟩) n c) zs) (j : Nat) (hj : j < zs.length) : w.cell? ⟨b, off + j, none⟩ = some (.int .u64 (zs[j]?.getD 0)) := by
  obtain ⟨o, c', hv, hd⟩ := h.us
  obtain ⟨b', off', rfl, he⟩ := hd (by omega)
  injection hv with h1 h2 h3
  injection h1 with h1
  injection h1 with h1 h4
  subst h1 h4
  exact he j hj
theorem OwU.some' {w : World} {B : Nat} {t : TypeId} {o : Option Addr} {n c : Nat} {zs : List Int} (h : OwU w B t (.slice o n c) zs) (hz : 0 < zs.length) : ∃ b off, o = some ⟨b, off, none⟩ := by
  rcases h with ⟨_, rfl⟩ | ⟨b, c', pre, post, hv, _⟩
  · simp at hz
  · injection hv with h1 h2 h3
    exact ⟨_, _, h1⟩
/-- The last one dropped. -/
theorem OwU.pop {w : World} {B : Nat} {t : TypeId} {o : Option Addr} {n c : Nat} {zs : List Int} {x : Int} (h : OwU w B t (.slice o n c) (zs ++ [x])) : OwU w B t (.slice o zs.length c) zs := by
  rcases h with ⟨_, h⟩ | ⟨b, c', pre, post, hv, hB, hb, hc1, hc2⟩
  · simp at h
  · injection hv with h1 h2 h3
    subst h1 h3
    simp only [List.length_append, List.length_cons, List.length_nil] at hc1 hc2
    exact .inr ⟨b, c, pre, .int .u64 x :: post, rfl, hB, by simpa using hb, by omega, by simp; omega⟩
/-- The first one dropped. -/
theorem OwU.drop {w : World} {B : Nat} {t : TypeId} {b off n c : Nat} {zs : List Int} {x : Int} (h : OwU w B t (.slice (some ⟨b, off, none⟩) n c) (x :: zs)) : OwU w B t (.slice (some ⟨b, off + 1, none⟩) zs.length (c - 1)) zs := by
  rcases h with ⟨_, h⟩ | ⟨b', c', pre, post, hv, hB, hb, hc1, hc2⟩
  · simp at h
  · injection hv with h1 h2 h3
    injection h1 with h1
    injection h1 with h1 h4
    subst h1 h3 h4
    simp only [List.length_cons] at hc1 hc2
    exact .inr ⟨b, c - 1, pre ++ [.int .u64 x], post, by simp, hB, by simpa using hb, by omega, by omega⟩
/-- All dropped: the same block, nothing in it. -/
theorem OwU.bare {w : World} {B : Nat} {t : TypeId} {b off n c : Nat} {x : Int} (h : OwU w B t (.slice (some ⟨b, off, none⟩) n c) [x]) : OwU w B t (.slice (some ⟨b, off, none⟩) 0 0) [] := by
  rcases h with ⟨_, h⟩ | ⟨b', c', pre, post, hv, hB, hb, hc1, hc2⟩
  · simp at h
  · injection hv with h1 h2 h3
    injection h1 with h1
    injection h1 with h1 h4
    subst h1 h3 h4
    exact .inr ⟨b, 0, pre, .int .u64 x :: post, by simp, hB, by simpa using hb, by simp, by simp⟩
theorem OwU.of_owns {w : World} {B B' : Nat} {t : TypeId} {v : Value} {n : Nat} {zs : List Int} (h : w.ownsRow B' t 1 v n (zs.map (Value.int .u64))) (hB : B ≤ B') : OwU w B t v zs := by
  obtain ⟨hl, h | ⟨g, cap, cur, rfl, hg, hb, hn, hm, hs, hc⟩⟩ := h
  · obtain ⟨rfl, rfl⟩ := h
    have : zs = [] := by simpa using hl
    exact .inl ⟨rfl, this⟩
  · have hzl : zs.length = n := by simpa using hl
    subst hzl
    refine .inr ⟨g, cap, [], cur.toList.drop zs.length, rfl, by omega, ?_, hn, by simp [hs]; omega⟩
    rw [Nat.mul_one] at hc
    rw [← hc, List.nil_append, List.take_append_drop]
    exact hb

/-- One word appended: in the room that is left, or in a new block. -/
theorem wpList_append_ow {P : Program} (w : World) {ops : Array Oper} {rest : List Oper} {o : Oper} {a : Act} {Q : Exit → Act → World → Prop}
    (hg : o.guard = none) (s x : Operand) (t : TypeId) (hop : o.op = Op.call { callee := Callee.builtin Builtin.append, args := #[s, x], argTypes := #[t, t] })
    (B : Nat) (e : TypeId) (i : TypeInfo) (z : Value) (bytes : Nat) (h1 : P.underlying t = some (.slice e)) (h2 : P.info? e = some i) (h3 : i.zero = some z) (h4 : i.size = 1) (h5 : i.bytes = bytes) (h6 : z.cells.size = 1)
    (v : Value) (zs : List Int) (hs : a.eval s = v) (hown : OwU w B e v zs)
    (ad : Addr) (c : Nat) (u : Int) (hx : a.eval x = .slice (some ad) 1 c) (hc : w.cell? ad = some (.int .u64 u))
    (b1 : zs.length + 1 ≤ maxLen) (b2 : (zs.length + 1) * bytes ≤ 140737488355328) (hBw : B ≤ w.heap.size)
    (h : ∀ v' w', OwU w' B e v' (zs ++ [u]) → w.grownBy w' v.ownBlock → (v'.ownBlock = v.ownBlock ∨ ∃ k, v'.ownBlock = some k ∧ w.heap.size ≤ k) → wpList P ops Q rest (a.put o.dst v') w') :
    wpList P ops Q (o :: rest) a w := by
  have hc' : ∀ j y, [Value.int .u64 u][j]? = some y → w.cell? (ad.add j) = some y := by
    intro j y hj
    rcases j with _ | j
    · simp at hj
      subst hj
      rw [show ad.add 0 = ad by unfold Addr.add; split <;> simp_all]
      exact hc
    · simp at hj
  have h1c : ∀ y ∈ [Value.int .u64 u], y.oneCell' = true := by simp [Value.oneCell']
  rcases hown with ⟨rfl, rfl⟩ | ⟨b, cap, pre, post, rfl, hB, hb, hc1, hc2⟩
  · refine wpList_append_own_at w hg s x t hop B e i z 1 bytes h1 h2 h3 h4 h5 h6 (by omega) _ 0 [] hs (World.ownsRow_nil _ _ _ _) ad 1 c [.int .u64 u] hx (by simp) hc' h1c b1 b2 hBw ?_
    intro v' w' ho hgr _ hv
    exact h v' w' (.of_owns (n := 1) (by simpa using ho) (Nat.le_refl _)) hgr (hv.imp_right fun e => ⟨_, e, Nat.le_refl _⟩)
  · refine wpList_append_arg w hg s x t hop e i z 1 bytes h1 h2 h3 h4 h5 h6 (by omega) b pre.length zs.length cap (zs.map (Value.int .u64)) hs (by simp) ?_ ad 1 c [.int .u64 u] hx (by simp) hc' h1c ?_ b1 b2 ?_ ?_
    · intro j y hj
      rw [hb.cell, List.append_assoc, List.getElem?_append_right (by omega), Nat.add_sub_cancel_left, List.getElem?_append_left (by
        rcases Nat.lt_or_ge j (zs.map (Value.int .u64)).length with h | h
        · exact h
        · rw [List.getElem?_eq_none h] at hj; cases hj)]
      exact hj
    · intro hr j hj
      have hj0 : j = 0 := by simpa using hj
      subst hj0
      refine ⟨?_, hb.free _⟩
      rw [hb.cell, List.getElem?_eq_getElem (by simp; omega)]
      rfl
    · intro hr
      rcases post with _ | ⟨p0, post⟩
      · simp at hc2; omega
      · refine h _ _ (.inr ⟨b, cap, pre, post, by simp, hB, ?_, by simp; omega, by simp at hc2 ⊢; omega⟩) ?_ (.inl rfl)
        · have := hb.set (pre.length + zs.length) (.int .u64 u)
          have e1 : (pre ++ zs.map (Value.int .u64) ++ p0 :: post).set (pre.length + zs.length) (.int .u64 u) = pre ++ (zs ++ [u]).map (Value.int .u64) ++ post := by
            rw [List.append_assoc, List.set_append_right _ _ (by omega), Nat.add_sub_cancel_left, List.set_append_right _ _ (by simp)]
            simp
          rw [e1] at this
          rw [Nat.mul_one]
          exact this
        · exact gb_set (gb_refl w _) _ _
    · intro hr v' w' ho hgr
      refine h v' w' (.of_owns (n := zs.length + 1) (by simpa using ho) hBw) ⟨hgr.os, hgr.tape, hgr.output, hgr.size, fun k hk _ => hgr.block k hk (by simp)⟩ ?_
      obtain ⟨_, h | ⟨g, cap', cur, rfl, hg', hb', _⟩⟩ := ho
      · exact absurd h.2 (by omega)
      · exact .inr ⟨g, rfl, hg'⟩

end Go.Proofs.Ytacmlgcoockpcaa
