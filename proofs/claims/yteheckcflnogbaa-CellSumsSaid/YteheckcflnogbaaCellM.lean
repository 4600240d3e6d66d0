/-
  Many Joins of one cell, run by a script: mathematics. Written by wip/gen/mkcellm.py.
-/
import Derived.Test.YteheckcflnogbaaCell12
import Derived.Test.YteheckcflnogbaaLatPk0
namespace Go.Proofs.Yteheckcflnogbaa
open Go.RowKit

/-- What joining two words keeps. -/
structure Sem (f : Nat → Nat → Nat) (V : Nat → Prop) : Prop where
  zero : V 0
  lt : ∀ x, V x → x < 18446744073709551616
  cl : ∀ x y, V x → V y → V (f x y)
  comm : ∀ x y, V x → V y → f x y = f y x
  assoc : ∀ x y z, V x → V y → V z → f (f x y) z = f x (f y z)
  idem : ∀ x, V x → f x x = x
section
variable {f : Nat → Nat → Nat} {V : Nat → Prop}
theorem Sem.up (h : Sem f V) {x y : Nat} (hx : V x) (hy : V y) : f x (f x y) = f x y := by rw [← h.assoc x x y hx hx hy, h.idem x hx]
theorem Sem.up2 (h : Sem f V) {x y : Nat} (hx : V x) (hy : V y) : f y (f x y) = f x y := by rw [h.comm x y hx hy]; exact h.up hy hx
theorem Sem.trans (h : Sem f V) {x y z : Nat} (hx : V x) (hy : V y) (hz : V z) (a : f x y = y) (b : f y z = z) : f x z = z := by rw [← b, ← h.assoc x y z hx hy hz, a]
theorem Sem.least (h : Sem f V) {x y z : Nat} (hx : V x) (hy : V y) (hz : V z) (a : f x z = z) (b : f y z = z) : f (f x y) z = z := by rw [h.assoc x y z hx hy hz, b, a]
theorem Sem.anti (h : Sem f V) {x y : Nat} (hx : V x) (hy : V y) (a : f x y = y) (b : f y x = x) : x = y := by rw [← b, h.comm y x hy hx, a]
end
def semV (what : Int) (z : Nat) : Prop := z < 18446744073709551616 ∧ (what = 3 → sou (z : Int) = (z : Int))
theorem sem_word {what : Int} (h : what = 1 ∨ what = 2 ∨ what = 3) : Sem (wordE what) (semV what) := by
  rcases h with rfl | rfl | rfl
  · have e : ∀ x y, wordE 1 x y = x ||| y := fun x y => by unfold wordE orN; simp
    exact ⟨⟨by decide, by decide⟩, fun x h => h.1, fun x y hx hy => ⟨wordE_lt 1 x y hx.1 hy.1, fun e => absurd e (by decide)⟩, fun x y _ _ => by rw [e, e, Nat.or_comm], fun x y z _ _ _ => by rw [e, e, e, e, Nat.or_assoc], fun x _ => by rw [e, Nat.or_self]⟩
  · have e : ∀ x y, wordE 2 x y = x &&& y := fun x y => by unfold wordE andN; simp
    exact ⟨⟨by decide, by decide⟩, fun x h => h.1, fun x y hx hy => ⟨wordE_lt 2 x y hx.1 hy.1, fun e => absurd e (by decide)⟩, fun x y _ _ => by rw [e, e, Nat.and_comm], fun x y z _ _ _ => by rw [e, e, e, e, Nat.and_assoc], fun x _ => by rw [e, Nat.and_self]⟩
  · have e : ∀ x y : Nat, semV 3 x → semV 3 y → ((wordE 3 x y : Nat) : Int) = if (x : Int) = y ∨ (y : Int) = 0 then (x : Int) else if (x : Int) = 0 then (y : Int) else 1 := fun x y hx hy => by
      rw [word3 hx.1 hy.1]
      unfold cjoin
      rw [hx.2 rfl, hy.2 rfl]
    have hc : ∀ x y, semV 3 x → semV 3 y → semV 3 (wordE 3 x y) := fun x y hx hy => ⟨wordE_lt 3 x y hx.1 hy.1, fun _ => by rw [word3 hx.1 hy.1]; exact sou_join' _ _⟩
    refine ⟨⟨by decide, fun _ => by decide⟩, fun x h => h.1, hc, fun x y hx hy => ?_, fun x y z hx hy hz => ?_, fun x hx => ?_⟩
    · have a := e x y hx hy
      have b := e y x hy hx
      repeat' split at a
      all_goals repeat' split at b
      all_goals omega
    · have a := e x y hx hy
      have b := e _ z (hc x y hx hy) hz
      have c := e y z hy hz
      have d := e x _ hx (hc y z hy hz)
      generalize wordE 3 (wordE 3 x y) z = p1 at *
      generalize wordE 3 x (wordE 3 y z) = p2 at *
      generalize wordE 3 x y = p3 at *
      generalize wordE 3 y z = p4 at *
      repeat' split at a
      all_goals repeat' split at b
      all_goals repeat' split at c
      all_goals repeat' split at d
      all_goals omega
    · have a := e x x hx hx
      rw [if_pos (.inl rfl)] at a
      omega

/-! ### A sum of lists, word by word -/
def at30 (A : List Nat) (k : Nat) : Nat := A[k]?.getD 0
def sumW (f : Nat → Nat → Nat) (x : Nat) (ls : List (List Nat)) (k : Nat) : Nat := ls.foldl (fun x A => f x (at30 A k)) x
theorem joinK_at (f : Nat → Nat → Nat) (a x : List Nat) (n : Nat) : ∀ k, k < a.length → at30 (joinK f a x n) k = if k < n then f (at30 a k) (at30 x k) else at30 a k := by
  induction n with
  | zero => intro k _; rw [if_neg (by omega)]; rfl
  | succ n ih =>
    intro k hk
    have e : joinK f a x (n + 1) = (joinK f a x n).set n (f (at30 (joinK f a x n) n) (at30 x n)) := rfl
    rw [e]
    unfold at30
    rw [List.getElem?_set]
    by_cases h : n = k
    · subst h
      rw [if_pos rfl, if_pos (by rw [joinK_len]; exact hk), if_pos (by omega)]
      have := ih n hk
      rw [if_neg (by omega)] at this
      show f (at30 (joinK f a x n) n) (at30 x n) = _
      rw [this]; rfl
    · rw [if_neg h]
      show at30 (joinK f a x n) k = _
      rw [ih k hk]
      by_cases h2 : k < n
      · rw [if_pos h2, if_pos (by omega)]; rfl
      · rw [if_neg h2, if_neg (by omega)]; rfl
theorem sumE_at (f : Nat → Nat → Nat) (ls : List (List Nat)) : ∀ (a : List Nat) k, k < a.length → at30 (sumE f a ls) k = sumW f (at30 a k) ls k := by
  induction ls with
  | nil => intro a k _; rfl
  | cons x ls ih =>
    intro a k hk
    show at30 (sumE f (joinK f a x a.length) ls) k = _
    rw [ih _ k (by rw [joinK_len]; exact hk), joinK_at f a x _ k hk, if_pos hk]
    rfl
section
variable {f : Nat → Nat → Nat} {V : Nat → Prop}
theorem sumW_V (h : Sem f V) (k : Nat) (ls : List (List Nat)) : ∀ {x : Nat}, V x → (∀ A ∈ ls, V (at30 A k)) → V (sumW f x ls k) := by
  induction ls with
  | nil => exact fun hx _ => hx
  | cons A ls ih => exact fun hx hA => ih (h.cl _ _ hx (hA A (by simp))) (fun B hB => hA B (by simp [hB]))
theorem sumW_up (h : Sem f V) (k : Nat) (ls : List (List Nat)) : ∀ {x : Nat}, V x → (∀ A ∈ ls, V (at30 A k)) → f x (sumW f x ls k) = sumW f x ls k := by
  induction ls with
  | nil => exact fun hx _ => h.idem _ hx
  | cons A ls ih =>
    intro x hx hA
    have ha := hA A (by simp)
    have hl : ∀ B ∈ ls, V (at30 B k) := fun B hB => hA B (by simp [hB])
    exact h.trans hx (h.cl _ _ hx ha) (sumW_V h k ls (h.cl _ _ hx ha) hl) (h.up hx ha) (ih (h.cl _ _ hx ha) hl)
theorem sumW_of (h : Sem f V) (k : Nat) (ls : List (List Nat)) : ∀ {x : Nat}, V x → (∀ A ∈ ls, V (at30 A k)) → ∀ A ∈ ls, f (at30 A k) (sumW f x ls k) = sumW f x ls k := by
  induction ls with
  | nil => intro x _ _ A h; cases h
  | cons B ls ih =>
    intro x hx hA A hm
    have hb := hA B (by simp)
    have hl : ∀ C ∈ ls, V (at30 C k) := fun C hC => hA C (by simp [hC])
    have hxb := h.cl _ _ hx hb
    rcases List.mem_cons.1 hm with rfl | hm
    · exact h.trans hb hxb (sumW_V h k ls hxb hl) (h.up2 hx hb) (sumW_up h k ls hxb hl)
    · exact ih hxb hl A hm
theorem sumW_least (h : Sem f V) (k : Nat) (ls : List (List Nat)) {z : Nat} (hz : V z) : ∀ {x : Nat}, V x → (∀ A ∈ ls, V (at30 A k)) → f x z = z → (∀ A ∈ ls, f (at30 A k) z = z) → f (sumW f x ls k) z = z := by
  induction ls with
  | nil => exact fun _ _ h _ => h
  | cons A ls ih =>
    intro x hx hA hxz hAz
    have ha := hA A (by simp)
    exact ih (h.cl _ _ hx ha) (fun B hB => hA B (by simp [hB])) (h.least hx ha hz hxz (hAz A (by simp))) (fun B hB => hAz B (by simp [hB]))
end

/-! ### The run -/
/-- What holds as Joins of `A 0 .. A (n - 1)` to a run: the words are between a and the sum; each Join's words up to its place are in. -/
structure CsI (q n : Nat) (f : Nat → Nat → Nat) (V : Nat → Prop) (a T : Nat → Nat) (A : Nat → List Nat) (x : RunT (List Int × (Nat → JnS))) : Prop where
  zl : x.s.1.length = q
  zs : ∀ k, k < q → ∃ c : Nat, ldv x.s.1 k = (c : Int) ∧ V c ∧ f (a k) c = c ∧ f c (T k) = T k
  dn : ∀ i, i < n → (x.s.2 i).en = dnAt x.dn i
  len : x.dn.length = n
  was : ∀ i, i < n → V (x.s.2 i).was
  at' : ∀ i, i < n → ∀ k, k < q → k < (x.s.2 i).k → ∀ c : Nat, ldv x.s.1 k = (c : Int) → f (at30 (A i) k) c = c
  tr : ∀ i, i < n → (x.s.2 i).tr = true → f (x.s.2 i).was (at30 (A i) (x.s.2 i).k) ≠ (x.s.2 i).was
  en : ∀ i, i < n → (x.s.2 i).en = true → q ≤ (x.s.2 i).k
  ch : ∀ i, i < n → (x.s.2 i).ch = true → ∃ k, k < q ∧ ldv x.s.1 k ≠ (a k : Int)
theorem st_ld (zs : List Int) (k j : Nat) (u : Int) (hk : k < zs.length) : ldv (stv zs (k : Int) u) j = if j = k then u else ldv zs j := by
  simp only [ldv, stv, wd, Int.natCast_nonneg, if_true, Int.toNat_natCast]
  rw [List.getElem?_set]
  by_cases h : k = j
  · subst h; simp [hk]
  · rw [if_neg h, if_neg (fun e : j = k => h e.symm)]
section
variable {q n : Nat} {f : Nat → Nat → Nat} {V : Nat → Prop} {a T : Nat → Nat} {A : Nat → List Nat}
theorem CsI.upd (S : Sem f V) (ha : ∀ k, k < q → V (a k)) (hA : ∀ i, i < n → ∀ k, V (at30 (A i) k)) {zs : List Int} {xs : Nat → JnS} {st : List Int} {dn : List Bool} (h : CsI q n f V a T A ⟨(zs, xs), st, dn⟩) {i : Nat} (hi : i < n) (zz : List Int) (y : JnS) (st' : List Int)
    (hl : zz.length = q) (hz : ∀ k, k < q → ∀ c : Nat, ldv zs k = (c : Int) → ∃ c' : Nat, ldv zz k = (c' : Int) ∧ V c' ∧ f c c' = c' ∧ f c' (T k) = T k)
    (h1 : V y.was) (h2 : ∀ k, k < q → k < y.k → ∀ c : Nat, ldv zz k = (c : Int) → f (at30 (A i) k) c = c) (h3 : y.tr = true → f y.was (at30 (A i) y.k) ≠ y.was) (h4 : y.en = true → q ≤ y.k) (h5 : y.ch = true → ∃ k, k < q ∧ ldv zz k ≠ (a k : Int)) :
    CsI q n f V a T A ⟨(zz, updJ xs i y), st', dn.set i y.en⟩ := by
  have hset := dnAt_set (l := dn) (i := i) (by have := h.len; dsimp only at this; omega)
  refine ⟨hl, fun k hk => ?_, fun j hj => ?_, by simpa using h.len, fun j hj => ?_, fun j hj k hk hkk c hc => ?_, fun j hj => ?_, fun j hj => ?_, fun j hj hch => ?_⟩
  · obtain ⟨c, e1, e2, e3, e4⟩ := h.zs k hk
    obtain ⟨c', g1, g2, g3, g4⟩ := hz k hk c e1
    exact ⟨c', g1, g2, S.trans (ha k hk) e2 g2 e3 g3, g4⟩
  · dsimp only
    rw [hset]
    by_cases hji : j = i
    · subst hji; rw [updJ_at, if_pos rfl]
    · rw [updJ_ne _ _ hji, if_neg hji]; exact h.dn j hj
  · dsimp only
    by_cases hji : j = i
    · subst hji; rw [updJ_at]; exact h1
    · rw [updJ_ne _ _ hji]; exact h.was j hj
  · dsimp only at hkk hc
    by_cases hji : j = i
    · subst hji; rw [updJ_at] at hkk; exact h2 k hk hkk c hc
    · rw [updJ_ne _ _ hji] at hkk
      obtain ⟨d, e1, e2, e3, e4⟩ := h.zs k hk
      obtain ⟨c', g1, g2, g3, g4⟩ := hz k hk d e1
      obtain rfl : c' = c := by omega
      exact S.trans (hA j hj k) e2 g2 (h.at' j hj k hk hkk d e1) g3
  · dsimp only
    by_cases hji : j = i
    · subst hji; rw [updJ_at]; exact h3
    · rw [updJ_ne _ _ hji]; exact h.tr j hj
  · dsimp only
    by_cases hji : j = i
    · subst hji; rw [updJ_at]; exact h4
    · rw [updJ_ne _ _ hji]; exact h.en j hj
  · dsimp only at hch ⊢
    by_cases hji : j = i
    · subst hji; rw [updJ_at] at hch; exact h5 hch
    · rw [updJ_ne _ _ hji] at hch
      obtain ⟨k, hk, hne⟩ := h.ch j hj hch
      dsimp only at hne
      obtain ⟨d, e1, e2, e3, e4⟩ := h.zs k hk
      obtain ⟨c', g1, g2, g3, g4⟩ := hz k hk d e1
      refine ⟨k, hk, fun he => hne ?_⟩
      obtain rfl : c' = a k := by omega
      rw [show d = a k from (S.anti (ha k hk) e2 e3 g3).symm] at e1
      exact e1
theorem CsI.same (S : Sem f V) {zs : List Int} {xs : Nat → JnS} {st : List Int} {dn : List Bool} (h : CsI q n f V a T A ⟨(zs, xs), st, dn⟩) : ∀ k, k < q → ∀ c : Nat, ldv zs k = (c : Int) → ∃ c' : Nat, ldv zs k = (c' : Int) ∧ V c' ∧ f c c' = c' ∧ f c' (T k) = T k := fun k hk c hc => by
  obtain ⟨d, e1, e2, e3, e4⟩ := h.zs k hk
  dsimp only at e1
  obtain rfl : d = c := by omega
  exact ⟨d, e1, e2, S.idem d e2, e4⟩
theorem cs_pick {x : RunT (List Int × (Nat → JnS))} (p : Int × Int) (hn : 0 < n) (S : Sem f V) (ha : ∀ k, k < q → V (a k)) (hT : ∀ k, k < q → V (T k)) (hA : ∀ i, i < n → ∀ k, V (at30 (A i) k)) (hAT : ∀ i, i < n → ∀ k, k < q → f (at30 (A i) k) (T k) = T k) (h : CsI q n f V a T A x) : CsI q n f V a T A (pickE n (stpC q f A) x p) := by
  unfold pickE
  split
  · exact h
  rename_i hd
  have hi := whoN_lt hn p.1
  generalize whoN n p.1 = i at *
  obtain ⟨⟨zs, xs⟩, st, dn⟩ := x
  dsimp only at *
  have he : (xs i).en = false := by have := h.dn i hi; dsimp only at this; rw [this]; simpa using hd
  have hzl := h.zl
  have hwas := h.was i hi
  have hat := h.at' i hi
  have htr := h.tr i hi
  have hch := h.ch i hi
  dsimp only at hzl hwas hat htr hch
  unfold stpC
  dsimp only
  have go : ∀ (zz : List Int) (y : JnS), jnZ q f (A i) 0 (xs i) zs = zz → jnX q f (A i) 0 (xs i) zs = y → CsI q n f V a T A ⟨(zz, updJ xs i y), st.set i (wd st i + 1), dn.set i y.en⟩ →
      CsI q n f V a T A ⟨(jnZ q f (A i) 0 (xs i) zs, updJ xs i (jnX q f (A i) 0 (xs i) zs)), st.set i (wd st i + 1), dn.set i (jnX q f (A i) 0 (xs i) zs).en⟩ := fun zz y e1 e2 hh => by rw [e1, e2]; exact hh
  by_cases hk : q ≤ (xs i).k
  · refine go zs { xs i with en := true } (by unfold jnZ; simp [he, hk]) (by unfold jnX; simp [he, hk]) (h.upd S ha hA hi zs _ _ hzl (h.same S) hwas hat htr (fun _ => hk) hch)
  have hkq : (xs i).k < q := by omega
  obtain ⟨c, e1, e2, e3, e4⟩ := h.zs (xs i).k hkq
  dsimp only at e1
  have e0 : ldv zs (0 + ((xs i).k : Int)) = (c : Int) := by rw [Int.zero_add]; exact e1
  cases ht : (xs i).tr with
  | true =>
    by_cases hc : c = (xs i).was
    · have hcb : casb zs (0 + ((xs i).k : Int)) (xs i).was = true := by
        unfold casb hasv
        rw [e0, hc]
        simp
        omega
      have hne := htr ht
      have hgo := hA i hi (xs i).k
      rw [← hc] at hne
      have hV := S.cl _ _ e2 hgo
      refine go (stv zs ((xs i).k : Int) (f c (at30 (A i) (xs i).k) : Nat)) ⟨true, decide (q ≤ (xs i).k + 1), (xs i).tries, (xs i).k + 1, (xs i).was, false⟩ (by unfold jnZ casv; rw [hcb, ← hc]; simp [he, hk, ht, at30]) (by unfold jnX; rw [hcb]; simp [he, hk, ht]) ?_
      have hnew := st_ld zs (xs i).k (u := ((f c (at30 (A i) (xs i).k) : Nat) : Int)) (hk := by omega)
      refine h.upd S ha hA hi _ _ _ (by rw [st_len]; exact hzl) (fun k hkk d hd' => ?_) hwas (fun k hkk hlt d hd' => ?_) (fun h => by cases h) (fun h => by simpa using h) (fun _ => ⟨(xs i).k, hkq, fun hh => ?_⟩)
      · rw [hnew]
        by_cases hkx : k = (xs i).k
        · subst hkx
          obtain rfl : c = d := by omega
          rw [if_pos rfl]
          exact ⟨_, rfl, hV, S.up e2 hgo, S.least e2 hgo (hT _ hkk) e4 (hAT i hi _ hkk)⟩
        · rw [if_neg hkx]; exact h.same S k hkk d hd'
      · rw [hnew] at hd'
        by_cases hkx : k = (xs i).k
        · subst hkx
          rw [if_pos rfl] at hd'
          obtain rfl : f c (at30 (A i) (xs i).k) = d := by omega
          exact S.up2 e2 hgo
        · rw [if_neg hkx] at hd'
          dsimp only at hlt
          exact hat k hkk (by omega) d hd'
      · rw [hnew, if_pos rfl] at hh
        have hh : f c (at30 (A i) (xs i).k) = a (xs i).k := by omega
        have u1 := S.up e2 hgo
        rw [hh] at u1
        have := S.anti (ha _ hkq) e2 e3 u1
        rw [hh, this] at hne
        exact hne rfl
    · have hcb : casb zs (0 + ((xs i).k : Int)) (xs i).was = false := by
        unfold casb
        rw [e0]
        have : ((c : Int) == ((xs i).was : Int)) = false := by simp only [beq_eq_false_iff_ne, ne_eq]; omega
        rw [this, Bool.and_false]
      exact go zs ⟨(xs i).ch, false, (xs i).tries + 1, (xs i).k, (xs i).was, false⟩ (by unfold jnZ casv; rw [hcb]; simp) (by unfold jnX; rw [hcb]; simp [he, hk, ht]) (h.upd S ha hA hi zs _ _ hzl (h.same S) hwas hat (fun h => by cases h) (fun h => by cases h) hch)
  | false =>
    by_cases hs : f c (at30 (A i) (xs i).k) = c
    · refine go zs ⟨(xs i).ch, decide (q ≤ (xs i).k + 1), (xs i).tries, (xs i).k + 1, c, false⟩ (by unfold jnZ; simp [ht]) (by unfold jnX; rw [e0]; unfold at30 at hs; simp [he, hk, ht, hs]) (h.upd S ha hA hi zs _ _ hzl (h.same S) e2 (fun k hkk hlt d hd' => ?_) (fun h => by cases h) (fun h => by simpa using h) hch)
      by_cases hkx : k = (xs i).k
      · subst hkx
        obtain rfl : c = d := by omega
        rw [S.comm _ _ (hA i hi _) e2]; exact hs
      · dsimp only at hlt
        exact hat k hkk (by omega) d hd'
    · exact go zs ⟨(xs i).ch, false, (xs i).tries, (xs i).k, c, true⟩ (by unfold jnZ; simp [ht]) (by unfold jnX; rw [e0]; unfold at30 at hs; simp [he, hk, ht, hs]) (h.upd S ha hA hi zs _ _ hzl (h.same S) e2 hat (fun _ => hs) (fun h => by cases h) hch)
theorem cs_run (hn : 0 < n) (S : Sem f V) (ha : ∀ k, k < q → V (a k)) (hT : ∀ k, k < q → V (T k)) (hA : ∀ i, i < n → ∀ k, V (at30 (A i) k)) (hAT : ∀ i, i < n → ∀ k, k < q → f (at30 (A i) k) (T k) = T k) (L : List (Int × Int)) : ∀ {x : RunT (List Int × (Nat → JnS))}, CsI q n f V a T A x → CsI q n f V a T A (runE n (stpC q f A) x L) := by
  induction L with
  | nil => exact fun h => h
  | cons p L ih => exact fun h => ih (cs_pick p hn S ha hT hA hAT h)
end

end Go.Proofs.Yteheckcflnogbaa
