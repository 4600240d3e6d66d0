/-
  Many takes of one node: what a run of them comes to. Written by wip/gen/mktk3.py.
-/
import Derived.Test.YteheckcflnogbaaSch3
import Derived.Test.YteheckcflnogbaaTk2
import Derived.Test.YteheckcflnogbaaRec5
namespace Go.Proofs.Yteheckcflnogbaa
open Go.RowKit

def cntB (p : Nat → Bool) : Nat → Nat
  | 0 => 0
  | n + 1 => cntB p n + (if p n = true then 1 else 0)
theorem cntB_congr {p q : Nat → Bool} {n : Nat} (h : ∀ i, i < n → p i = q i) : cntB p n = cntB q n := by
  induction n with
  | zero => rfl
  | succ n ih => unfold cntB; rw [ih (fun i hi => h i (by omega)), h n (by omega)]
theorem cntB_upd {p q : Nat → Bool} {n i : Nat} (hi : i < n) (h : ∀ j, j < n → j ≠ i → q j = p j) : cntB q n + (if p i = true then 1 else 0) = cntB p n + (if q i = true then 1 else 0) := by
  induction n with
  | zero => omega
  | succ n ih =>
    unfold cntB
    by_cases hn : i = n
    · subst hn
      rw [cntB_congr (p := q) (q := p) (fun j hj => h j (by omega) (by omega))]
      omega
    · have := ih (by omega) (fun j hj hne => h j (by omega) hne)
      rw [h n (by omega) (fun e => hn e.symm)]
      omega
theorem cntB_le {p q : Nat → Bool} {n : Nat} (h : ∀ i, i < n → p i = true → q i = true) : cntB p n ≤ cntB q n := by
  induction n with
  | zero => exact Nat.le_refl _
  | succ n ih =>
    unfold cntB
    have h1 := ih (fun i hi => h i (by omega))
    have h2 := h n (by omega)
    cases hp : p n <;> cases hq : q n <;> simp_all <;> omega
theorem cntB_zero {p : Nat → Bool} {n i : Nat} (h : cntB p n = 0) (hi : i < n) : p i = false := by
  induction n with
  | zero => omega
  | succ n ih =>
    unfold cntB at h
    by_cases hn : i = n
    · subst hn; cases hp : p i <;> simp_all
    · exact ih (by omega) (by omega)
def updT (f : Nat → TkS) (i : Nat) (x : TkS) (j : Nat) : TkS := if j = i then x else f j
theorem updT_at (f : Nat → TkS) (i : Nat) (x : TkS) : updT f i x i = x := by simp [updT]
theorem updT_ne (f : Nat → TkS) {i j : Nat} (x : TkS) (h : j ≠ i) : updT f i x j = f j := by simp [updT, h]
/-- The step of machine i. -/
def stpT (s : List Int × (Nat → TkS)) (i : Nat) (_ : Int) : (List Int × (Nat → TkS)) × Bool := ((tkZ 0 0 (s.2 i) s.1, updT s.2 i (tkX 0 1 0 (s.2 i) s.1)), tkB 0 0 (s.2 i) s.1)
def tkC (s : Nat → TkS) (n : Nat) : Nat := cntB (fun i => (s i).taken) n
def tkE (s : Nat → TkS) (n : Nat) : Nat := cntB (fun i => (s i).taken && (s i).ended) n
structure TkI (n : Nat) (x : RunT (List Int × (Nat → TkS))) : Prop where
  zs : x.s.1 = [(tkC x.s.2 n : Int), (tkE x.s.2 n : Int)]
  one : tkC x.s.2 n ≤ 1
  at' : ∀ i, i < n → (x.s.2 i).taken = true → (x.s.2 i).at' = 1
  new : ∀ i, i < n → (x.s.2 i).new = (x.s.2 i).taken
  dn : ∀ i, i < n → (x.s.2 i).ended = dnAt x.dn i
  len : x.dn.length = n
  few : ∀ i, i < n → (x.s.2 i).ended = true → (x.s.2 i).taken = false → tkC x.s.2 n = 1
theorem dnAt_set {l : List Bool} {i : Nat} (h : i < l.length) (b : Bool) (j : Nat) : dnAt (l.set i b) j = if j = i then b else dnAt l j := by
  unfold dnAt
  rw [List.getElem?_set]
  by_cases hj : i = j
  · subst hj; simp [h]
  · rw [if_neg hj, if_neg (fun e => hj e.symm)]
theorem tk_pick {n : Nat} {x : RunT (List Int × (Nat → TkS))} (p : Int × Int) (hn : 0 < n) (h : TkI n x) : TkI n (pickE n stpT x p) := by
  unfold pickE
  split
  · exact h
  rename_i hd
  have hi := whoN_lt hn p.1
  generalize whoN n p.1 = i at *
  obtain ⟨⟨zs, xs⟩, st, dn⟩ := x
  obtain ⟨h1, h2, h3, h4, h5, h6, h7⟩ := h
  dsimp only at *
  have he : (xs i).ended = false := by rw [h5 i hi]; simpa using hd
  have hset := dnAt_set (l := dn) (i := i) (by omega)
  have hle : tkE xs n ≤ tkC xs n := cntB_le (fun j _ hj => by simp at hj; exact hj.1)
  cases ht : (xs i).taken with
  | true =>
    have hX : tkX 0 1 0 (xs i) zs = ⟨(xs i).new, true, (xs i).at', true⟩ := by unfold tkX; simp [he, ht]
    have hZ : tkZ 0 0 (xs i) zs = addv zs 1 1 := by unfold tkZ; rw [if_neg (by simp [he]), if_pos ht, h3 i hi ht]
    have hB : tkB 0 0 (xs i) zs = true := by unfold tkB; simp [ht]
    have e1 : tkC (updT xs i ⟨(xs i).new, true, (xs i).at', true⟩) n = tkC xs n := cntB_congr (fun j _ => by
      by_cases hj : j = i
      · subst hj; simp [updT, ht]
      · simp [updT, hj])
    have e2 : tkE (updT xs i ⟨(xs i).new, true, (xs i).at', true⟩) n = tkE xs n + 1 := by
      have := cntB_upd (p := fun j => (xs j).taken && (xs j).ended) (q := fun j => (updT xs i ⟨(xs i).new, true, (xs i).at', true⟩ j).taken && (updT xs i ⟨(xs i).new, true, (xs i).at', true⟩ j).ended) hi (fun j _ hj => by simp [updT, hj])
      simp [he, updT_at] at this
      exact this
    unfold stpT
    simp only [hX, hZ, hB]
    refine ⟨?_, ?_, ?_, ?_, ?_, ?_, ?_⟩
    · dsimp only
      rw [e1, e2, h1]
      have hle2 : (tkE xs n : Int) ≤ 1 := by omega
      generalize tkE xs n = c at *
      have hw : IntKind.u64.wrap ((c : Int) + 1) = ((c + 1 : Nat) : Int) := by rw [show ((c + 1 : Nat) : Int) = (c : Int) + 1 from by omega]; exact IntWalk.u64_in _ (by omega)
      unfold addv stv addw ldv hasv
      simp [wd, hw]
    · rw [e1]; exact h2
    · intro j hj
      dsimp only
      by_cases hji : j = i
      · subst hji; rw [updT_at]; exact fun _ => h3 j hj ht
      · rw [updT_ne _ _ hji]; exact h3 j hj
    · intro j hj
      dsimp only
      by_cases hji : j = i
      · subst hji; rw [updT_at]; exact (h4 j hj).trans ht
      · rw [updT_ne _ _ hji]; exact h4 j hj
    · intro j hj
      dsimp only
      rw [hset true j]
      by_cases hji : j = i
      · subst hji; rw [updT_at]; simp
      · rw [updT_ne _ _ hji, if_neg hji]; exact h5 j hj
    · simpa using h6
    · intro j hj
      dsimp only
      by_cases hji : j = i
      · subst hji; rw [updT_at]; intro _ h; cases h
      · rw [updT_ne _ _ hji, e1]; exact h7 j hj
  | false =>
    have hX : tkX 0 1 0 (xs i) zs = ⟨casb zs 0 0, !(casb zs 0 0), 1, casb zs 0 0⟩ := by unfold tkX; simp [he, ht]
    have hZ : tkZ 0 0 (xs i) zs = casv zs 0 0 1 := by unfold tkZ; simp [he, ht]
    have hB : tkB 0 0 (xs i) zs = !(casb zs 0 0) := by unfold tkB; simp [he, ht]
    have hq : casb zs 0 0 = decide (tkC xs n = 0) := by
      rw [h1]
      unfold casb ldv hasv
      generalize tkC xs n = c
      by_cases hc : c = 0
      · simp [wd, hc]
      · have : ((c : Int) == 0) = false := by simp; omega
        simp [wd]
        rw [this]
        simp [hc]
    have e1 : ∀ q, tkC (updT xs i ⟨q, !q, 1, q⟩) n = tkC xs n + (if q = true then 1 else 0) := fun q => by
      have := cntB_upd (p := fun j => (xs j).taken) (q := fun j => (updT xs i ⟨q, !q, 1, q⟩ j).taken) hi (fun j _ hj => by simp [updT, hj])
      simp only [ht, updT_at] at this
      exact this
    have e2 : ∀ q, tkE (updT xs i ⟨q, !q, 1, q⟩) n = tkE xs n := fun q => cntB_congr (fun j _ => by
      by_cases hj : j = i
      · subst hj; cases q <;> simp [updT, he, ht]
      · simp [updT, hj])
    have hz : casv zs 0 0 1 = [(tkC xs n : Int) + (if casb zs 0 0 = true then 1 else 0), (tkE xs n : Int)] := by
      unfold casv
      rw [hq]
      by_cases hc : tkC xs n = 0
      · simp only [hc, decide_true, if_true]
        rw [h1]; simp [stv, hc]
      · simp only [hc, decide_false, Bool.false_eq_true, if_false]
        rw [h1]; simp
    unfold stpT
    simp only [hX, hZ, hB]
    refine ⟨?_, ?_, ?_, ?_, ?_, ?_, ?_⟩
    · dsimp only
      rw [e1, e2, hz]
      cases casb zs 0 0 <;> simp
    · dsimp only
      rw [e1, hq]
      by_cases hc : tkC xs n = 0
      · simp [hc]
      · simp [hc]; exact h2
    · intro j hj
      dsimp only
      by_cases hji : j = i
      · subst hji; rw [updT_at]; exact fun _ => rfl
      · rw [updT_ne _ _ hji]; exact h3 j hj
    · intro j hj
      dsimp only
      by_cases hji : j = i
      · subst hji; rw [updT_at]
      · rw [updT_ne _ _ hji]; exact h4 j hj
    · intro j hj
      dsimp only
      rw [hset _ j]
      by_cases hji : j = i
      · subst hji; rw [updT_at]; simp
      · rw [updT_ne _ _ hji, if_neg hji]; exact h5 j hj
    · simpa using h6
    · intro j hj
      dsimp only
      rw [e1, hq]
      by_cases hji : j = i
      · subst hji
        rw [updT_at]
        by_cases hc : tkC xs n = 0
        · simp [hc]
        · simp [hc]; omega
      · rw [updT_ne _ _ hji]
        intro g1 g2
        have := h7 j hj g1 g2
        simp [this]
theorem tk_run {n : Nat} (hn : 0 < n) (L : List (Int × Int)) : ∀ {x : RunT (List Int × (Nat → TkS))}, TkI n x → TkI n (runE n stpT x L) := by
  induction L with
  | nil => exact fun h => h
  | cons p L ih => exact fun h => ih (tk_pick p hn h)
theorem cntB_no (n : Nat) : cntB (fun _ => false) n = 0 := by
  induction n with
  | zero => rfl
  | succ n ih => unfold cntB; rw [ih]; rfl
theorem tk_start (n : Nat) : TkI n (startR n (fun _ => false) ([0, 0], fun _ => ⟨false, false, 0, false⟩)) := by
  have h1 : tkC (fun _ => ⟨false, false, 0, false⟩) n = 0 := cntB_no n
  have h2 : tkE (fun _ => ⟨false, false, 0, false⟩) n = 0 := cntB_no n
  refine ⟨?_, ?_, ?_, ?_, ?_, ?_, ?_⟩
  · unfold startR; dsimp only; rw [h1, h2]; rfl
  · unfold startR; dsimp only; rw [h1]; omega
  · intro i _ h; cases h
  · intro i _; rfl
  · intro i hi; unfold startR dnAt; simp [hi]
  · unfold startR; simp
  · intro i _ h; cases h
theorem TkI.fin {n : Nat} {x : RunT (List Int × (Nat → TkS))} (h : TkI n x) (hn : 0 < n) (hl : leftE x.dn = 0) : tkE x.s.2 n = 1 := by
  have ha := left_zero.1 hl
  have hE : tkE x.s.2 n = tkC x.s.2 n := cntB_congr (fun i hi => by
    have := h.dn i hi
    rw [ha i (by rw [h.len]; exact hi)] at this
    simp [this])
  rw [hE]
  have h1 := h.one
  by_cases hc : tkC x.s.2 n = 0
  · have ht := cntB_zero (p := fun i => (x.s.2 i).taken) hc hn
    have := h.few 0 hn ((h.dn 0 hn).trans (ha 0 (by rw [h.len]; exact hn))) ht
    omega
  · omega
/-- The machines' blocks are bs; the memory is a Plain. -/
def TkJ (b g : Nat) (bs : List Nat) (w : World) (s : List Int × (Nat → TkS)) (S : List Nat) : Prop := S = b :: g :: bs ∧ Pm w b g s.1 ∧ ∀ i, i < bs.length → Tk w (bs[i]?.getD 0) 0 1 0 (s.2 i)
def tkp (bs : List Nat) (i : Nat) : Value := .pointer (some ⟨bs[i]?.getD 0, 0, none⟩)
theorem tk_in {bs : List Nat} {i : Nat} (h : i < bs.length) : bs[i]?.getD 0 ∈ bs := by simp [h]
theorem tk_mach (Wb : World) (b g : Nat) (bs : List Nat) (hnd : bs.Nodup) : Mach Wb bs.length (TkJ b g bs) stpT 64 (.pointer (some ⟨b, 0, none⟩)) (fun _ => false) (fun _ => 147) (tkp bs) (tkp bs) (fun _ => 150) where
  step S s i d w hi _ h _ := by
    obtain ⟨rfl, hP, hT⟩ := h
    refine (tkstep_any d 0 1 0 (bs[i]?.getD 0) b g (s.2 i) s.1 w (hT i hi) hP (by decide) (by decide)).mono ?_
    rintro e w' ⟨rfl, hT', hP', hF⟩
    have hne : ∀ j, j < bs.length → bs[j]?.getD 0 ≠ g := fun j hj => Bk.ne (hT j hj) hP.2.1 (by decide)
    refine ⟨rfl, _, ⟨rfl, hP', fun j hj => ?_⟩, hF.mono (fun k hk => ?_), fun k hk => .inl hk⟩
    · by_cases hji : j = i
      · subst hji
        unfold stpT; dsimp only; rw [updT_at]; exact hT'
      · unfold stpT; dsimp only; rw [updT_ne _ _ hji]
        refine (hT j hj).fr hF (fun hm => ?_)
        simp only [List.mem_cons, List.not_mem_nil, or_false] at hm
        rcases hm with hm | hm
        · simp only [List.getElem?_eq_getElem hi, List.getElem?_eq_getElem hj, Option.getD_some] at hm
          exact hji ((List.getElem_inj hnd).1 hm)
        · exact hne j hj hm
    · simp only [List.mem_cons, List.not_mem_nil, or_false] at hk
      rcases hk with rfl | rfl
      · exact List.mem_cons_of_mem _ (List.mem_cons_of_mem _ (tk_in hi))
      · simp
  enter _ := enters_of Try.func150 (by kernel_rfl) rfl
  nila i w _ _ := by unfold tkp; generalize bs[i]?.getD 0 = tb; kernel_rfl
  meth i w _ _ := by unfold tkp; generalize bs[i]?.getD 0 = tb; kernel_rfl
  keep T S s w w' h k hs := by
    obtain ⟨rfl, hP, hT⟩ := h
    exact ⟨rfl, ⟨hP.1.fr k (hs b (by simp)), hP.2.1.fr k (hs g (by simp)), hP.2.2⟩, fun i hi => (hT i hi).fr k (hs _ (List.mem_cons_of_mem _ (List.mem_cons_of_mem _ (tk_in hi))))⟩
  lt S s w h k hk := by
    obtain ⟨rfl, hP, hT⟩ := h
    simp only [List.mem_cons] at hk
    rcases hk with rfl | rfl | hk
    · exact hP.1.lt
    · exact hP.2.1.lt
    · obtain ⟨i, hi, rfl⟩ := List.getElem_of_mem hk
      have := (hT i hi).lt
      simpa [hi] using this


end Go.Proofs.Yteheckcflnogbaa
