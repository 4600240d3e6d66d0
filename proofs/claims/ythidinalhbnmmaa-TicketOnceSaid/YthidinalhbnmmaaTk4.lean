/-
  soughlaw31.TicketOnce: its walk. Written by wip/gen/mktk4.py.
-/
import Derived.Test.YthidinalhbnmmaaTk3
import Derived.BigQuiet
namespace Go.Proofs.Ythidinalhbnmmaa
open Go.RowKit

theorem pt_info : (Try.prog.info? 101).map (fun i => (i.zero, i.size, i.bytes)) = some (some (.pointer none), 1, 8) := by kernel_rfl
theorem ma_info : (Try.prog.info? 225).map (fun i => (i.zero, i.size, i.bytes)) = some (some Value.nilIface, 1, 16) := by kernel_rfl
def tkpc (bs : List Nat) : List Value := bs.map fun b => .pointer (some ⟨b, 0, none⟩)
def tkmc (bs : List Nat) : List Value := bs.map fun b => .iface 101 (.pointer (some ⟨b, 0, none⟩))
theorem wfu8 {n : Int} (h : (Lit.int .u8 n).wf = true) : 0 ≤ n ∧ n ≤ 255 := by
  simp only [Lit.wf, Bool.and_eq_true, decide_eq_true_eq] at h
  exact ⟨h.1, h.2⟩
/-- What holds as the takes are made. -/
structure Tl (W w : World) (b g bb : Nat) (bs la lm : List Nat) (va vm : Value) : Prop where
  p : Pm w b g [0, 0]
  bd : Bk w bb 98 [.int .i64 0, .int .i64 1]
  ra : w.ownsRow W.heap.size 101 1 va la.length (tkpc la)
  rm : w.ownsRow W.heap.size 225 1 vm lm.length (tkmc lm)
  tk : ∀ x ∈ bs, Tk w x 0 1 0 ⟨false, false, 0, false⟩
  nd : bs.Nodup
  new : ∀ x ∈ bs, W.heap.size ≤ x
  at' : W.heap.size ≤ b ∧ W.heap.size ≤ g ∧ W.heap.size ≤ bb
  fr : Fr [] W w
theorem Tl.take {W w : World} {b g bb : Nat} {bs la lm : List Nat} {va vm : Value} (h : Tl W w b g bb bs la lm va vm) : Tl W (w.alloc (.cells #[.int .i64 0, .int .i64 1, .int .i64 0, .bool false, .bool false, .int .i64 0, .bool false] 105)) b g bb (bs ++ [w.heap.size]) la lm va vm := by
  have hk := (Below.refl w.heap.size w).alloc (Nat.le_refl _) (.cells #[.int .i64 0, .int .i64 1, .int .i64 0, .bool false, .bool false, .int .i64 0, .bool false] 105)
  have hs := h.fr.size
  refine ⟨h.p.below hk, h.bd.alloc _, h.ra.alloc _, h.rm.alloc _, fun x hx => ?_, ?_, fun x hx => ?_, h.at', h.fr.alloc _⟩
  · rcases List.mem_append.1 hx with hx | hx
    · exact Bk.alloc (h.tk x hx) _
    · rw [List.mem_singleton.1 hx]; exact Bk.new w 105 [_, _, _, _, _, _, _]
  · refine List.nodup_append.2 ⟨h.nd, by simp, fun x hx y hy he => ?_⟩
    rw [List.mem_singleton.1 hy] at he
    have := (h.tk x hx).lt
    omega
  · rcases List.mem_append.1 hx with hx | hx
    · exact h.new x hx
    · rw [List.mem_singleton.1 hx]; exact hs
theorem own_new {w : World} {base e size n : Nat} {v : Value} {xs : List Value} (h : w.ownsRow base e size v n xs) : ∀ k ∈ rowB v, base ≤ k := fun k hk => (h.lt k (rowB_mem.1 hk)).1
theorem Tl.growA {W w w' : World} {b g bb x : Nat} {bs la lm : List Nat} {va vm v' : Value} {o : Obj} (h : Tl W w b g bb bs la lm va vm) (hk : (w.alloc o).grownBy w' va.ownBlock) (ho : w'.ownsRow W.heap.size 101 1 v' (la.length + 1) (tkpc la ++ [.pointer (some ⟨x, 0, none⟩)])) : Tl W w' b g bb bs (la ++ [x]) lm v' vm := by
  have hf := fr_grown hk
  have e1 : tkpc (la ++ [x]) = tkpc la ++ [.pointer (some ⟨x, 0, none⟩)] := by simp [tkpc]
  exact ⟨⟨h.p.1.fr hf (own_ne h.ra h.p.1 (by decide)), h.p.2.1.fr hf (own_ne h.ra h.p.2.1 (by decide)), h.p.2.2⟩, h.bd.fr hf (own_ne h.ra h.bd (by decide)),
    by rw [e1, List.length_append]; exact ho, own_fr h.rm hf (fun k hk hm => own_apart h.ra h.rm (by decide) k hm (rowB_mem.2 hk)),
    fun y hy => (h.tk y hy).fr hf (own_ne h.ra (h.tk y hy) (by decide)), h.nd, h.new, h.at', h.fr.from hf (fun i hi hl => by have := own_new h.ra i hi; omega)⟩
theorem Tl.growM {W w w' : World} {b g bb x : Nat} {bs la lm : List Nat} {va vm v' : Value} {o : Obj} (h : Tl W w b g bb bs la lm va vm) (hk : (w.alloc o).grownBy w' vm.ownBlock) (ho : w'.ownsRow W.heap.size 225 1 v' (lm.length + 1) (tkmc lm ++ [.iface 101 (.pointer (some ⟨x, 0, none⟩))])) : Tl W w' b g bb bs la (lm ++ [x]) va v' := by
  have hf := fr_grown hk
  have e1 : tkmc (lm ++ [x]) = tkmc lm ++ [.iface 101 (.pointer (some ⟨x, 0, none⟩))] := by simp [tkmc]
  exact ⟨⟨h.p.1.fr hf (own_ne h.rm h.p.1 (by decide)), h.p.2.1.fr hf (own_ne h.rm h.p.2.1 (by decide)), h.p.2.2⟩, h.bd.fr hf (own_ne h.rm h.bd (by decide)),
    own_fr h.ra hf (fun k hk hm => own_apart h.rm h.ra (by decide) k hm (rowB_mem.2 hk)), by rw [e1, List.length_append]; exact ho,
    fun y hy => (h.tk y hy).fr hf (own_ne h.rm (h.tk y hy) (by decide)), h.nd, h.new, h.at', h.fr.from hf (fun i hi hl => by have := own_new h.rm i hi; omega)⟩
theorem row_at {w : World} {base e n : Nat} {v : Value} {xs : List Value} (h : w.ownsRow base e 1 v n xs) (h0 : 0 < n) : ∃ lb c, v = .slice (some ⟨lb, 0, none⟩) n c ∧ lb ∈ rowB v ∧ ∀ i u, xs[i]? = some u → w.cell? ⟨lb, i, none⟩ = some u := by
  have hc := h
  obtain ⟨hl, ⟨rfl, rfl⟩ | ⟨g, cap, cur, rfl, _⟩⟩ := h
  · simp at hl; omega
  · refine ⟨g, cap, rfl, rowB_mem.2 rfl, fun i u hu => ?_⟩
    have := hc.cells (g := g) rfl i u hu
    rwa [Addr.add_lit, Nat.zero_add] at this
theorem one_new (w : World) (u : Value) (t : TypeId) : ∀ j x, [u][j]? = some x → (w.alloc (.cells #[u] t)).cell? ((⟨w.heap.size, 0, none⟩ : Addr).add j) = some x := fun j x hu => by
  rw [Addr.add_lit, Nat.zero_add, (Bk.new w t [u]).cell]
  exact hu

set_option maxHeartbeats 3200000 in
set_option maxRecDepth 100000 in
theorem ticketOnce_walk (n : Int) (vp : Value) (L : List (Int × Int)) (W : World) (hw : (Lit.int .u8 n).wf = true) (hL : Picks W vp L) :
    Calls Try.prog 11 #[.int .u8 n, vp] W fun e w' => e = .returned (.bool true) ∧ Below W.heap.size W w' := by
  obtain ⟨pb, hLB, hpl⟩ := Picks.b hL
  have HL := Lib.hid hLB
  have HPL := Lib.hid hpl
  obtain ⟨o, c, rfl, _⟩ := hLB
  clear hL hpl
  obtain ⟨hn0, hn1⟩ := wfu8 hw
  by_cases h1 : 100 < L.length
  · have d1 : decide ((100 : Int) < L.length) = true := by simp; omega
    clear h1
    go_enter Try.func11, Try.ntmps11
    go_wp2_with fail
    refine (awake31_any _).mono ?_
    rintro e w1 ⟨rfl, hB⟩
    go_wp2_with fail
    go_ret
    exact ⟨rfl, hB⟩
  have d1 : decide ((100 : Int) < L.length) = false := by simp; omega
  go_enter Try.func11, Try.ntmps11
  go_wp2_with fail
  refine (awake31_any _).mono ?_
  rintro e w1 ⟨rfl, hB⟩
  have HF1 := Lib.hid (show Fr [] W w1 from .of hB)
  clear hB
  go_wp2_with fail
  refine (newPlain_any _ _).mono ?_
  rintro e w2 ⟨b, g, rfl, hP, hB, hb, hg⟩
  rw [show List.replicate (memn 2) (0 : Int) = [0, 0] from rfl] at hP
  have hs1 := HF1.out.size
  have HT0 := Lib.hid (show Tl W w2 b g w1.heap.size [] [] [] (.slice none 0 0) (.slice none 0 0) from
    ⟨hP, (Bk.new w1 98 [.int .i64 0, .int .i64 1]).below hB, World.ownsRow_nil _ _ _ _, World.ownsRow_nil _ _ _ _, by simp, by simp, by simp, by
      simp at hb hg; omega, (HF1.out.alloc _).trans (.of hB)⟩)
  generalize w1.heap.size = bb at *
  clear hP hB hb hg hs1 HF1
  obtain ⟨r, hr⟩ : ∃ r : Nat, 1 + n % 9 = (r : Int) := ⟨(1 + n % 9).toNat, by omega⟩
  have hr1 : 1 ≤ r := by omega
  have hr9 : r ≤ 9 := by omega
  obtain ⟨i0, hi, hz0, hz1, hz2⟩ := info_parts pt_info
  obtain ⟨j0, hj, hy0, hy1, hy2⟩ := info_parts ma_info
  go_wp2_with fail
  try rw [hr]
  go_loopw [7, 8, 26] (fun va vm i wr => ∃ bs : List Nat, bs.length ≤ r ∧ i = .int .u8 bs.length ∧ Tl W wr b g bb bs bs bs va vm)
    (fun _ _ i _ => r - (intOf i).toNat)
  case atStart => exact ⟨[], Nat.zero_le _, rfl, HT0.out⟩
  case round =>
    obtain ⟨bs, hk, rfl, hT⟩ := hrel
    have HT := Lib.hid hT
    clear hT HT0
    by_cases hlt : bs.length < r
    · obtain ⟨k, hkk⟩ : ∃ k, k = bs.length := ⟨_, rfl⟩
      have HK := Lib.hid hkk
      rw [← hkk] at hk hlt ⊢
      clear hkk
      have c0 : wr.cell? ⟨bb, 0, none⟩ = some (.int .i64 0) := HT.out.bd.cell 0
      have c1 : wr.cell? ⟨bb, 1, none⟩ = some (.int .i64 1) := HT.out.bd.cell 1
      have HT1 := Lib.hid HT.out.take
      go_wp2_with (at_builtin; refine wpList_append_own _ rfl _ _ 99 rfl W.heap.size 101 i0 (.pointer none) 1 8 Try.underlying99 hi hz0 hz1 hz2 rfl (by decide) _ _ _ rfl (HT1.out.ra.alloc _) ⟨wr.heap.size + 1, 0, none⟩ 1 1 [.pointer (some ⟨wr.heap.size, 0, none⟩)] rfl rfl ?a1 ?a2 ?a3 ?a4 ?a5 ?_)
      case a1 =>
        have := one_new (wr.alloc (.cells #[.int .i64 0, .int .i64 1, .int .i64 0, .bool false, .bool false, .int .i64 0, .bool false] 105)) (.pointer (some ⟨wr.heap.size, 0, none⟩)) 101
        rw [World.size_alloc] at this
        exact this
      case a2 => simp [Value.oneCell']
      case a3 => have := HK.out; unfold maxLen; omega
      case a4 => have := HK.out; omega
      case a5 => have := HT1.out.fr.size; rw [World.size_alloc]; omega
      intro va' w3 hown' hgrow _
      have HT2 := Lib.hid (HT1.out.growA hgrow hown')
      clear hown' hgrow
      go_wp2_with (at_builtin; refine wpList_append_own _ rfl _ _ 100 rfl W.heap.size 225 j0 Value.nilIface 1 16 Try.underlying100 hj hy0 hy1 hy2 rfl (by decide) _ _ _ rfl (HT2.out.rm.alloc _) ⟨w3.heap.size, 0, none⟩ 1 1 [.iface 101 (.pointer (some ⟨wr.heap.size, 0, none⟩))] rfl rfl ?b1 ?b2 ?b3 ?b4 ?b5 ?_)
      case b1 => exact one_new _ _ _
      case b2 => simp [Value.oneCell']
      case b3 => have := HK.out; unfold maxLen; omega
      case b4 => have := HK.out; omega
      case b5 => have := HT2.out.fr.size; rw [World.size_alloc]; omega
      intro vm' w4 hown' hgrow _
      have HT3 := Lib.hid (HT2.out.growM hgrow hown')
      clear hown' hgrow
      go_wp2_with fail
      go_roundw
      case rel => exact ⟨bs ++ [wr.heap.size], by have := HK.out; simp; omega, by rw [List.length_append, ← HK.out]; go_num, HT3.out⟩
      case measure => have := HK.out; simp [intOf]; omega
    · obtain ⟨lb, cm, rfl, hlb, hcm⟩ := row_at HT.out.rm (by omega)
      obtain ⟨ab, ca, rfl, _, hca⟩ := row_at HT.out.ra (by omega)
      have hrn : r = bs.length := by omega
      subst hrn
      have HRL := Lib.hid (show Machs wr (.slice (some ⟨lb, 0, none⟩) bs.length cm) bs.length (fun _ => false) (fun _ => 101) (tkp bs) lb from ⟨_, cm, rfl, fun _ => ⟨0, rfl, fun i hi => by rw [Nat.zero_add]; exact hcm i _ (by simp [tkmc, machV, tkp, hi])⟩⟩)
      have HCA := Lib.hid (show ∀ i, i < bs.length → wr.cell? ⟨ab, i, none⟩ = some (tkp bs i) from fun i hi => hca i _ (by simp [tkpc, tkp, hi]))
      have HLB := Lib.hid hlb
      have HJ := Lib.hid (show TkJ b g bs wr ([0, 0], fun _ => ⟨false, false, 0, false⟩) (b :: g :: bs) from ⟨rfl, HT.out.p, fun i hi => HT.out.tk _ (tk_in hi)⟩)
      have HP := Lib.hid (HL.out.fr HT.out.fr (by simp))
      have HAB := Lib.hid (show ∀ x ∈ b :: g :: bs, x ≠ ab ∧ x ≠ lb ∧ x ≠ bb ∧ W.heap.size ≤ x from fun x hx => by
        have ha : ab ∈ rowB (.slice (some ⟨ab, 0, none⟩) bs.length ca) := rowB_mem.2 rfl
        rcases List.mem_cons.1 hx with rfl | hx
        · exact ⟨fun e => own_ne HT.out.ra HT.out.p.1 (by decide) (e ▸ ha), fun e => own_ne HT.out.rm HT.out.p.1 (by decide) (e ▸ hlb), Bk.ne HT.out.p.1 HT.out.bd (by decide), HT.out.at'.1⟩
        rcases List.mem_cons.1 hx with rfl | hx
        · exact ⟨fun e => own_ne HT.out.ra HT.out.p.2.1 (by decide) (e ▸ ha), fun e => own_ne HT.out.rm HT.out.p.2.1 (by decide) (e ▸ hlb), Bk.ne HT.out.p.2.1 HT.out.bd (by decide), HT.out.at'.2.1⟩
        · exact ⟨fun e => own_ne HT.out.ra (HT.out.tk x hx) (by decide) (e ▸ ha), fun e => own_ne HT.out.rm (HT.out.tk x hx) (by decide) (e ▸ hlb), Bk.ne (HT.out.tk x hx) HT.out.bd (by decide), HT.out.new x hx⟩)
      clear hcm hca hlb hlt hk
      go_wp2_with fail
      refine (run_any (tk_mach b g bs HT.out.nd) _ _ L _ _ lb pb _ HJ.out HRL.out HP.out (fun _ hm => (HAB.out _ hm).2.1 rfl) (fun h0 hm => by have := HPL.out h0; have := (HAB.out _ hm).2.2.2; omega) (by omega) (by omega)).mono ?_
      rintro e w5 ⟨k, sb, db, S', hst, rfl, hbs, hbd, hl1, hl2, ⟨rfl, hP5, hT5⟩, hf, hnw, hs1, hs2, hne⟩
      have hTI := tk_run (n := bs.length) (by omega) (L.take k) (tk_start bs.length)
      generalize runE bs.length stpT _ (L.take k) = x at *
      have HTI := Lib.hid hTI
      have HA := Lib.hid (fun i (hi : i < bs.length) => cell_fr (HCA.out i hi) hf (fun hm => (HAB.out _ hm).1 rfl))
      have HB5 := Lib.hid (HT.out.bd.fr hf (fun hm => (HAB.out _ hm).2.2.1 rfl))
      have HF5 := Lib.hid (show Fr [] W w5 from HT.out.fr.from hf (fun i hi hl => by have := (HAB.out i hi).2.2.2; omega))
      have HP5 := Lib.hid hP5
      have HT5 := Lib.hid hT5
      have HBD := Lib.hid hbd
      have HL2 := Lib.hid hl2
      have HCAB := Lib.hid HCA.out
      clear hTI hP5 hT5 hbd hl2 hst hbs hl1 hf hnw hs1 hs2 hne
      go_wp2_with fail
      have HRB := Lib.hid (Bk.new w5 88 [.slice (some ⟨sb, 0, none⟩) bs.length bs.length, .slice (some ⟨db, 0, none⟩) bs.length bs.length, .int .i64 k])
      have HW6 := Lib.hid (show Fr [] w5 (w5.alloc (.cells #[.slice (some ⟨sb, 0, none⟩) bs.length bs.length, .slice (some ⟨db, 0, none⟩) bs.length bs.length, .int .i64 k] 88)) from (Fr.refl _ _).alloc _)
      generalize (w5.alloc (.cells #[.slice (some ⟨sb, 0, none⟩) bs.length bs.length, .slice (some ⟨db, 0, none⟩) bs.length bs.length, .int .i64 k] 88)) = w6 at *
      go_loopw [11, 12, 48] (fun t e i wr => ∃ k2 c1 c2 : Nat, k2 ≤ bs.length ∧ i = .int .i64 k2 ∧ t = .int .i64 c1 ∧ e = .int .i64 c2 ∧ c1 ≤ k2 ∧ c2 ≤ k2 ∧ Hid (c1 = tkC x.s.2 k2 ∧ c2 = tkE x.s.2 k2) ∧ Fr [] w6 wr)
        (fun _ _ i _ => bs.length - (intOf i).toNat)
      case atStart => exact ⟨0, 0, 0, Nat.zero_le _, rfl, rfl, rfl, Nat.le_refl _, Nat.le_refl _, Lib.hid ⟨rfl, rfl⟩, Fr.refl _ _⟩
      case round =>
        obtain ⟨k2, n1, n2, hk2, rfl, rfl, rfl, hn1, hn2, HN, hF⟩ := hrel
        have HF := Lib.hid hF
        have F5 := Lib.hid (HW6.out.trans hF)
        have r0 : wr.cell? ⟨w5.heap.size, 0, none⟩ = some (.slice (some ⟨sb, 0, none⟩) bs.length bs.length) := (HRB.out.fr hF (by simp)).cell 0
        have r1 : wr.cell? ⟨w5.heap.size, 1, none⟩ = some (.slice (some ⟨db, 0, none⟩) bs.length bs.length) := (HRB.out.fr hF (by simp)).cell 1
        have r2 : wr.cell? ⟨w5.heap.size, 2, none⟩ = some (.int .i64 k) := (HRB.out.fr hF (by simp)).cell 2
        clear hF
        by_cases hlt : k2 < bs.length
        · have a0 := cell_fr (HA.out k2 hlt) F5.out (by simp)
          have t0 := (HT5.out k2 hlt).fr F5.out (by simp)
          have e0 := cell_fr (bools_at HBD.out k2 (by rw [HL2.out]; exact hlt)) F5.out (by simp)
          obtain ⟨_, _, _, t3, t4, _, _⟩ := t0.cells
          clear t0
          unfold tkp at a0
          rw [HTI.out.new k2 hlt] at t3
          rw [← HTI.out.dn k2 hlt] at e0
          have HC1 := Lib.hid (show tkC x.s.2 (k2 + 1) = tkC x.s.2 k2 + (if (x.s.2 k2).taken = true then 1 else 0) from rfl)
          have HC2 := Lib.hid (show tkE x.s.2 (k2 + 1) = tkE x.s.2 k2 + (if ((x.s.2 k2).taken && (x.s.2 k2).ended) = true then 1 else 0) from rfl)
          have hki : (k2 : Int) < bs.length := by omega
          generalize (x.s.2 k2).taken = q1 at *
          generalize (x.s.2 k2).ended = q2 at *
          generalize bs[k2]?.getD 0 = tb at *
          cases q1 with
          | true =>
            cases q2 with
            | true =>
              go_wp2_with fail
              go_quiet (fail)
              go_wp2_with fail
              go_roundw
              case rel => exact ⟨k2 + 1, n1 + 1, n2 + 1, by omega, by go_num, by go_num, by go_num, by omega, by omega, Lib.hid ⟨by rw [HC1.out, HN.out.1]; rfl, by rw [HC2.out, HN.out.2]; rfl⟩, by first | exact HF.out | exact HF.out.drew | exact HF.out.drewN _⟩
              case measure => simp [intOf]; omega
            | false =>
              go_wp2_with fail
              go_quiet (fail)
              go_wp2_with fail
              go_roundw
              case rel => exact ⟨k2 + 1, n1 + 1, n2, by omega, by go_num, by go_num, rfl, by omega, by omega, Lib.hid ⟨by rw [HC1.out, HN.out.1]; rfl, by rw [HC2.out, HN.out.2]; rfl⟩, by first | exact HF.out | exact HF.out.drew | exact HF.out.drewN _⟩
              case measure => simp [intOf]; omega
          | false =>
            cases q2
            all_goals
              go_wp2_with fail
              go_quiet (fail)
              go_wp2_with fail
              go_roundw
              case rel => exact ⟨k2 + 1, n1, n2, by omega, by go_num, rfl, rfl, by omega, by omega, Lib.hid ⟨by rw [HC1.out, HN.out.1]; rfl, by rw [HC2.out, HN.out.2]; rfl⟩, by first | exact HF.out | exact HF.out.drew | exact HF.out.drewN _⟩
              case measure => simp [intOf]; omega
        · obtain rfl : k2 = bs.length := by omega
          have HZ := Lib.hid (show x.s.1 = [(n1 : Int), (n2 : Int)] from by rw [HTI.out.zs, HN.out.1, HN.out.2])
          have hle1 : n1 ≤ 1 := by rw [HN.out.1]; exact HTI.out.one
          have hle2 : n2 ≤ n1 := by rw [HN.out.1, HN.out.2]; exact cntB_le (fun j _ hj => by simp at hj; exact hj.1)
          have hfin : n2 = 0 → decide (leftE x.dn = 0) = false := fun h2 => by
            rw [decide_eq_false_iff_not]
            intro hl
            have := HTI.out.fin (by omega) hl
            rw [← HN.out.2] at this
            omega
          have HP7 := Lib.hid (show Pm wr b g [(n1 : Int), (n2 : Int)] from by
            have h := HP5.out
            rw [HZ.out] at h
            exact ⟨h.1.fr F5.out (by simp), h.2.1.fr F5.out (by simp), h.2.2⟩)
          have HB7 := Lib.hid (HB5.out.fr F5.out (by simp))
          have HD7 := Lib.hid (HBD.out.fr F5.out (by simp))
          have HR7 := Lib.hid (HRB.out.fr HF.out (by simp))
          have F7 := Lib.hid (HF5.out.trans F5.out)
          clear HZ r0 r1 r2 HA HP5 HT5 HRB HW6
          obtain ⟨ff, hff⟩ : ∃ ff, ff = decide (leftE x.dn = 0) := ⟨_, rfl⟩
          rw [← hff] at hfin
          have HFF := Lib.hid hff
          clear hff
          have k0 : wr.cell? ⟨bb, 0, none⟩ = some (.int .i64 0) := HB7.out.cell 0
          have k1 : wr.cell? ⟨bb, 1, none⟩ = some (.int .i64 1) := HB7.out.cell 1
          have v1 : ldv [(n1 : Int), (n2 : Int)] (0 + 0) = n1 := rfl
          have v2 : IntKind.i64.wrap (ldv [(n1 : Int), (n2 : Int)] 1) = n2 := by rw [show ldv [(n1 : Int), (n2 : Int)] 1 = n2 from rfl]; exact IntWalk.i64_in _ (by omega)
          have l1 : decide ((n1 : Int) ≤ 1) = true := by simp; omega
          have l2 : ff = true → ((n2 : Int) == 1) = true := fun h => by
            by_cases h2 : n2 = 0
            · rw [hfin h2] at h; cases h
            · simp; omega
          clear hfin hle2
          cases ff
          case' true => replace l2 := l2 rfl
          case' false => clear l2
          all_goals
            go_wp2_with fail
            refine (waits_any 0 1 0 b g _ _ HP7.out (by decide) (by decide)).mono ?_
            rintro e w8 ⟨rfl, hB8⟩
            rw [v1]
            have HP8 := Lib.hid (HP7.out.below hB8)
            have F8 := Lib.hid (F7.out.trans (.of hB8))
            have HD8 := Lib.hid (HD7.out.below hB8)
            have HR8 := Lib.hid (HR7.out.below hB8)
            have k0' := keepc k0 hB8
            have k1' := keepc k1 hB8
            clear hB8 k0 k1 HP7 HD7 HR7 F7
            go_wp2_with fail
            refine (number_any 0 1 b g _ _ HP8.out).mono ?_
            rintro e w9 ⟨rfl, hB9⟩
            rw [v2]
            have HD9 := Lib.hid (HD8.out.below hB9)
            have HR9 := Lib.hid (HR8.out.below hB9)
            have F9 := Lib.hid (F8.out.trans (.of hB9))
            have r0 : w9.cell? ⟨w5.heap.size, 0, none⟩ = some (.slice (some ⟨sb, 0, none⟩) bs.length bs.length) := HR9.out.cell 0
            have r1 : w9.cell? ⟨w5.heap.size, 1, none⟩ = some (.slice (some ⟨db, 0, none⟩) bs.length bs.length) := HR9.out.cell 1
            have r2 : w9.cell? ⟨w5.heap.size, 2, none⟩ = some (.int .i64 k) := HR9.out.cell 2
            clear hB9 HP8 HD8 HR8 F8 k0' k1'
            go_wp2_with fail
            refine (fin_any db x.dn bs.length _ _ _ _ _ _ HD9.out HL2.out (by omega) rfl ⟨_, rfl⟩).mono ?_
            rintro e w10 ⟨rfl, hB10⟩
            rw [← HFF.out]
            have F10 := Lib.hid (F9.out.trans (.of hB10))
            clear hB10 r0 r1 r2
            go_wp2_with fail
            refine (tkstep_none _ _ _).mono ?_
            rintro e w11 ⟨rfl, hww⟩
            subst w11
            go_wp2_with fail
            go_ret
            exact ⟨by first | rfl | simp, F10.out.below⟩


end Go.Proofs.Ythidinalhbnmmaa
