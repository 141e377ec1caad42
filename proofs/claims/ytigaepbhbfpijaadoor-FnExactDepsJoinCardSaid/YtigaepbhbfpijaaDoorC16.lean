/- Texts laid together. -/
import Derived.Test.YtigaepbhbfpijaaDoorC01
import Derived.Test.YtigaepbhbfpijaaDoorC09
import Derived.Test.YtigaepbhbfpijaaDoorC07
import Derived.Test.YtigaepbhbfpijaaDoorC06
/- The laws' marks and sizes of slices of ids. -/
namespace Go.Proofs.YtigaepbhbfpijaaDoor
open Go.RowKit
set_option linter.unusedVariables false

theorem OwnP.cap_le {w : World} {b : Nat} {v : Value} {C : List Pid} (h : OwnP w b v C) : C.length ≤ 2000000 := by
  obtain ⟨_, _, _, _, _, _, h, _⟩ := h; exact h

/-- Marks from k on, two an id. -/
def MarkedP (k : Int) (M : List Pid) : Prop := ∀ j : Nat, j < M.length → M.getD j nop = (k + 2 * j, k + 2 * j + 1)

theorem markP_up {M : List Pid} {k0 : Int} {k : Nat} (hM : k < M.length) (h : ∀ j : Nat, j < k → M.getD j nop = (k0 + 2 * j, k0 + 2 * j + 1)) : ∀ j : Nat, j < k + 1 → (M.set k (k0 + 2 * k, k0 + 2 * k + 1)).getD j nop = (k0 + 2 * j, k0 + 2 * j + 1) := by
  intro j hj
  by_cases e : j = k
  · subst e; rw [List.getD_eq_getElem?_getD, List.getElem?_set_self hM]; rfl
  · rw [List.getD_eq_getElem?_getD, List.getElem?_set_ne (fun x => e x.symm), ← List.getD_eq_getElem?_getD]; exact h j (by omega)

set_option maxRecDepth 100000 in
set_option maxHeartbeats 2000000 in
theorem markP_any (b : Nat) (u : Value) (C : List Pid) (k0 : Int) (w : World) (h : OwnP w b u C) (h0 : 0 ≤ k0) (h1 : k0 ≤ 1000000000) :
    Calls Tryd.prog 27 #[u, .int .i64 k0] w fun e w' => e = .returned (.int .i64 (k0 + 2 * C.length)) ∧ ∃ M, M.length = C.length ∧ MarkedP k0 M ∧ OwnP w' b u M ∧ Keep w.heap.size b w w' := by
  have hm := h.cap_le
  obtain ⟨cap, rfl, hcap⟩ := h.shape
  obtain ⟨n, hn⟩ : ∃ n, Hid (C.length = n) := ⟨_, Lib.hid rfl⟩
  rw [hn.out] at h hcap hm ⊢
  have h := Lib.hid h
  go_enter Tryd.func27, Tryd.ntmps27
  go_wp2_with fail
  go_loopw [1, 5] (fun q i wr => ∃ k : Nat, k ≤ n ∧ i = .int .i64 k ∧ q = .int .i64 (k0 + 2 * k) ∧ ∃ M : List Pid, Hid (M.length = n ∧ (∀ j : Nat, j < k → M.getD j nop = (k0 + 2 * j, k0 + 2 * j + 1)) ∧ OwnP wr b (.slice (some ⟨b, 0, none⟩) n cap) M) ∧ Hid (Keep w.heap.size b w wr)) (fun _ i _ => n - (intOf i).toNat)
  case atStart => exact ⟨0, Nat.zero_le _, rfl, by simp, C, Lib.hid ⟨hn.out, fun j hj => absurd hj (Nat.not_lt_zero _), h.out⟩, Lib.hid (Keep.refl _ _ _)⟩
  case round =>
    obtain ⟨k, hk, rfl, rfl, M, hM, hnx⟩ := hrel
    clear h
    by_cases hlt : k < n
    · obtain ⟨c0, c1⟩ := hM.out.2.2.cell k (by rw [hM.out.1]; exact hlt)
      have f0 := hM.out.2.2.free (k * 2)
      have f1 := hM.out.2.2.free (k * 2 + 1)
      have hs := hM.out.2.2.lt
      have R := Lib.hid (hM.out.2.2.set k (by rw [hM.out.1]; exact hlt) (k0 + 2 * k, k0 + 2 * k + 1))
      have R2 := Lib.hid (markP_up (by rw [hM.out.1]; exact hlt) hM.out.2.1)
      have hl := Lib.hid hM.out.1
      generalize M.getD k nop = y at c0 c1
      clear hM
      go_wp2_with fail
      go_roundw
      case rel => exact ⟨k + 1, by omega, by go_num, by go_num, M.set k (k0 + 2 * k, k0 + 2 * k + 1), Lib.hid ⟨by rw [List.length_set]; exact hl.out, R2.out, R.out⟩, Lib.hid ((hnx.out.setR _ _).setR _ _)⟩
      case measure => simp [intOf]; omega
    · obtain rfl : k = n := by omega
      go_wp2_with fail
      go_ret
      refine ⟨rfl, M, hM.out.1, ?_, hM.out.2.2, hnx.out⟩
      intro j hj
      exact hM.out.2.1 j (by rw [← hM.out.1]; exact hj)

set_option maxRecDepth 100000 in
set_option maxHeartbeats 2000000 in
theorem heldP_at (b off ca : Nat) (k0 : Int) (M : List Pid) (w : World) (hM : MarkedP k0 M) (hb : b < w.heap.size) (hm : M.length ≤ 2000000) (h : ∀ i, i < M.length → w.cell? ⟨b, off + i * 2, none⟩ = some (.int .i64 (M.getD i nop).1) ∧ w.cell? ⟨b, off + i * 2 + 1, none⟩ = some (.int .i64 (M.getD i nop).2)) (h0 : 0 ≤ k0) (h1 : k0 ≤ 1000000000) :
    Calls Tryd.prog 28 #[.slice (some ⟨b, off, none⟩) M.length ca, .int .i64 k0] w fun e w' => e = .returned (.int .i64 (k0 + 2 * M.length)) ∧ Below w.heap.size w w' := by
  have h : Hid (∀ i, i < M.length → w.cell? ⟨b, off + i * 2, none⟩ = some (.int .i64 (k0 + 2 * i)) ∧ w.cell? ⟨b, off + i * 2 + 1, none⟩ = some (.int .i64 (k0 + 2 * i + 1))) := Lib.hid fun i hi => by
    have := h i hi
    rw [hM i hi] at this
    exact this
  clear hM
  generalize M.length = n at hm h ⊢
  go_enter Tryd.func28, Tryd.ntmps28
  go_wp2_with fail
  go_loopw [1, 5] (fun q i wr => ∃ k : Nat, k ≤ n ∧ i = .int .i64 k ∧ q = .int .i64 (k0 + 2 * k) ∧ Below w.heap.size w wr) (fun _ i _ => n - (intOf i).toNat)
  case atStart => exact ⟨0, Nat.zero_le _, rfl, by simp, Below.refl _ _⟩
  case round =>
    obtain ⟨k, hk, rfl, rfl, hnx⟩ := hrel
    by_cases hlt : k < n
    · have c0 := (hnx.cell (p := ⟨b, off + k * 2, none⟩) hb).trans (h.out k hlt).1
      have c1 := (hnx.cell (p := ⟨b, off + k * 2 + 1, none⟩) hb).trans (h.out k hlt).2
      have hnx := Lib.hid hnx
      go_wp2_with fail
      go_roundw
      case rel => exact ⟨k + 1, by omega, by go_num, by go_num, hnx.out⟩
      case measure => simp [intOf]; omega
    · obtain rfl : k = n := by omega
      have hnx := Lib.hid hnx
      go_wp2_with fail
      go_ret
      exact ⟨rfl, hnx.out⟩

theorem heldP_nil (a : Option Addr) (ca : Nat) (k0 : Int) (w : World) :
    Calls Tryd.prog 28 #[.slice a 0 ca, .int .i64 k0] w fun e w' => e = .returned (.int .i64 (k0 + 2 * (0 : Nat))) ∧ Below w.heap.size w w' := by
  go_enter Tryd.func28, Tryd.ntmps28
  go_wp2_with fail
  refine wp_loop_rounds 1 ?_
  rw [rounds_succ]
  go_wp2_with fail
  go_ret
  exact ⟨by simp, Below.refl _ _⟩

/-- THE MARKS ARE THERE. -/
theorem heldP_any (u : Value) (k0 : Int) (M : List Pid) (w : World) (hM : MarkedP k0 M) (h : Ids w u M) (h0 : 0 ≤ k0) (h1 : k0 ≤ 1000000000) :
    Calls Tryd.prog 28 #[u, .int .i64 k0] w fun e w' => e = .returned (.int .i64 (k0 + 2 * M.length)) ∧ Below w.heap.size w w' := by
  obtain ⟨a, cap, rfl, h2, h3, h4⟩ := h
  rcases h4 with h4 | ⟨b, off, rfl, h5, h6⟩
  · rw [h4]
    exact heldP_nil a cap k0 w
  · exact heldP_at b off cap k0 M w hM h5 h3 h6 h0 h1
end Go.Proofs.YtigaepbhbfpijaaDoor

/- The walk of FnExactDepsJoin. -/
namespace Go.Proofs.YtigaepbhbfpijaaDoor
open Go.RowKit
set_option linter.unusedVariables false

theorem kstep4 {w wc w' : World} {r : Nat} (D : Below w.heap.size w wc) (hk : Keep wc.heap.size r wc w') (hr : w.heap.size ≤ r) : Below w.heap.size w w' := D.trans ((hk.mono D.size).below hr)
theorem ids_len {w : World} {a : Option Addr} {len cap : Nat} {C : List Pid} (h : Ids w (.slice a len cap) C) : C.length = len := by
  obtain ⟨a', cap', e, _⟩ := h
  injection e with _ e2 _
  exact e2.symm
theorem joinR_len (a b : List Pid) : (joinR a b).1.length ≤ 12 := by
  unfold joinR; split
  · rename_i h; exact h.2.2
  · simp

set_option maxRecDepth 100000 in
set_option maxHeartbeats 8000000 in
theorem exDepsJoin_any (a : Option Addr) (len cap : Nat) (a' : Option Addr) (len' cap' : Nat) (w : World) (hlm : len ≤ maxLen) (h : 1048576 < len ∨ ∃ C, Ids w (.slice a len cap) C) (hlm' : len' ≤ maxLen) (h' : 1048576 < len' ∨ ∃ C, Ids w (.slice a' len' cap') C) (hT : TabIn w) :
    Calls Tryd.prog 9 #[.slice a len cap, .slice a' len' cap'] w fun e w' => e = .returned (.bool true) ∧ Below w.heap.size w w' := by
  have hT := Lib.hid hT
  have hm : len ≤ 9223372036854775807 := by simpa [maxLen] using hlm
  have hm' : len' ≤ 9223372036854775807 := by simpa [maxLen] using hlm'
  clear hlm hlm'
  have sz := szP_any a len cap 1048576
  by_cases hl : 1048576 < len
  · rw [if_pos hl] at sz
    clear h h' hT
    go_enter Tryd.func9, Tryd.ntmps9
    go_wp2_with fail
    refine (sz _ (by trivial) hm).mono ?_
    rintro e w1 ⟨rfl, hb⟩
    have D1 := Lib.hid hb
    clear hb sz
    go_wp2_with fail
    go_ret
    exact ⟨rfl, D1.out⟩
  · rw [if_neg hl] at sz
    obtain ⟨A, hU⟩ := h.resolve_left hl
    have hlA := Lib.hid (ids_len hU)
    have sz2 := fun w => szP_gen a' len' cap' (1048576 - (len : Int)) w (by omega) (by omega) hm'
    by_cases hl2 : (1048576 - (len : Int)) < len'
    · simp only [if_pos hl2] at sz2
      clear h h' hU hT
      go_enter Tryd.func9, Tryd.ntmps9
      go_wp2_with fail
      refine (sz _ (by trivial) hm).mono ?_
      rintro e w1 ⟨rfl, hb⟩
      have D1 := Lib.hid hb
      clear hb sz
      go_wp2_with fail
      refine (sz2 _).mono ?_
      rintro e w2 ⟨rfl, hb⟩
      have D2 := Lib.hid (bstep D1.out hb)
      clear hb sz2 D1
      go_wp2_with fail
      go_ret
      exact ⟨rfl, D2.out⟩
    · simp only [if_neg hl2] at sz2
      obtain ⟨B, hV⟩ := h'.resolve_left (by omega)
      have hlB := Lib.hid (ids_len hV)
      have hU := Lib.hid hU
      have hV := Lib.hid hV
      have hC3 : Hid ((joinR A B).1.length ≤ 12) := Lib.hid (joinR_len A B)
      obtain ⟨S, fl, hR⟩ : ∃ S fl, Hid (joinR A B = (S, fl)) := ⟨_, _, Lib.hid rfl⟩
      rw [hR.out] at hC3
      clear h h'
      go_enter Tryd.func9, Tryd.ntmps9
      go_wp2_with fail
      refine (sz _ (by trivial) hm).mono ?_
      rintro e w1 ⟨rfl, hb⟩
      have D := Lib.hid hb
      clear hb sz
      go_wp2_with fail
      refine (sz2 _).mono ?_
      rintro e w2 ⟨rfl, hb⟩
      replace D := Lib.hid (bstep D.out hb)
      clear hb sz2
      go_wp2_with fail
      refine (toP_any _ A _ (hU.out.up D.out (Nat.le_refl _))).mono ?_
      rintro e w3 ⟨p1, uP1, hp1, rfl, P1, hb⟩
      have Gp1 := Nat.le_trans D.out.size hp1
      have Lp1 := P1.lt
      have P1 := Lib.hid P1
      replace D := Lib.hid (bstep D.out hb)
      clear hb
      go_wp2_with fail
      refine (toP_any _ B _ (hV.out.up D.out (Nat.le_refl _))).mono ?_
      rintro e w4 ⟨p2, uP2, hp2, rfl, P2, hb⟩
      have Gp2 := Nat.le_trans D.out.size hp2
      have Lp2 := P2.lt
      have P2 := Lib.hid P2
      replace P1 := Lib.hid (P1.out.up hb P1.out.lt)
      replace D := Lib.hid (bstep D.out hb)
      clear hb
      go_wp2_with fail
      refine (sdj_any _ _ A B _ P1.out.read P2.out.read).mono ?_
      rintro e w5 ⟨g4, v4, hg4, rfl, O4, hb⟩
      rw [hR.out] at O4 ⊢
      dsimp only at O4 ⊢
      have Gg4 := Nat.le_trans D.out.size hg4
      have L4 := O4.lt
      have O4 := Lib.hid O4
      replace D := Lib.hid (bstep D.out hb)
      clear hb
      clear P1 P2
      go_wp2_with fail
      refine (toP_any _ A _ (hU.out.up D.out (Nat.le_refl _))).mono ?_
      rintro e w6 ⟨b6, uO6, hb6, rfl, O6, hb⟩
      have N46 : g4 ≠ b6 := by have := O4.out.lt; omega
      have Gb6 := Nat.le_trans D.out.size hb6
      have Lb6 := O6.lt
      have O6 := Lib.hid O6
      replace O4 := Lib.hid (O4.out.up hb O4.out.lt)
      replace D := Lib.hid (bstep D.out hb)
      clear hb
      go_wp2_with fail
      refine (toP_any _ B _ (hV.out.up D.out (Nat.le_refl _))).mono ?_
      rintro e w7 ⟨b7, uO7, hb7, rfl, O7, hb⟩
      have N47 : g4 ≠ b7 := by have := O4.out.lt; omega
      have N67 : b6 ≠ b7 := by have := O6.out.lt; omega
      have Gb7 := Nat.le_trans D.out.size hb7
      have Lb7 := O7.lt
      have O7 := Lib.hid O7
      replace O4 := Lib.hid (O4.out.up hb O4.out.lt)
      replace O6 := Lib.hid (O6.out.up hb O6.out.lt)
      replace D := Lib.hid (bstep D.out hb)
      clear hb
      go_wp2_with fail
      refine (djoin_any _ _ A B _ O6.out.read O7.out.read (hT.out.up D.out (Nat.le_refl _))).mono ?_
      rintro e w8 ⟨g8, v8, hg8, rfl, O8, hb⟩
      have N48 : g4 ≠ g8 := by have := O4.out.lt; omega
      have N68 : b6 ≠ g8 := by have := O6.out.lt; omega
      have N78 : b7 ≠ g8 := by have := O7.out.lt; omega
      rw [hR.out] at O8 ⊢
      dsimp only at O8 ⊢
      have Gg8 := Nat.le_trans D.out.size hg8
      have O8 := Lib.hid O8
      replace O4 := Lib.hid (O4.out.up hb O4.out.lt)
      replace O6 := Lib.hid (O6.out.up hb O6.out.lt)
      replace O7 := Lib.hid (O7.out.up hb O7.out.lt)
      replace D := Lib.hid (bstep D.out hb)
      clear hb
      go_wp2_with fail
      refine (eqP_any _ _ S _ O8.out.read O4.out.read).mono ?_
      rintro e w9 ⟨rfl, hb⟩
      replace O4 := Lib.hid (O4.out.up hb O4.out.lt)
      replace O6 := Lib.hid (O6.out.up hb O6.out.lt)
      replace O7 := Lib.hid (O7.out.up hb O7.out.lt)
      replace O8 := Lib.hid (O8.out.up hb O8.out.lt)
      replace D := Lib.hid (bstep D.out hb)
      clear hb
      go_wp2_with fail
      refine (toP_any _ A _ (hU.out.up D.out (Nat.le_refl _))).mono ?_
      rintro e w10 ⟨q0, uQ, hq0, rfl, Q, hb⟩
      have Gq0 := Nat.le_trans D.out.size hq0
      have Lq0 := Q.lt
      have Q := Lib.hid Q
      replace O4 := Lib.hid (O4.out.up hb O4.out.lt)
      replace O6 := Lib.hid (O6.out.up hb O6.out.lt)
      replace O7 := Lib.hid (O7.out.up hb O7.out.lt)
      replace O8 := Lib.hid (O8.out.up hb O8.out.lt)
      replace D := Lib.hid (bstep D.out hb)
      clear hb
      go_wp2_with fail
      refine (eqP_any _ _ A _ O6.out.read Q.out.read).mono ?_
      rintro e w11 ⟨rfl, hb⟩
      replace O4 := Lib.hid (O4.out.up hb O4.out.lt)
      replace O6 := Lib.hid (O6.out.up hb O6.out.lt)
      replace O7 := Lib.hid (O7.out.up hb O7.out.lt)
      replace O8 := Lib.hid (O8.out.up hb O8.out.lt)
      replace Q := Lib.hid (Q.out.up hb Q.out.lt)
      replace D := Lib.hid (bstep D.out hb)
      clear hb
      clear Q
      go_wp2_with fail
      refine (toP_any _ B _ (hV.out.up D.out (Nat.le_refl _))).mono ?_
      rintro e w12 ⟨q1, uQ, hq1, rfl, Q, hb⟩
      have Gq1 := Nat.le_trans D.out.size hq1
      have Lq1 := Q.lt
      have Q := Lib.hid Q
      replace O4 := Lib.hid (O4.out.up hb O4.out.lt)
      replace O6 := Lib.hid (O6.out.up hb O6.out.lt)
      replace O7 := Lib.hid (O7.out.up hb O7.out.lt)
      replace O8 := Lib.hid (O8.out.up hb O8.out.lt)
      replace D := Lib.hid (bstep D.out hb)
      clear hb
      go_wp2_with fail
      refine (eqP_any _ _ B _ O7.out.read Q.out.read).mono ?_
      rintro e w13 ⟨rfl, hb⟩
      replace O4 := Lib.hid (O4.out.up hb O4.out.lt)
      replace O6 := Lib.hid (O6.out.up hb O6.out.lt)
      replace O7 := Lib.hid (O7.out.up hb O7.out.lt)
      replace O8 := Lib.hid (O8.out.up hb O8.out.lt)
      replace Q := Lib.hid (Q.out.up hb Q.out.lt)
      replace D := Lib.hid (bstep D.out hb)
      clear hb
      clear Q
      go_wp2_with fail
      refine (markP_any b6 _ A (1) _ O6.out (by omega) (by omega)).mono ?_
      rintro e w14 ⟨rfl, M14, hM, hMk, OM, hb⟩
      replace O4 := Lib.hid (O4.out.stay hb N46)
      replace O7 := Lib.hid (O7.out.stay hb (fun e => N67 e.symm))
      replace O8 := Lib.hid (O8.out.stay hb (fun e => N68 e.symm))
      replace D := Lib.hid (kstep4 D.out hb Gb6)
      clear hb OM hMk hM O6
      rw [hlA.out]
      go_wp2_with fail
      refine (markP_any b7 _ B (1 + 2 * (len : Int)) _ O7.out (by omega) (by omega)).mono ?_
      rintro e w15 ⟨rfl, M15, hM, hMk, OM, hb⟩
      replace O4 := Lib.hid (O4.out.stay hb N47)
      replace O8 := Lib.hid (O8.out.stay hb (fun e => N78 e.symm))
      replace D := Lib.hid (kstep4 D.out hb Gb7)
      clear hb OM hMk hM O7
      rw [hlB.out]
      go_wp2_with fail
      refine (eqP_any _ _ S _ O8.out.read O4.out.read).mono ?_
      rintro e w16 ⟨rfl, hb⟩
      replace O4 := Lib.hid (O4.out.up hb O4.out.lt)
      replace O8 := Lib.hid (O8.out.up hb O8.out.lt)
      replace D := Lib.hid (bstep D.out hb)
      clear hb
      obtain ⟨ns, hns⟩ : ∃ ns, Hid (S.length = ns) := ⟨_, Lib.hid rfl⟩
      have hl1 := hC3.out
      rw [hns.out] at hl1
      go_wp2_with fail
      refine (markP_any g8 _ S (1) _ O8.out (by omega) (by omega)).mono ?_
      rintro e w17 ⟨rfl, M17, hM, hMk, OM, hb⟩
      replace O4 := Lib.hid (O4.out.stay hb N48)
      replace D := Lib.hid (kstep4 D.out hb Gg8)
      replace O8 := Lib.hid OM
      have hMk := Lib.hid hMk
      have hM := Lib.hid hM
      clear hb OM
      rw [hns.out]
      go_wp2_with fail
      refine (heldP_any _ 1 M17 _ hMk.out O8.out.read (by omega) (by omega)).mono ?_
      rw [hM.out, hns.out]
      rintro e w18 ⟨rfl, hb⟩
      replace O4 := Lib.hid (O4.out.up hb O4.out.lt)
      replace O8 := Lib.hid (O8.out.up hb O8.out.lt)
      replace D := Lib.hid (bstep D.out hb)
      clear hb
      go_wp2_with fail
      refine (toP_any _ A _ (hU.out.up D.out (Nat.le_refl _))).mono ?_
      rintro e w19 ⟨r1, uR1, hr1, rfl, R1, hb⟩
      have Gr1 := Nat.le_trans D.out.size hr1
      have Lr1 := R1.lt
      have R1 := Lib.hid R1
      replace O4 := Lib.hid (O4.out.up hb O4.out.lt)
      replace O8 := Lib.hid (O8.out.up hb O8.out.lt)
      replace D := Lib.hid (bstep D.out hb)
      clear hb
      go_wp2_with fail
      refine (toP_any _ B _ (hV.out.up D.out (Nat.le_refl _))).mono ?_
      rintro e w20 ⟨r2, uR2, hr2, rfl, R2, hb⟩
      have Gr2 := Nat.le_trans D.out.size hr2
      have Lr2 := R2.lt
      have R2 := Lib.hid R2
      replace O4 := Lib.hid (O4.out.up hb O4.out.lt)
      replace O8 := Lib.hid (O8.out.up hb O8.out.lt)
      replace R1 := Lib.hid (R1.out.up hb R1.out.lt)
      replace D := Lib.hid (bstep D.out hb)
      clear hb
      go_wp2_with fail
      refine (djoin_any _ _ A B _ R1.out.read R2.out.read (hT.out.up D.out (Nat.le_refl _))).mono ?_
      rintro e w21 ⟨g9, v9, hg9, rfl, O9, hb⟩
      rw [hR.out] at O9 ⊢
      dsimp only at O9 ⊢
      have O9 := Lib.hid O9
      replace O4 := Lib.hid (O4.out.up hb O4.out.lt)
      replace O8 := Lib.hid (O8.out.up hb O8.out.lt)
      replace D := Lib.hid (bstep D.out hb)
      clear hb
      clear R1 R2
      go_wp2_with fail
      refine (eqP_any _ _ S _ O9.out.read O4.out.read).mono ?_
      rintro e w22 ⟨rfl, hb⟩
      replace O4 := Lib.hid (O4.out.up hb O4.out.lt)
      replace O8 := Lib.hid (O8.out.up hb O8.out.lt)
      replace D := Lib.hid (bstep D.out hb)
      clear hb
      clear O9 O4
      go_wp2_with fail
      refine (heldP_any _ 1 M17 _ hMk.out O8.out.read (by omega) (by omega)).mono ?_
      rw [hM.out, hns.out]
      rintro e w23 ⟨rfl, hb⟩
      replace O8 := Lib.hid (O8.out.up hb O8.out.lt)
      replace D := Lib.hid (bstep D.out hb)
      clear hb
      go_wp2_with fail
      go_ret
      exact ⟨rfl, D.out⟩
end Go.Proofs.YtigaepbhbfpijaaDoor

/- The walk of FnExactDepsLatest. -/
namespace Go.Proofs.YtigaepbhbfpijaaDoor
open Go.RowKit
set_option linter.unusedVariables false

theorem kstep4l {w wc w' : World} {r : Nat} (D : Below w.heap.size w wc) (hk : Keep wc.heap.size r wc w') (hr : w.heap.size ≤ r) : Below w.heap.size w w' := D.trans ((hk.mono D.size).below hr)
theorem ids_lenl {w : World} {a : Option Addr} {len cap : Nat} {C : List Pid} (h : Ids w (.slice a len cap) C) : C.length = len := by
  obtain ⟨a', cap', e, _⟩ := h
  injection e with _ e2 _
  exact e2.symm

set_option maxRecDepth 100000 in
set_option maxHeartbeats 8000000 in
theorem exDepsLatest_any (a : Option Addr) (len cap : Nat) (w : World) (hlm : len ≤ maxLen) (h : 1048576 < len ∨ ∃ C, Ids w (.slice a len cap) C) (hT : TabIn w) :
    Calls Tryd.prog 10 #[.slice a len cap] w fun e w' => e = .returned (.bool true) ∧ Below w.heap.size w w' := by
  have hT := Lib.hid hT
  have hm : len ≤ 9223372036854775807 := by simpa [maxLen] using hlm
  clear hlm
  have sz := szP_any a len cap 1048576
  by_cases hl : 1048576 < len
  · rw [if_pos hl] at sz
    clear h hT
    go_enter Tryd.func10, Tryd.ntmps10
    go_wp2_with fail
    refine (sz _ (by trivial) hm).mono ?_
    rintro e w1 ⟨rfl, hb⟩
    have D1 := Lib.hid hb
    clear hb sz
    go_wp2_with fail
    go_ret
    exact ⟨rfl, D1.out⟩
  · rw [if_neg hl] at sz
    obtain ⟨A, hU⟩ := h.resolve_left hl
    have hlA := Lib.hid (ids_lenl hU)
    have hU := Lib.hid hU
    skip
    have hC3 : Hid ((latR A).length ≤ 12) := Lib.hid (latR_len A)
    obtain ⟨S, hR⟩ : ∃ S, Hid (latR A = S) := ⟨_, Lib.hid rfl⟩
    rw [hR.out] at hC3
    clear h
    go_enter Tryd.func10, Tryd.ntmps10
    go_wp2_with fail
    refine (sz _ (by trivial) hm).mono ?_
    rintro e w1 ⟨rfl, hb⟩
    have D := Lib.hid hb
    clear hb sz
    go_wp2_with fail
    refine (toP_any _ A _ (hU.out.up D.out (Nat.le_refl _))).mono ?_
    rintro e w2 ⟨p1, uP1, hp1, rfl, P1, hb⟩
    have Gp1 := Nat.le_trans D.out.size hp1
    have Lp1 := P1.lt
    have P1 := Lib.hid P1
    replace D := Lib.hid (bstep D.out hb)
    clear hb
    go_wp2_with fail
    refine (slat_any _ A _ P1.out.read).mono ?_
    rintro e w3 ⟨g4, v4, hg4, rfl, O4, hb⟩
    rw [hR.out] at O4
    have Gg4 := Nat.le_trans D.out.size hg4
    have L4 := O4.lt
    have O4 := Lib.hid O4
    replace D := Lib.hid (bstep D.out hb)
    clear hb
    clear P1
    go_wp2_with fail
    refine (toP_any _ A _ (hU.out.up D.out (Nat.le_refl _))).mono ?_
    rintro e w4 ⟨b6, uO6, hb6, rfl, O6, hb⟩
    have N46 : g4 ≠ b6 := by have := O4.out.lt; omega
    have Gb6 := Nat.le_trans D.out.size hb6
    have Lb6 := O6.lt
    have O6 := Lib.hid O6
    replace O4 := Lib.hid (O4.out.up hb O4.out.lt)
    replace D := Lib.hid (bstep D.out hb)
    clear hb
    go_wp2_with fail
    refine (dlat_any _ A _ O6.out.read (hT.out.up D.out (Nat.le_refl _))).mono ?_
    rintro e w5 ⟨g8, v8, hg8, rfl, O8, hb⟩
    have N48 : g4 ≠ g8 := by have := O4.out.lt; omega
    have N68 : b6 ≠ g8 := by have := O6.out.lt; omega
    rw [hR.out] at O8
    have Gg8 := Nat.le_trans D.out.size hg8
    have O8 := Lib.hid O8
    replace O4 := Lib.hid (O4.out.up hb O4.out.lt)
    replace O6 := Lib.hid (O6.out.up hb O6.out.lt)
    replace D := Lib.hid (bstep D.out hb)
    clear hb
    go_wp2_with fail
    refine (eqP_any _ _ S _ O8.out.read O4.out.read).mono ?_
    rintro e w6 ⟨rfl, hb⟩
    replace O4 := Lib.hid (O4.out.up hb O4.out.lt)
    replace O6 := Lib.hid (O6.out.up hb O6.out.lt)
    replace O8 := Lib.hid (O8.out.up hb O8.out.lt)
    replace D := Lib.hid (bstep D.out hb)
    clear hb
    go_wp2_with fail
    refine (toP_any _ A _ (hU.out.up D.out (Nat.le_refl _))).mono ?_
    rintro e w7 ⟨q0, uQ, hq0, rfl, Q, hb⟩
    have Gq0 := Nat.le_trans D.out.size hq0
    have Lq0 := Q.lt
    have Q := Lib.hid Q
    replace O4 := Lib.hid (O4.out.up hb O4.out.lt)
    replace O6 := Lib.hid (O6.out.up hb O6.out.lt)
    replace O8 := Lib.hid (O8.out.up hb O8.out.lt)
    replace D := Lib.hid (bstep D.out hb)
    clear hb
    go_wp2_with fail
    refine (eqP_any _ _ A _ O6.out.read Q.out.read).mono ?_
    rintro e w8 ⟨rfl, hb⟩
    replace O4 := Lib.hid (O4.out.up hb O4.out.lt)
    replace O6 := Lib.hid (O6.out.up hb O6.out.lt)
    replace O8 := Lib.hid (O8.out.up hb O8.out.lt)
    replace Q := Lib.hid (Q.out.up hb Q.out.lt)
    replace D := Lib.hid (bstep D.out hb)
    clear hb
    clear Q
    go_wp2_with fail
    refine (markP_any b6 _ A (1) _ O6.out (by omega) (by omega)).mono ?_
    rintro e w9 ⟨rfl, M9, hM, hMk, OM, hb⟩
    replace O4 := Lib.hid (O4.out.stay hb N46)
    replace O8 := Lib.hid (O8.out.stay hb (fun e => N68 e.symm))
    replace D := Lib.hid (kstep4l D.out hb Gb6)
    clear hb OM hMk hM O6
    rw [hlA.out]
    go_wp2_with fail
    refine (eqP_any _ _ S _ O8.out.read O4.out.read).mono ?_
    rintro e w10 ⟨rfl, hb⟩
    replace O4 := Lib.hid (O4.out.up hb O4.out.lt)
    replace O8 := Lib.hid (O8.out.up hb O8.out.lt)
    replace D := Lib.hid (bstep D.out hb)
    clear hb
    obtain ⟨ns, hns⟩ : ∃ ns, Hid (S.length = ns) := ⟨_, Lib.hid rfl⟩
    have hl1 := hC3.out
    rw [hns.out] at hl1
    go_wp2_with fail
    refine (markP_any g8 _ S (1) _ O8.out (by omega) (by omega)).mono ?_
    rintro e w11 ⟨rfl, M11, hM, hMk, OM, hb⟩
    replace O4 := Lib.hid (O4.out.stay hb N48)
    replace D := Lib.hid (kstep4l D.out hb Gg8)
    replace O8 := Lib.hid OM
    have hMk := Lib.hid hMk
    have hM := Lib.hid hM
    clear hb OM
    rw [hns.out]
    go_wp2_with fail
    refine (heldP_any _ 1 M11 _ hMk.out O8.out.read (by omega) (by omega)).mono ?_
    rw [hM.out, hns.out]
    rintro e w12 ⟨rfl, hb⟩
    replace O4 := Lib.hid (O4.out.up hb O4.out.lt)
    replace O8 := Lib.hid (O8.out.up hb O8.out.lt)
    replace D := Lib.hid (bstep D.out hb)
    clear hb
    go_wp2_with fail
    refine (toP_any _ A _ (hU.out.up D.out (Nat.le_refl _))).mono ?_
    rintro e w13 ⟨r1, uR1, hr1, rfl, R1, hb⟩
    have Gr1 := Nat.le_trans D.out.size hr1
    have Lr1 := R1.lt
    have R1 := Lib.hid R1
    replace O4 := Lib.hid (O4.out.up hb O4.out.lt)
    replace O8 := Lib.hid (O8.out.up hb O8.out.lt)
    replace D := Lib.hid (bstep D.out hb)
    clear hb
    go_wp2_with fail
    refine (dlat_any _ A _ R1.out.read (hT.out.up D.out (Nat.le_refl _))).mono ?_
    rintro e w14 ⟨g9, v9, hg9, rfl, O9, hb⟩
    rw [hR.out] at O9
    have O9 := Lib.hid O9
    replace O4 := Lib.hid (O4.out.up hb O4.out.lt)
    replace O8 := Lib.hid (O8.out.up hb O8.out.lt)
    replace D := Lib.hid (bstep D.out hb)
    clear hb
    clear R1
    go_wp2_with fail
    refine (eqP_any _ _ S _ O9.out.read O4.out.read).mono ?_
    rintro e w15 ⟨rfl, hb⟩
    replace O4 := Lib.hid (O4.out.up hb O4.out.lt)
    replace O8 := Lib.hid (O8.out.up hb O8.out.lt)
    replace D := Lib.hid (bstep D.out hb)
    clear hb
    clear O9 O4
    go_wp2_with fail
    refine (heldP_any _ 1 M11 _ hMk.out O8.out.read (by omega) (by omega)).mono ?_
    rw [hM.out, hns.out]
    rintro e w16 ⟨rfl, hb⟩
    replace O8 := Lib.hid (O8.out.up hb O8.out.lt)
    replace D := Lib.hid (bstep D.out hb)
    clear hb
    go_wp2_with fail
    go_ret
    exact ⟨rfl, D.out⟩
end Go.Proofs.YtigaepbhbfpijaaDoor
