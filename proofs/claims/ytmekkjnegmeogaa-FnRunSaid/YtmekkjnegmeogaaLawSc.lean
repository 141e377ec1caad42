/- The walks of FnRunSteps, FnRun. -/
import Derived.Test.YtmekkjnegmeogaaDrun
import Derived.Test.YtmekkjnegmeogaaSrun
import Derived.Test.YtmekkjnegmeogaaEqs
namespace Go.Proofs.Ytmekkjnegmeogaa
open Go.RowKit
set_option linter.unusedVariables false

theorem okC_get {C : List Cm} (h : okC C = true) {k : Nat} (hk : k < C.length) {x y z : Int} (hc : C.getD k nocm = (x, y, z)) : cvB x y z = true := by
  unfold okC at h
  rw [List.all_eq_true] at h
  rw [List.getD_eq_getElem?_getD, List.getElem?_eq_getElem hk] at hc
  have e : C[k] = (x, y, z) := hc
  have := h _ (List.getElem_mem hk)
  rw [e] at this; exact this
theorem okC_take {C : List Cm} (h : okC C = true) (k : Nat) : okC (C.take k) = true := by
  unfold okC at h ⊢
  rw [List.all_eq_true] at h ⊢
  exact fun c hc => h c (List.mem_of_mem_take hc)
theorem okC_drop {C : List Cm} (h : okC C = true) (k : Nat) : okC (C.drop k) = true := by
  unfold okC at h ⊢
  rw [List.all_eq_true] at h ⊢
  exact fun c hc => h c (List.mem_of_mem_drop hc)
theorem runS_stV : ∀ {C : List Cm} {L : List Int}, stV L = true → okC C = true → stV (runS L C).1 = true
  | [], _, h, _ => h
  | c :: r, L, h, g => by
    unfold okC at g
    rw [List.all_cons, Bool.and_eq_true] at g
    exact runS_stV (C := r) (stV_step h g.1) g.2
theorem runS_cut (L : List Int) (C : List Cm) (k : Nat) : runS L C = ((runS (runS L (C.take k)).1 (C.drop k)).1, (runS L (C.take k)).2 ++ (runS (runS L (C.take k)).1 (C.drop k)).2) := by
  have e := runS_app (C.take k) (C.drop k) L
  rw [List.take_append_drop] at e
  exact e
theorem runS_get (L : List Int) {C : List Cm} {k : Nat} (hk : k < C.length) {x y z : Int} (hc : C.getD k nocm = (x, y, z)) : (runS L C).2.getD k 0 = stepN (runS L (C.take k)).1 x y z := by
  rw [runS_cut L C (k + 1), runS_next L hk hc]
  have hl : (runS L (C.take k)).2.length = k := by rw [runS_len, List.length_take]; omega
  rw [List.getD_eq_getElem?_getD, List.append_assoc, List.getElem?_append_right (by omega), hl, Nat.sub_self]
  rfl

theorem fnRunSteps_long (a : Option Addr) (len cap : Nat) (w : World) (h : 1048576 < len) :
    Calls Try.prog 7 #[.slice a len cap] w fun e w' => e = .returned (.bool true) ∧ Below w.heap.size w w' := by
  go_enter Try.func7, Try.ntmps7
  go_wp2_with fail
  go_ret
  exact ⟨rfl, Below.refl _ _⟩

set_option maxHeartbeats 4000000 in
theorem fnRunSteps_short (a : Option Addr) (len cap : Nat) (w : World) (h : ¬ 1048576 < len) (hc : CodeIn w a len cap) (hcap : cap ≤ maxLen) :
    Calls Try.prog 7 #[.slice a len cap] w fun e w' => e = .returned (.bool true) ∧ Below w.heap.size w w' := by
  obtain ⟨i0, hi, hz0, hz1, hz2⟩ := info_parts info_int
  have hc := Lib.hid hc
  have hcap := Lib.hid hcap
  go_enter Try.func7, Try.ntmps7
  go_wp2_with fail
  refine (drun_any a len cap w hc.out hcap.out).mono ?_
  rintro e w1 ⟨b0, u, L, bC, uC, C, rfl, O0, OC, hCl, D⟩
  have O0 := Lib.hid O0
  have OC := Lib.hid OC
  have D := Lib.hid D
  clear hc hcap
  go_wp2_with fail
  refine (irun_any u uC L C _ O0.out.read OC.out.read).mono ?_
  rintro e w2 ⟨b1, u1, b2, u2, g1, g2, gne, rfl, O1, O2, B⟩
  have O1 := Lib.hid O1
  have O2 := Lib.hid O2
  clear g1 g2 gne
  replace O0 := Lib.hid (O0.out.up B O0.out.lt)
  replace OC := Lib.hid (OC.out.up B OC.out.lt)
  replace D := Lib.hid (bstep D.out B)
  clear B
  go_wp2_with fail
  refine (srun_any u uC L C _ O0.out.read OC.out.read).mono ?_
  rintro e w3 ⟨b3, u3, b4, u4, rfl, O3, O4, B⟩
  have O3 := Lib.hid O3
  have O4 := Lib.hid O4
  replace O0 := Lib.hid (O0.out.up B O0.out.lt)
  replace OC := Lib.hid (OC.out.up B OC.out.lt)
  replace O1 := Lib.hid (O1.out.up B O1.out.lt)
  replace O2 := Lib.hid (O2.out.up B O2.out.lt)
  replace D := Lib.hid (bstep D.out B)
  clear B
  by_cases hR : stV L = true ∧ C.length ≤ 20 ∧ okC C = true
  · obtain ⟨hs, h20, hok⟩ := hR
    rw [runR_yes hs h20 hok] at O1 O2 O3 O4 ⊢
    dsimp only at O1 O2 O3 O4 ⊢
    have hs := Lib.hid hs
    have hok := Lib.hid hok
    go_wp2_with fail
    refine (same_any u2 u4 _ _ _ O2.out.read O4.out.read).mono ?_
    rintro e wq ⟨rfl, B⟩
    rw [show ∀ x : List Int, decide (x = x) = true from fun x => by simp]
    replace O0 := Lib.hid (O0.out.up B O0.out.lt)
    replace OC := Lib.hid (OC.out.up B OC.out.lt)
    replace O1 := Lib.hid (O1.out.up B O1.out.lt)
    replace O2 := Lib.hid (O2.out.up B O2.out.lt)
    replace O3 := Lib.hid (O3.out.up B O3.out.lt)
    replace O4 := Lib.hid (O4.out.up B O4.out.lt)
    replace D := Lib.hid (bstep D.out B)
    clear B
    go_wp2_with fail
    refine (same_any u1 u3 _ _ _ O1.out.read O3.out.read).mono ?_
    rintro e wq ⟨rfl, B⟩
    rw [show ∀ x : List Int, decide (x = x) = true from fun x => by simp]
    replace O0 := Lib.hid (O0.out.up B O0.out.lt)
    replace OC := Lib.hid (OC.out.up B OC.out.lt)
    replace O1 := Lib.hid (O1.out.up B O1.out.lt)
    replace O2 := Lib.hid (O2.out.up B O2.out.lt)
    replace D := Lib.hid (bstep D.out B)
    clear B
    have hrl := runS_len C L
    obtain ⟨capC, rfl, hcC⟩ := OC.out.shape
    obtain ⟨cap2, rfl, hc2⟩ := O2.out.shape
    obtain ⟨n, hn⟩ : ∃ n, Hid (C.length = n) := ⟨_, Lib.hid rfl⟩
    rw [hrl, hn.out] at O2 hc2
    rw [hn.out] at OC hcC h20 hrl
    rw [hrl, hn.out]
    have hrl := Lib.hid hrl
    have cC := Lib.hid OC.out.cell
    have c2 := Lib.hid O2.out.cell
    have lC := OC.out.lt
    have l2 := O2.out.lt
    clear OC O2
    go_wp2_with fail
    go_loopw [11, 12] (fun x i wr => ∃ k : Nat, k ≤ n ∧ i = .int .i64 k ∧ (∃ g, Own wr g x (runS L (C.take k)).1) ∧ Below wq.heap.size wq wr) (fun _ i _ => n - (intOf i).toNat)
    case atStart => exact ⟨0, Nat.zero_le _, rfl, ⟨b0, O0.out⟩, Below.refl _ _⟩
    case round =>
      obtain ⟨k, hk, rfl, ⟨g, hO⟩, hnx⟩ := hrel
      have sN := hnx.size
      have hO := Lib.hid hO
      by_cases hlt : k < n
      · obtain ⟨q0, q1, q2⟩ := cC.out k (by rw [hn.out]; exact hlt)
        have r0 := c2.out k (by rw [hrl.out]; exact hlt)
        have q0 := (hnx.cell (p := ⟨bC, k * 3, none⟩) lC).trans q0
        have q1 := (hnx.cell (p := ⟨bC, k * 3 + 1, none⟩) lC).trans q1
        have q2 := (hnx.cell (p := ⟨bC, k * 3 + 2, none⟩) lC).trans q2
        have r0 := (hnx.cell (p := ⟨b2, k, none⟩) l2).trans r0
        have hnx := Lib.hid hnx
        obtain ⟨c, hce⟩ : ∃ c, Hid (C.getD k nocm = c) := ⟨_, Lib.hid rfl⟩
        rw [hce.out] at q0 q1 q2
        obtain ⟨x, y, z⟩ := c
        dsimp only at q0 q1 q2
        have hkC : k < C.length := by rw [hn.out]; exact hlt
        have hst := runS_stV hs.out (okC_take hok.out k)
        have hcv := okC_get hok.out hkC hce.out
        have hSR := Lib.hid (stepR_yes hst hcv)
        rw [runS_get L hkC hce.out] at r0
        have hNX := Lib.hid (runS_next L hkC hce.out)
        clear hst hcv hkC
        go_wp2_with fail
        refine (istep_any _ _ x y z _ hO.out.read).mono ?_
        rintro e w6 ⟨b6, u6, g6, rfl, O6, B⟩
        rw [hSR.out] at O6 ⊢
        dsimp only at O6 ⊢
        have r0 := (B.cell (p := ⟨b2, k, none⟩) (by simp; omega)).trans r0
        have O6 := Lib.hid O6
        have D6 := Lib.hid (hnx.out.trans (B.mono sN))
        have l26 : b2 < w6.heap.size := by have := B.size; omega
        clear B hnx hO g6 q0 q1 q2
        generalize stepN (runS L (C.take k)).1 x y z = res at r0 hNX ⊢
        go_wp2_with fail
        go_roundw
        case rel =>
          refine ⟨k + 1, by omega, by go_num, ⟨b6, ?_⟩, D6.out⟩
          rw [hNX.out]; exact O6.out
        case measure => simp [intOf]; omega
      · obtain rfl : k = n := by omega
        have hfull : C.take k = C := by rw [← hn.out]; exact List.take_length
        have hO2 := hO.out
        rw [hfull] at hO2
        have hO2 := Lib.hid hO2
        replace O1 := Lib.hid (O1.out.up hnx O1.out.lt)
        replace D := Lib.hid (bstep D.out hnx)
        clear hO hnx hfull cC c2
        go_wp2_with fail
        refine (same_any _ u1 _ _ _ hO2.out.read O1.out.read).mono ?_
        rintro e w7 ⟨rfl, B⟩
        rw [show ∀ x : List Int, decide (x = x) = true from fun x => by simp]
        replace D := Lib.hid (bstep D.out B)
        clear B O1 hO2
        go_wp2_with fail
        go_ret
        exact ⟨rfl, D.out⟩
  · rw [runR_no hR] at O1 O2 O3 O4 ⊢
    dsimp only at O1 O2 O3 O4 ⊢
    clear hR O0 OC
    go_wp2_with fail
    refine (same_any u2 u4 _ _ _ O2.out.read O4.out.read).mono ?_
    rintro e wq ⟨rfl, B⟩
    rw [show ∀ x : List Int, decide (x = x) = true from fun x => by simp]
    replace O1 := Lib.hid (O1.out.up B O1.out.lt)
    replace O2 := Lib.hid (O2.out.up B O2.out.lt)
    replace O3 := Lib.hid (O3.out.up B O3.out.lt)
    replace O4 := Lib.hid (O4.out.up B O4.out.lt)
    replace D := Lib.hid (bstep D.out B)
    clear B
    go_wp2_with fail
    refine (same_any u1 u3 _ _ _ O1.out.read O3.out.read).mono ?_
    rintro e wq ⟨rfl, B⟩
    rw [show ∀ x : List Int, decide (x = x) = true from fun x => by simp]
    replace O1 := Lib.hid (O1.out.up B O1.out.lt)
    replace O2 := Lib.hid (O2.out.up B O2.out.lt)
    replace O3 := Lib.hid (O3.out.up B O3.out.lt)
    replace O4 := Lib.hid (O4.out.up B O4.out.lt)
    replace D := Lib.hid (bstep D.out B)
    clear B
    go_wp2_with fail
    refine (same_any u2 u4 _ _ _ O2.out.read O4.out.read).mono ?_
    rintro e wq ⟨rfl, B⟩
    rw [show ∀ x : List Int, decide (x = x) = true from fun x => by simp]
    replace O1 := Lib.hid (O1.out.up B O1.out.lt)
    replace O3 := Lib.hid (O3.out.up B O3.out.lt)
    replace D := Lib.hid (bstep D.out B)
    clear B
    go_wp2_with fail
    refine (same_any u1 u3 _ _ _ O1.out.read O3.out.read).mono ?_
    rintro e wq ⟨rfl, B⟩
    rw [show ∀ x : List Int, decide (x = x) = true from fun x => by simp]
    replace D := Lib.hid (bstep D.out B)
    clear B
    go_wp2_with fail
    go_ret
    exact ⟨rfl, D.out⟩

theorem fnRunSteps_any (a : Option Addr) (len cap : Nat) (w : World) (hc : CodeIn w a len cap) (hcap : cap ≤ maxLen) :
    Calls Try.prog 7 #[.slice a len cap] w fun e w' => e = .returned (.bool true) ∧ Below w.heap.size w w' := by
  by_cases h : 1048576 < len
  · exact fnRunSteps_long a len cap w h
  · exact fnRunSteps_short a len cap w h hc hcap

/-- An append under a guard that holds, onto a slice of the call's own. -/
theorem append_own_g (w : World) {ops : Array Oper} {rest : List Oper} {o : Oper} {a : Act} {Q : Exit → Act → World → Prop} (hw : Region.wanted o (yielded ops a.tmps) = true) (s x : Operand) (t : TypeId)
    (ho : o.op = .call { callee := .builtin .append, args := #[s, x], argTypes := #[t, t] })
    (base : Nat) (e : TypeId) (i : TypeInfo) (z : Value) (size bytes : Nat) (ht : Try.prog.underlying t = some (.slice e)) (hi : Try.prog.info? e = some i) (hz : i.zero = some z)
    (hsize : i.size = size) (hby : i.bytes = bytes) (hzs : z.cells.size = size) (hsz : 0 < size)
    (v : Value) (n : Nat) (xs : List Value) (hs : a.eval s = v) (hown : w.ownsRow base e size v n xs)
    (ad : Addr) (m c : Nat) (news : List Value) (hx : a.eval x = .slice (some ad) m c) (hl : news.length = m * size) (hnews : ∀ j u, news[j]? = some u → w.cell? (ad.add j) = some u) (h1 : ∀ u ∈ news, u.oneCell' = true)
    (h63 : n + m ≤ maxLen) (hbytes : (n + m) * bytes ≤ 140737488355328) (hbase : base ≤ w.heap.size)
    (h : ∀ v' w', w'.ownsRow base e size v' (n + m) (xs ++ news) → w.grownBy w' v.ownBlock → (v' = .slice none 0 0 ↔ v = .slice none 0 0 ∧ m = 0) → wpList Try.prog ops Q rest (a.put o.dst v') w') : wpList Try.prog ops Q (o :: rest) a w :=
  BigFrame.wpList_want hw fun _ hK => wp_append_own w s x t ho base e i z size bytes ht hi hz hsize hby hzs hsz v n xs hs hown ad m c news hx hl hnews h1 h63 hbytes hbase fun v' w' h2 h3 h4 => hK _ _ (h v' w' h2 h3 h4)

theorem cmds_take {w : World} {b cap : Nat} {C : List Cm} (h : OwnC w b (.slice (some ⟨b, 0, none⟩) C.length cap) C) (k : Nat) (hk : k ≤ C.length) : Cmds w (.slice (some ⟨b, 0, none⟩) k cap) (C.take k) := by
  have hl : (C.take k).length = k := by rw [List.length_take]; omega
  obtain ⟨cap', e1, e2⟩ := h.shape
  injection e1 with _ _ e3
  subst e3
  refine ⟨_, cap, by rw [hl], by omega, by rw [hl]; obtain ⟨_, _, _, _, _, _, h, _⟩ := h; omega, .inr ⟨b, 0, rfl, h.lt, fun i hi => ?_⟩⟩
  rw [hl] at hi
  have hc := h.cell i (by omega)
  have hg : (C.take k).getD i nocm = C.getD i nocm := by
    rw [List.getD_eq_getElem?_getD, List.getElem?_take, if_pos hi, ← List.getD_eq_getElem?_getD]
  rw [hg, Nat.zero_add]
  exact hc
theorem cmds_drop {w : World} {b cap : Nat} {C : List Cm} {a : Option Addr} {cap2 : Nat} (h : OwnC w b (.slice (some ⟨b, 0, none⟩) C.length cap) C) (k : Nat) (hk : k ≤ C.length) (ha : k < C.length → a = some ⟨b, k * 3, none⟩) (hcap : C.length - k ≤ cap2) : Cmds w (.slice a (C.length - k) cap2) (C.drop k) := by
  have hl : (C.drop k).length = C.length - k := List.length_drop
  refine ⟨a, cap2, by rw [hl], by omega, by rw [hl]; obtain ⟨_, _, _, _, _, _, h, _⟩ := h; omega, ?_⟩
  by_cases hz : C.length - k = 0
  · exact .inl (by rw [hl]; exact hz)
  · refine .inr ⟨b, k * 3, ha (by omega), h.lt, fun i hi => ?_⟩
    rw [hl] at hi
    have hc := h.cell (k + i) (by omega)
    have hg : (C.drop k).getD i nocm = C.getD (k + i) nocm := by
      rw [List.getD_eq_getElem?_getD, List.getElem?_drop, ← List.getD_eq_getElem?_getD]
    rw [hg, show k * 3 + i * 3 = (k + i) * 3 by omega]
    exact hc

theorem fnRun_long (a : Option Addr) (len cap : Nat) (a' : Option Addr) (len' cap' : Nat) (w : World) (h : 1048576 < len ∨ 1048576 < len') :
    Calls Try.prog 6 #[.slice a len cap, .slice a' len' cap'] w fun e w' => e = .returned (.bool true) ∧ Below w.heap.size w w' := by
  by_cases h1 : 1048576 < len
  · go_enter Try.func6, Try.ntmps6
    go_wp2_with fail
    go_ret
    exact ⟨rfl, Below.refl _ _⟩
  · have h2 : 1048576 < len' := by omega
    go_enter Try.func6, Try.ntmps6
    go_wp2_with fail
    go_ret
    exact ⟨rfl, Below.refl _ _⟩

set_option maxHeartbeats 4000000 in
theorem fnRun_short (a : Option Addr) (len cap : Nat) (a' : Option Addr) (len' cap' : Nat) (w : World) (h : ¬ 1048576 < len) (h' : ¬ 1048576 < len') (hc : CodeIn w a len cap) (hcap : cap ≤ maxLen) :
    Calls Try.prog 6 #[.slice a len cap, .slice a' len' cap'] w fun e w' => e = .returned (.bool true) ∧ Below w.heap.size w w' := by
  obtain ⟨i0, hi, hz0, hz1, hz2⟩ := info_parts info_int
  have hc := Lib.hid hc
  have hcap := Lib.hid hcap
  go_enter Try.func6, Try.ntmps6
  go_wp2_with fail
  refine (drun_any a len cap w hc.out hcap.out).mono ?_
  rintro e w1 ⟨b0, u, L, bC, uC, C, rfl, O0, OC, hCl, D⟩
  have O0 := Lib.hid O0
  have OC := Lib.hid OC
  have D := Lib.hid D
  clear hc hcap
  go_wp2_with fail
  refine (irun_any u uC L C _ O0.out.read OC.out.read).mono ?_
  rintro e w2 ⟨b1, u1, b2, u2, g1, g2, gne, rfl, O1, O2, B⟩
  have O1 := Lib.hid O1
  have O2 := Lib.hid O2
  clear g1 g2 gne
  replace O0 := Lib.hid (O0.out.up B O0.out.lt)
  replace OC := Lib.hid (OC.out.up B OC.out.lt)
  replace D := Lib.hid (bstep D.out B)
  clear B
  go_wp2_with fail
  refine (srun_any u uC L C _ O0.out.read OC.out.read).mono ?_
  rintro e w3 ⟨b3, u3, b4, u4, rfl, O3, O4, B⟩
  have O3 := Lib.hid O3
  have O4 := Lib.hid O4
  replace O0 := Lib.hid (O0.out.up B O0.out.lt)
  replace OC := Lib.hid (OC.out.up B OC.out.lt)
  replace O1 := Lib.hid (O1.out.up B O1.out.lt)
  replace O2 := Lib.hid (O2.out.up B O2.out.lt)
  replace D := Lib.hid (bstep D.out B)
  clear B
  by_cases hR : stV L = true ∧ C.length ≤ 20 ∧ okC C = true
  · obtain ⟨hs, h20, hok⟩ := hR
    rw [runR_yes hs h20 hok] at O1 O2 O3 O4 ⊢
    dsimp only at O1 O2 O3 O4 ⊢
    have hs := Lib.hid hs
    have hok := Lib.hid hok
    go_wp2_with fail
    refine (same_any u2 u4 _ _ _ O2.out.read O4.out.read).mono ?_
    rintro e wq ⟨rfl, B⟩
    rw [show ∀ x : List Int, decide (x = x) = true from fun x => by simp]
    replace O0 := Lib.hid (O0.out.up B O0.out.lt)
    replace OC := Lib.hid (OC.out.up B OC.out.lt)
    replace O1 := Lib.hid (O1.out.up B O1.out.lt)
    replace O2 := Lib.hid (O2.out.up B O2.out.lt)
    replace O3 := Lib.hid (O3.out.up B O3.out.lt)
    replace O4 := Lib.hid (O4.out.up B O4.out.lt)
    replace D := Lib.hid (bstep D.out B)
    clear B
    go_wp2_with fail
    refine (same_any u1 u3 _ _ _ O1.out.read O3.out.read).mono ?_
    rintro e wq ⟨rfl, B⟩
    rw [show ∀ x : List Int, decide (x = x) = true from fun x => by simp]
    replace O0 := Lib.hid (O0.out.up B O0.out.lt)
    replace OC := Lib.hid (OC.out.up B OC.out.lt)
    replace O1 := Lib.hid (O1.out.up B O1.out.lt)
    replace O2 := Lib.hid (O2.out.up B O2.out.lt)
    replace D := Lib.hid (bstep D.out B)
    clear B
    obtain ⟨capC, rfl, hcC⟩ := OC.out.shape
    obtain ⟨n, hn⟩ : ∃ n, Hid (C.length = n) := ⟨_, Lib.hid rfl⟩
    obtain ⟨k, hk⟩ : ∃ k, k = len' % (n + 1) := ⟨_, rfl⟩
    have hkn : k ≤ n := by rw [hk]; exact Nat.le_of_lt_succ (Nat.mod_lt len' (Nat.succ_pos n))
    have hcast : (len' : Int) % ((n : Int) + 1) = (k : Int) := by rw [hk]; simp
    rw [hn.out] at hcC h20 ⊢
    have hmod : Int.tmod (len' : Int) ((n : Int) + 1) = (k : Int) := by
      rw [Int.tmod_eq_emod_of_nonneg (by omega), hcast]
    have hmod2 := hcast
    clear hk hcast
    have T1 := Lib.hid (show Ints wq u L ∧ Cmds wq (.slice (some ⟨bC, 0, none⟩) k capC) (C.take k) from ⟨O0.out.read, cmds_take (by rw [hn.out] at OC; rw [hn.out]; exact OC.out) k (by rw [hn.out]; exact hkn)⟩)
    go_wp2_with fail
    refine (irun_any u _ L (C.take k) _ T1.out.1 T1.out.2).mono ?_
    rintro e w6 ⟨b5, u5, b6, u6, g5, g6, gne, rfl, O5, O6, B⟩
    rw [runR_yes hs.out (by rw [List.length_take, hn.out]; omega) (okC_take hok.out k)] at O5 O6 ⊢
    dsimp only at O5 O6 ⊢
    have O5 := Lib.hid O5
    have O6 := Lib.hid O6
    replace OC := Lib.hid (OC.out.up B OC.out.lt)
    replace O1 := Lib.hid (O1.out.up B O1.out.lt)
    replace O2 := Lib.hid (O2.out.up B O2.out.lt)
    replace D := Lib.hid (bstep D.out B)
    clear B T1 O0 g5 g6 gne
    rcases Nat.lt_or_ge k capC with hkc | hkc
    · have T2 := Lib.hid (show Cmds w6 (.slice (some ⟨bC, k * 3, none⟩) (n - k) (capC - k)) (C.drop k) from by
        have X := cmds_drop (a := some ⟨bC, k * 3, none⟩) (cap2 := capC - k) (by rw [hn.out] at OC; rw [hn.out]; exact OC.out) k (by rw [hn.out]; exact hkn) (fun _ => rfl) (by rw [hn.out]; omega)
        rw [hn.out] at X; exact X)
      go_wp2_with fail
      refine (irun_any u5 _ (runS L (C.take k)).1 (C.drop k) _ O5.out.read T2.out).mono ?_
      rintro e w7 ⟨b7, u7, b8, u8, g7, g8, gne, rfl, O7, O8, B⟩
      rw [runR_yes (runS_stV hs.out (okC_take hok.out k)) (by rw [List.length_drop, hn.out]; omega) (okC_drop hok.out k)] at O7 O8 ⊢
      dsimp only at O7 O8 ⊢
      have hX : (runS (runS L (C.take k)).1 (C.drop k)).1 = (runS L C).1 := by rw [runS_cut L C k]
      have hY : Hid ((runS L (C.take k)).2 ++ (runS (runS L (C.take k)).1 (C.drop k)).2 = (runS L C).2) := Lib.hid (by rw [runS_cut L C k])
      rw [hX] at O7
      have l1 := Lib.hid (runS_len (C.take k) L)
      have l2 := Lib.hid (runS_len (C.drop k) (runS L (C.take k)).1)
      have l3 := Lib.hid (show (C.take k).length ≤ 21 by rw [List.length_take]; omega)
      have l4 := Lib.hid (show (C.drop k).length ≤ 21 by rw [List.length_drop]; omega)
      generalize (runS (runS L (C.take k)).1 (C.drop k)).2 = Y at O8 hY l2
      generalize (runS L (C.take k)).2 = X at O6 hY l1
      have O7 := Lib.hid O7
      have O8 := Lib.hid O8
      replace O6 := Lib.hid (O6.out.up B O6.out.lt)
      replace O1 := Lib.hid (O1.out.up B O1.out.lt)
      replace O2 := Lib.hid (O2.out.up B O2.out.lt)
      replace D := Lib.hid (bstep D.out B)
      clear B T2 O5 OC g7 g8 gne hX
      obtain ⟨c6, rfl, _⟩ := O6.out.shape
      obtain ⟨c8, rfl, _⟩ := O8.out.shape
      have lX : Hid (X.length ≤ 21) := Lib.hid (by rw [l1.out]; exact l3.out)
      have lY : Hid (Y.length ≤ 21) := Lib.hid (by rw [l2.out]; exact l4.out)
      clear l1 l2 l3 l4
      go_wp2_with fail
      refine (same_any u7 u1 _ _ _ O7.out.read O1.out.read).mono ?_
      rintro e w8 ⟨rfl, B⟩
      rw [show ∀ x : List Int, decide (x = x) = true from fun x => by simp]
      replace O6 := Lib.hid (O6.out.up B O6.out.lt)
      replace O8 := Lib.hid (O8.out.up B O8.out.lt)
      replace O2 := Lib.hid (O2.out.up B O2.out.lt)
      replace D := Lib.hid (bstep D.out B)
      clear B O7 O1
      have hE := Lib.hid (show (w8.alloc (.cells #[] 3)).ownsRow w8.heap.size 3 1 (.slice (some ⟨w8.heap.size, 0, none⟩) 0 0) 0 [] from World.ownsRow_made _ #[] 0 (Nat.le_refl _) (Nat.zero_le _) rfl)
      have O6a := Lib.hid (O6.out.alloc (.cells #[] 3))
      go_wp2_with (at_builtin; refine append_own_g _ (by rfl) _ _ 23 rfl w8.heap.size 3 i0 (.int .i64 0) 1 8 Try.underlying23 hi hz0 hz1 hz2 rfl (by decide) _ 0 [] rfl hE.out ⟨b6, 0, none⟩ X.length c6 (ints X) rfl (by rw [ints_len]; omega) ?p1A ?p2A ?p3A ?p4A ?p5A ?_)
      case p1A => exact src_cells (fun i hi => by rw [Nat.zero_add]; exact O6a.out.cell i hi)
      case p2A => exact one_cells X
      case p3A => have := lX.out; unfold maxLen; omega
      case p4A => have := lX.out; omega
      case p5A => simp
      intro v9 w9 hown9 hgrow9 hnil9
      have hown9 : w9.ownsRow w8.heap.size 3 1 v9 X.length (ints X) := by simpa using hown9
      have hown9 := Lib.hid hown9
      have n9 : v9 ≠ .slice none 0 0 := fun e => by first | exact hnil9 e | (have := (hnil9.1 e).1; simp at this)
      have n9 := Lib.hid n9
      have O8b := Lib.hid ((O8.out.alloc (.cells #[] 3)).same (hgrow9.block b8 (by have := O8.out.lt; simp; omega) (by have := O8.out.lt; simp [Value.ownBlock]; omega)))
      have O2b := Lib.hid ((O2.out.alloc (.cells #[] 3)).same (hgrow9.block b2 (by have := O2.out.lt; simp; omega) (by have := O2.out.lt; simp [Value.ownBlock]; omega)))
      have D9 := Lib.hid ((D.out.alloc D.out.size (.cells #[] 3)).grown hgrow9 (by have := D.out.size; simp; omega) (fun j hj => Nat.le_trans D.out.size (hE.out.lt j hj).1))
      have s9 := Lib.hid (show w8.heap.size + 1 ≤ w9.heap.size from by simpa using hgrow9.size)
      have x2 := Lib.hid O2.out.lt
      have s8 := Lib.hid D.out.size
      clear hgrow9 hnil9 hE O6a O6 O8 O2 D
      go_wp2_with (at_builtin; refine append_own_g _ (by rfl) _ _ 23 rfl w8.heap.size 3 i0 (.int .i64 0) 1 8 Try.underlying23 hi hz0 hz1 hz2 rfl (by decide) _ _ _ rfl hown9.out ⟨b8, 0, none⟩ Y.length c8 (ints Y) rfl (by rw [ints_len]; omega) ?r1A ?r2A ?r3A ?r4A ?r5A ?_)
      case r1A => exact src_cells (fun i hi => by rw [Nat.zero_add]; exact O8b.out.cell i hi)
      case r2A => exact one_cells Y
      case r3A => have := lX.out; have := lY.out; unfold maxLen; omega
      case r4A => have := lX.out; have := lY.out; omega
      case r5A => have := s9.out; omega
      intro v10 w10 hown10 hgrow10 hnil10
      have hrow : w10.ownsRow w8.heap.size 3 1 v10 (X.length + Y.length) (ints (X ++ Y)) := by simpa [ints] using hown10
      obtain ⟨gg, hgg, OF⟩ := Own.of_row hrow (by simp) (by have := lX.out; have := lY.out; simp; omega) (fun e => by first | exact n9.out (hnil10.1 e).1 | exact hnil10 e)
      rw [hY.out] at OF
      have OF := Lib.hid OF
      have O2c := Lib.hid (O2b.out.same (hgrow10.block b2 O2b.out.lt (fun e => by have := (hown9.out.lt b2 e.symm).1; have := x2.out; omega)))
      have D10 := Lib.hid (D9.out.grown hgrow10 D9.out.size (fun j hj => Nat.le_trans s8.out (hown9.out.lt j hj).1))
      clear hown10 hgrow10 hnil10 hrow hown9 n9 O8b O2b D9
      go_wp2_with fail
      refine (same_any v10 u2 _ _ _ OF.out.read O2c.out.read).mono ?_
      rintro e w11 ⟨rfl, B⟩
      rw [show ∀ x : List Int, decide (x = x) = true from fun x => by simp]
      replace D10 := Lib.hid (bstep D10.out B)
      clear B OF O2c
      go_wp2_with fail
      go_ret
      exact ⟨rfl, D10.out⟩
    · obtain rfl : k = capC := by omega
      obtain rfl : n = k := by omega
      have T2 := Lib.hid (show Cmds w6 (.slice (some ⟨bC, 0, none⟩) 0 0) (C.drop n) from by
        have X := cmds_drop (a := some ⟨bC, 0, none⟩) (cap2 := 0) (by rw [hn.out] at OC; rw [hn.out]; exact OC.out) n (by rw [hn.out]; exact Nat.le_refl _) (fun h => by rw [hn.out] at h; omega) (by rw [hn.out]; omega)
        rw [hn.out, Nat.sub_self] at X; exact X)
      go_wp2_with fail
      refine (irun_any u5 _ (runS L (C.take n)).1 (C.drop n) _ O5.out.read T2.out).mono ?_
      rintro e w7 ⟨b7, u7, b8, u8, g7, g8, gne, rfl, O7, O8, B⟩
      rw [runR_yes (runS_stV hs.out (okC_take hok.out n)) (by rw [List.length_drop, hn.out]; omega) (okC_drop hok.out n)] at O7 O8 ⊢
      dsimp only at O7 O8 ⊢
      have hX : (runS (runS L (C.take n)).1 (C.drop n)).1 = (runS L C).1 := by rw [runS_cut L C n]
      have hY : Hid ((runS L (C.take n)).2 ++ (runS (runS L (C.take n)).1 (C.drop n)).2 = (runS L C).2) := Lib.hid (by rw [runS_cut L C n])
      rw [hX] at O7
      have l1 := Lib.hid (runS_len (C.take n) L)
      have l2 := Lib.hid (runS_len (C.drop n) (runS L (C.take n)).1)
      have l3 := Lib.hid (show (C.take n).length ≤ 21 by rw [List.length_take]; omega)
      have l4 := Lib.hid (show (C.drop n).length ≤ 21 by rw [List.length_drop]; omega)
      generalize (runS (runS L (C.take n)).1 (C.drop n)).2 = Y at O8 hY l2
      generalize (runS L (C.take n)).2 = X at O6 hY l1
      have O7 := Lib.hid O7
      have O8 := Lib.hid O8
      replace O6 := Lib.hid (O6.out.up B O6.out.lt)
      replace O1 := Lib.hid (O1.out.up B O1.out.lt)
      replace O2 := Lib.hid (O2.out.up B O2.out.lt)
      replace D := Lib.hid (bstep D.out B)
      clear B T2 O5 OC g7 g8 gne hX
      obtain ⟨c6, rfl, _⟩ := O6.out.shape
      obtain ⟨c8, rfl, _⟩ := O8.out.shape
      have lX : Hid (X.length ≤ 21) := Lib.hid (by rw [l1.out]; exact l3.out)
      have lY : Hid (Y.length ≤ 21) := Lib.hid (by rw [l2.out]; exact l4.out)
      clear l1 l2 l3 l4
      go_wp2_with fail
      refine (same_any u7 u1 _ _ _ O7.out.read O1.out.read).mono ?_
      rintro e w8 ⟨rfl, B⟩
      rw [show ∀ x : List Int, decide (x = x) = true from fun x => by simp]
      replace O6 := Lib.hid (O6.out.up B O6.out.lt)
      replace O8 := Lib.hid (O8.out.up B O8.out.lt)
      replace O2 := Lib.hid (O2.out.up B O2.out.lt)
      replace D := Lib.hid (bstep D.out B)
      clear B O7 O1
      have hE := Lib.hid (show (w8.alloc (.cells #[] 3)).ownsRow w8.heap.size 3 1 (.slice (some ⟨w8.heap.size, 0, none⟩) 0 0) 0 [] from World.ownsRow_made _ #[] 0 (Nat.le_refl _) (Nat.zero_le _) rfl)
      have O6a := Lib.hid (O6.out.alloc (.cells #[] 3))
      go_wp2_with (at_builtin; refine append_own_g _ (by rfl) _ _ 23 rfl w8.heap.size 3 i0 (.int .i64 0) 1 8 Try.underlying23 hi hz0 hz1 hz2 rfl (by decide) _ 0 [] rfl hE.out ⟨b6, 0, none⟩ X.length c6 (ints X) rfl (by rw [ints_len]; omega) ?p1B ?p2B ?p3B ?p4B ?p5B ?_)
      case p1B => exact src_cells (fun i hi => by rw [Nat.zero_add]; exact O6a.out.cell i hi)
      case p2B => exact one_cells X
      case p3B => have := lX.out; unfold maxLen; omega
      case p4B => have := lX.out; omega
      case p5B => simp
      intro v9 w9 hown9 hgrow9 hnil9
      have hown9 : w9.ownsRow w8.heap.size 3 1 v9 X.length (ints X) := by simpa using hown9
      have hown9 := Lib.hid hown9
      have n9 : v9 ≠ .slice none 0 0 := fun e => by first | exact hnil9 e | (have := (hnil9.1 e).1; simp at this)
      have n9 := Lib.hid n9
      have O8b := Lib.hid ((O8.out.alloc (.cells #[] 3)).same (hgrow9.block b8 (by have := O8.out.lt; simp; omega) (by have := O8.out.lt; simp [Value.ownBlock]; omega)))
      have O2b := Lib.hid ((O2.out.alloc (.cells #[] 3)).same (hgrow9.block b2 (by have := O2.out.lt; simp; omega) (by have := O2.out.lt; simp [Value.ownBlock]; omega)))
      have D9 := Lib.hid ((D.out.alloc D.out.size (.cells #[] 3)).grown hgrow9 (by have := D.out.size; simp; omega) (fun j hj => Nat.le_trans D.out.size (hE.out.lt j hj).1))
      have s9 := Lib.hid (show w8.heap.size + 1 ≤ w9.heap.size from by simpa using hgrow9.size)
      have x2 := Lib.hid O2.out.lt
      have s8 := Lib.hid D.out.size
      clear hgrow9 hnil9 hE O6a O6 O8 O2 D
      go_wp2_with (at_builtin; refine append_own_g _ (by rfl) _ _ 23 rfl w8.heap.size 3 i0 (.int .i64 0) 1 8 Try.underlying23 hi hz0 hz1 hz2 rfl (by decide) _ _ _ rfl hown9.out ⟨b8, 0, none⟩ Y.length c8 (ints Y) rfl (by rw [ints_len]; omega) ?r1B ?r2B ?r3B ?r4B ?r5B ?_)
      case r1B => exact src_cells (fun i hi => by rw [Nat.zero_add]; exact O8b.out.cell i hi)
      case r2B => exact one_cells Y
      case r3B => have := lX.out; have := lY.out; unfold maxLen; omega
      case r4B => have := lX.out; have := lY.out; omega
      case r5B => have := s9.out; omega
      intro v10 w10 hown10 hgrow10 hnil10
      have hrow : w10.ownsRow w8.heap.size 3 1 v10 (X.length + Y.length) (ints (X ++ Y)) := by simpa [ints] using hown10
      obtain ⟨gg, hgg, OF⟩ := Own.of_row hrow (by simp) (by have := lX.out; have := lY.out; simp; omega) (fun e => by first | exact n9.out (hnil10.1 e).1 | exact hnil10 e)
      rw [hY.out] at OF
      have OF := Lib.hid OF
      have O2c := Lib.hid (O2b.out.same (hgrow10.block b2 O2b.out.lt (fun e => by have := (hown9.out.lt b2 e.symm).1; have := x2.out; omega)))
      have D10 := Lib.hid (D9.out.grown hgrow10 D9.out.size (fun j hj => Nat.le_trans s8.out (hown9.out.lt j hj).1))
      clear hown10 hgrow10 hnil10 hrow hown9 n9 O8b O2b D9
      go_wp2_with fail
      refine (same_any v10 u2 _ _ _ OF.out.read O2c.out.read).mono ?_
      rintro e w11 ⟨rfl, B⟩
      rw [show ∀ x : List Int, decide (x = x) = true from fun x => by simp]
      replace D10 := Lib.hid (bstep D10.out B)
      clear B OF O2c
      go_wp2_with fail
      go_ret
      exact ⟨rfl, D10.out⟩
  · rw [runR_no hR] at O1 O2 O3 O4 ⊢
    dsimp only at O1 O2 O3 O4 ⊢
    clear hR O0 OC
    go_wp2_with fail
    refine (same_any u2 u4 _ _ _ O2.out.read O4.out.read).mono ?_
    rintro e wq ⟨rfl, B⟩
    rw [show ∀ x : List Int, decide (x = x) = true from fun x => by simp]
    replace O1 := Lib.hid (O1.out.up B O1.out.lt)
    replace O2 := Lib.hid (O2.out.up B O2.out.lt)
    replace O3 := Lib.hid (O3.out.up B O3.out.lt)
    replace O4 := Lib.hid (O4.out.up B O4.out.lt)
    replace D := Lib.hid (bstep D.out B)
    clear B
    go_wp2_with fail
    refine (same_any u1 u3 _ _ _ O1.out.read O3.out.read).mono ?_
    rintro e wq ⟨rfl, B⟩
    rw [show ∀ x : List Int, decide (x = x) = true from fun x => by simp]
    replace O1 := Lib.hid (O1.out.up B O1.out.lt)
    replace O2 := Lib.hid (O2.out.up B O2.out.lt)
    replace O3 := Lib.hid (O3.out.up B O3.out.lt)
    replace O4 := Lib.hid (O4.out.up B O4.out.lt)
    replace D := Lib.hid (bstep D.out B)
    clear B
    go_wp2_with fail
    refine (same_any u2 u4 _ _ _ O2.out.read O4.out.read).mono ?_
    rintro e wq ⟨rfl, B⟩
    rw [show ∀ x : List Int, decide (x = x) = true from fun x => by simp]
    replace O1 := Lib.hid (O1.out.up B O1.out.lt)
    replace O3 := Lib.hid (O3.out.up B O3.out.lt)
    replace D := Lib.hid (bstep D.out B)
    clear B
    go_wp2_with fail
    refine (same_any u1 u3 _ _ _ O1.out.read O3.out.read).mono ?_
    rintro e wq ⟨rfl, B⟩
    rw [show ∀ x : List Int, decide (x = x) = true from fun x => by simp]
    replace D := Lib.hid (bstep D.out B)
    clear B
    go_wp2_with fail
    go_ret
    exact ⟨rfl, D.out⟩

theorem fnRun_any (a : Option Addr) (len cap : Nat) (a' : Option Addr) (len' cap' : Nat) (w : World) (hc : CodeIn w a len cap) (hcap : cap ≤ maxLen) (hc' : CodeIn w a' len' cap') (hcap' : cap' ≤ maxLen) :
    Calls Try.prog 6 #[.slice a len cap, .slice a' len' cap'] w fun e w' => e = .returned (.bool true) ∧ Below w.heap.size w w' := by
  by_cases h : 1048576 < len
  · exact fnRun_long a len cap a' len' cap' w (.inl h)
  · by_cases h' : 1048576 < len'
    · exact fnRun_long a len cap a' len' cap' w (.inr h')
    · exact fnRun_short a len cap a' len' cap' w h h' hc hcap
end Go.Proofs.Ytmekkjnegmeogaa
