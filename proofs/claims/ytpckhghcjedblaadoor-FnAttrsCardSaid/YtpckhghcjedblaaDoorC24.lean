/- Texts laid together. -/
import Derived.Test.YtpckhghcjedblaaDoorC19
import Derived.Deep.RegionWith
import Derived.Deep.DeepCutAuto
import Derived.IntWalk
import Derived.Deep.RegionHeld3
/- The walk of FnAttrs. -/
namespace Go.Proofs.YtpckhghcjedblaaDoor
open Go.RowKit
set_option linter.unusedVariables false

theorem lla_keep {w4 wc w' : World} {ib b o : Nat} {x y k key c p r zk zkey zv : Int} (hb : Below wc.heap.size wc w') (h : (wc.cell? ⟨ib, 0, none⟩ = some (.int .i64 x) ∧ wc.cell? ⟨ib, 1, none⟩ = some (.int .i64 y) ∧ wc.cell? ⟨ib + 1, 0, none⟩ = some (.int .i64 k) ∧ wc.cell? ⟨ib + 1, 1, none⟩ = some (.int .i64 key) ∧ wc.cell? ⟨ib + 1, 2, none⟩ = some (.int .i64 c) ∧ wc.cell? ⟨b, o, none⟩ = some (.int .i64 p) ∧ wc.cell? ⟨b, o + 1, none⟩ = some (.int .i64 r) ∧ wc.cell? ⟨b, o + 4, none⟩ = some (.int .i64 zk) ∧ wc.cell? ⟨b, o + 5, none⟩ = some (.int .i64 zkey) ∧ wc.cell? ⟨b, o + 6, none⟩ = some (.int .i64 zv)) ∧ Below w4.heap.size w4 wc) : (w'.cell? ⟨ib, 0, none⟩ = some (.int .i64 x) ∧ w'.cell? ⟨ib, 1, none⟩ = some (.int .i64 y) ∧ w'.cell? ⟨ib + 1, 0, none⟩ = some (.int .i64 k) ∧ w'.cell? ⟨ib + 1, 1, none⟩ = some (.int .i64 key) ∧ w'.cell? ⟨ib + 1, 2, none⟩ = some (.int .i64 c) ∧ w'.cell? ⟨b, o, none⟩ = some (.int .i64 p) ∧ w'.cell? ⟨b, o + 1, none⟩ = some (.int .i64 r) ∧ w'.cell? ⟨b, o + 4, none⟩ = some (.int .i64 zk) ∧ w'.cell? ⟨b, o + 5, none⟩ = some (.int .i64 zkey) ∧ w'.cell? ⟨b, o + 6, none⟩ = some (.int .i64 zv)) ∧ Below w4.heap.size w4 w' :=
  ⟨⟨cell_later hb h.1.1, cell_later hb h.1.2.1, cell_later hb h.1.2.2.1, cell_later hb h.1.2.2.2.1, cell_later hb h.1.2.2.2.2.1, cell_later hb h.1.2.2.2.2.2.1, cell_later hb h.1.2.2.2.2.2.2.1, cell_later hb h.1.2.2.2.2.2.2.2.1, cell_later hb h.1.2.2.2.2.2.2.2.2.1, cell_later hb h.1.2.2.2.2.2.2.2.2.2⟩, h.2.trans (hb.mono h.2.size)⟩
theorem lla_drew {w4 wc : World} {ib b o : Nat} {x y k key c p r zk zkey zv : Int} (h : (wc.cell? ⟨ib, 0, none⟩ = some (.int .i64 x) ∧ wc.cell? ⟨ib, 1, none⟩ = some (.int .i64 y) ∧ wc.cell? ⟨ib + 1, 0, none⟩ = some (.int .i64 k) ∧ wc.cell? ⟨ib + 1, 1, none⟩ = some (.int .i64 key) ∧ wc.cell? ⟨ib + 1, 2, none⟩ = some (.int .i64 c) ∧ wc.cell? ⟨b, o, none⟩ = some (.int .i64 p) ∧ wc.cell? ⟨b, o + 1, none⟩ = some (.int .i64 r) ∧ wc.cell? ⟨b, o + 4, none⟩ = some (.int .i64 zk) ∧ wc.cell? ⟨b, o + 5, none⟩ = some (.int .i64 zkey) ∧ wc.cell? ⟨b, o + 6, none⟩ = some (.int .i64 zv)) ∧ Below w4.heap.size w4 wc) : (wc.drew.cell? ⟨ib, 0, none⟩ = some (.int .i64 x) ∧ wc.drew.cell? ⟨ib, 1, none⟩ = some (.int .i64 y) ∧ wc.drew.cell? ⟨ib + 1, 0, none⟩ = some (.int .i64 k) ∧ wc.drew.cell? ⟨ib + 1, 1, none⟩ = some (.int .i64 key) ∧ wc.drew.cell? ⟨ib + 1, 2, none⟩ = some (.int .i64 c) ∧ wc.drew.cell? ⟨b, o, none⟩ = some (.int .i64 p) ∧ wc.drew.cell? ⟨b, o + 1, none⟩ = some (.int .i64 r) ∧ wc.drew.cell? ⟨b, o + 4, none⟩ = some (.int .i64 zk) ∧ wc.drew.cell? ⟨b, o + 5, none⟩ = some (.int .i64 zkey) ∧ wc.drew.cell? ⟨b, o + 6, none⟩ = some (.int .i64 zv)) ∧ Below w4.heap.size w4 wc.drew := ⟨h.1, h.2.drew⟩

set_option maxRecDepth 100000 in
set_option maxHeartbeats 16000000 in
theorem fnAttrs_walk (a : Option Addr) (len cap : Nat) (w : World) (hc : CodeIn w a len cap) (hcap : cap ≤ maxLen) (hT : TabIn w) :
    Calls Tryd.prog 3 #[.slice a len cap] w fun e w' => e = .returned (.bool true) ∧ Below w.heap.size w w' := by
  have hm : cap ≤ 9223372036854775807 := by simpa [maxLen] using hcap
  have hlc := hc.1
  by_cases hl : 1048576 < len
  · clear hcap hc hT
    go_enter Tryd.func3, Tryd.ntmps3
    go_wp2_with fail
    go_ret
    exact ⟨rfl, Below.refl _ _⟩
  · have dl := dla_any a len cap w hc hcap
    clear hc hcap
    go_enter Tryd.func3, Tryd.ntmps3
    go_wp2_with fail
    refine dl.mono ?_
    rintro e w1 ⟨v, E, x, y, k, key, c, rfl, O, hE12, ha, B⟩
    have N1 := O.read
    obtain ⟨va, vc, hv⟩ : ∃ a cap, v = .slice a E.length cap := by obtain ⟨a, c, e, _⟩ := N1; exact ⟨a, c, e⟩
    subst hv
    have BA := ((Below.refl w1.heap.size w1).alloc (Nat.le_refl _) (.cells #[.int .i64 x, .int .i64 y] 25)).alloc (by simp) (.cells #[.int .i64 k, .int .i64 key, .int .i64 c] 27)
    have A1 : (((w1.alloc (.cells #[.int .i64 x, .int .i64 y] 25)).alloc (.cells #[.int .i64 k, .int .i64 key, .int .i64 c] 27))).heap[w1.heap.size]? = some (.cells #[.int .i64 x, .int .i64 y] 25 (0, 0)) := (Below.heap_alloc _ _ _ (by simp)).trans (heap_alloc_new w1 _)
    have C1 : (((w1.alloc (.cells #[.int .i64 x, .int .i64 y] 25)).alloc (.cells #[.int .i64 k, .int .i64 key, .int .i64 c] 27))).heap[w1.heap.size + 1]? = some (.cells #[.int .i64 k, .int .i64 key, .int .i64 c] 27 (0, 0)) := heap_alloc_at _ _ _ (by simp)
    have D1 := Lib.hid (bstep B BA)
    have T1 := Lib.hid (TabIn.up (TabIn.up hT B (Nat.le_refl _)) BA (Nat.le_refl _))
    have N1 := Lib.hid (N1.up BA (Nat.le_refl _))
    have A1 := Lib.hid A1
    have C1 := Lib.hid C1
    clear B BA O dl hT
    go_upto_region 4 with fail
    obtain ⟨ib, hib⟩ : ∃ c, Hid (w1.heap.size = c) := ⟨_, Lib.hid rfl⟩
    rw [hib.out] at A1 C1 ⊢
    generalize (w1.alloc (.cells #[.int .i64 x, .int .i64 y] 25)).alloc (.cells #[.int .i64 k, .int .i64 key, .int .i64 c] 27) = W1 at A1 C1 D1 T1 N1 ⊢
    clear hib
    have il := ilatt_any (.slice va E.length vc) E x y k key c W1 T1.out N1.out
    have sl := fun W (hb : Below W1.heap.size W1 W) => slatt_any (.slice va E.length vc) E x y k key c W (N1.out.up hb (Nat.le_refl _))
    unfold LatP at il sl
    obtain ⟨⟨t, S, q⟩, hR⟩ : ∃ r, Hid (lattR E (x, y) k key c = r) := ⟨_, Lib.hid rfl⟩
    rw [hR.out] at il sl
    dsimp only at il sl
    obtain ⟨a0, a1, _, _⟩ := blk2 A1.out
    obtain ⟨c0, c1, c2, _, _, _⟩ := blk3 C1.out
    have hal := lt_of_heap A1.out
    have hcl := lt_of_heap C1.out
    go_wp2_with fail
    refine il.mono ?_
    rintro e w2 ⟨⟨u2, rfl, b2, hb2, P2⟩, B⟩
    have A2 := Lib.hid (bblk B hal A1.out)
    have C2 := Lib.hid (bblk B hcl C1.out)
    have P2 := Lib.hid P2.read
    have F2 := Lib.hid B
    clear B il a0 a1 c0 c1 c2 hal hcl A1 C1 hb2
    obtain ⟨a0, a1, _, _⟩ := blk2 A2.out
    obtain ⟨c0, c1, c2, _, _, _⟩ := blk3 C2.out
    have hal := lt_of_heap A2.out
    have hcl := lt_of_heap C2.out
    obtain ⟨da, dc, hu⟩ : ∃ a cap, u2 = .slice a S.length cap := by obtain ⟨a, c, e, _⟩ := P2.out; exact ⟨a, c, e⟩
    subst hu
    go_wp2_with fail
    refine (sl _ F2.out).mono ?_
    rintro e w3 ⟨⟨u3, rfl, b3, hb3, P3⟩, B⟩
    have A3 := Lib.hid (bblk B hal A2.out)
    have C3 := Lib.hid (bblk B hcl C2.out)
    have P3 := Lib.hid P3.read
    replace P2 := Lib.hid (P2.out.up B (Nat.le_refl _))
    have F3 := Lib.hid (bstep F2.out B)
    clear B sl a0 a1 c0 c1 c2 hal hcl A2 C2 hb3 F2
    have sg := fun W (hb : Below w3.heap.size w3 W) => sameg_any _ _ S S W (P2.out.up hb (Nat.le_refl _)) (P3.out.up hb (Nat.le_refl _))
    simp only [decide_true] at sg
    cases q
    · go_wp2_with fail
      refine (sg _ (Below.refl _ _)).mono ?_
      rintro e w4 ⟨rfl, B⟩
      have F4 := Lib.hid B
      clear B
      go_wp2_with fail
      refine (sg _ F4.out).mono ?_
      rintro e w5 ⟨rfl, B⟩
      have D := Lib.hid (bstep D1.out (bstep F3.out (bstep F4.out B)))
      clear B
      go_wp2_with fail
      go_ret
      exact ⟨rfl, D.out⟩
    · obtain ⟨hlv, hok, hcv, htop, ht, hS⟩ := latt_true hR.out
      replace hlv := Lib.hid hlv
      replace hok := Lib.hid hok
      replace hcv := Lib.hid hcv
      replace hS := Lib.hid hS
      replace ht := Lib.hid ht
      replace htop := Lib.hid htop
      go_wp2_with fail
      refine (sg _ (Below.refl _ _)).mono ?_
      rintro e w4 ⟨rfl, B⟩
      have A4 := Lib.hid (bblk B (lt_of_heap A3.out) A3.out)
      have C4 := Lib.hid (bblk B (lt_of_heap C3.out) C3.out)
      have P4 := Lib.hid (P2.out.up B (Nat.le_refl _))
      have D4 := Lib.hid (bstep D1.out (bstep F3.out B))
      have N4 := Lib.hid (N1.out.up (bstep F3.out B) (Nat.le_refl _))
      have T4 := Lib.hid (TabIn.up T1.out (bstep F3.out B) (Nat.le_refl _))
      clear B A3 C3 P2 P3 F3 sg D1 N1 T1 hR
      clear T4 ht htop
      obtain ⟨n, hn⟩ : ∃ n, Hid (E.length = n) := ⟨_, Lib.hid rfl⟩
      rw [hn.out] at N4 hE12 ⊢
      have E0 := Lib.hid (Below.refl w4.heap.size w4)
      go_wp2_with fail
      go_loopw [12] (fun i wr => ∃ j : Nat, j ≤ n ∧ i = .int .i64 j ∧ Hid (Below w4.heap.size w4 wr)) (fun i _ => n - (intOf i).toNat)
      case atStart => exact ⟨0, Nat.zero_le _, rfl, E0⟩
      case round =>
        clear E0
        obtain ⟨j, hj, rfl, D⟩ := hrel
        by_cases hlt : j < n
        · have hjE : j < E.length := by rw [hn.out]; exact hlt
          have hhas := cls_has hlv.out hjE (x, y) k key
          rw [← hS.out] at hhas
          have hzc := log_cmd hlv.out hjE
          obtain ⟨b, off, U, hvb, hA⟩ : ∃ b off U, va = some ⟨b, off, none⟩ ∧ EnsAt w4 b off E U := by
            obtain ⟨a', c', e', h1, h2, h3⟩ := N4.out
            rw [hn.out] at e' h3
            injection e' with e1 e2 e3
            rcases h3 with h3 | ⟨b, off, U, e4, hA⟩
            · omega
            · exact ⟨b, off, U, e1.trans e4, hA⟩
          subst hvb
          obtain ⟨z, hz⟩ : ∃ z, Hid (E.getD j en0 = z) := ⟨_, Lib.hid rfl⟩
          rw [hz.out] at hhas hzc
          have xat : ∀ W, Below w4.heap.size w4 W → EnAt W b (off + j * 9) z (U j) := fun W hb => by
            have := (hA.up hb (Nat.le_refl _)).at_ j hjE
            rw [hz.out] at this; exact this
          obtain ⟨ua, un, uc, hU⟩ : ∃ ua un uc, U j = .slice ua un uc := by obtain ⟨a, c, e, _⟩ := (xat _ (Below.refl _ _)).ids; exact ⟨a, _, c, e⟩
          rw [hU] at xat
          have hbl : ∀ W, Below w4.heap.size w4 W → b < W.heap.size := fun W hb => (hA.up hb (Nat.le_refl _)).lt
          obtain ⟨⟨p, r⟩, bal, st, zk, zkey, zv, s, L⟩ := z
          dsimp only at hhas hzc
          have lh := fun W (hb : Below w4.heap.size w4 W) => lhas_any _ S p r W (P4.out.up hb (Nat.le_refl _))
          have cl := fun W => iclash_any zk zkey zv k key c W
          rw [show clB zk zkey zv k key c = kcB zk zkey k key from by unfold clB; rw [hzc, hcv.out]; rfl] at cl
          rw [hhas] at lh
          clear hA hU hhas hzc
          go_upto_region 11 with fail
          go_cut [98] from 75 to 98 (fun s wx => s = .bool false ∧ Hid (Below w4.heap.size w4 wx))
          case first =>
            obtain ⟨q0, q1, q2, q3, q4, q5, q6, q7, q8, _⟩ := xat _ D.out
            dsimp only at q0 q1 q2 q3 q4 q5 q6 q7 q8
            have qb := hbl _ D.out
            have A5 := bblk D.out (lt_of_heap A4.out) A4.out
            have C5 := bblk D.out (lt_of_heap C4.out) C4.out
            obtain ⟨a0, a1, _, _⟩ := blk2 A5
            obtain ⟨c0, c1, c2, _, _, _⟩ := blk3 C5
            have hal := lt_of_heap A5
            have hcl := lt_of_heap C5
            clear A5 C5
            have S0 := Lib.hid (show (wr.cell? ⟨ib, 0, none⟩ = some (.int .i64 x) ∧ wr.cell? ⟨ib, 1, none⟩ = some (.int .i64 y) ∧ wr.cell? ⟨ib + 1, 0, none⟩ = some (.int .i64 k) ∧ wr.cell? ⟨ib + 1, 1, none⟩ = some (.int .i64 key) ∧ wr.cell? ⟨ib + 1, 2, none⟩ = some (.int .i64 c) ∧ wr.cell? ⟨b, off + j * 9, none⟩ = some (.int .i64 p) ∧ wr.cell? ⟨b, off + j * 9 + 1, none⟩ = some (.int .i64 r) ∧ wr.cell? ⟨b, off + j * 9 + 4, none⟩ = some (.int .i64 zk) ∧ wr.cell? ⟨b, off + j * 9 + 5, none⟩ = some (.int .i64 zkey) ∧ wr.cell? ⟨b, off + j * 9 + 6, none⟩ = some (.int .i64 zv)) ∧ Below w4.heap.size w4 wr from ⟨⟨a0, a1, c0, c1, c2, q0, q1, q4, q5, q6⟩, D.out⟩)
            by_cases hne : (p, r) = (x, y)
            · rw [clsF_no (fun h => h.1 hne)] at lh
              obtain ⟨rfl, rfl⟩ : p = x ∧ r = y := by simpa using hne
              clear S0
              refine wp_region_held_drew (S := fun w' => w'.cell? ⟨ib, 0, none⟩ = some (.int .i64 p) ∧ w'.cell? ⟨ib, 1, none⟩ = some (.int .i64 r) ∧ w'.cell? ⟨b, off + j * 9, none⟩ = some (.int .i64 p) ∧ w'.cell? ⟨b, off + j * 9 + 1, none⟩ = some (.int .i64 r) ∧ Below w4.heap.size w4 w') (by kernel_rfl) ⟨a0, a1, q0, q1, D.out.drew⟩ (fun hHeld => ?_)
              refine wpAnyH_take (i := 0) (oi := ⟨some 75, _, _, _, _, _⟩) (v := ?_) rfl (by kernel_rfl) (by kernel_rfl) (by kernel_rfl) (fun _ _ _ h => h) (Or.inl ⟨by rfl, ?_⟩) (by assumption) ?_
              rotate_left 1
              · intro w hSw; (try dsimp only at hSw); go_simp; try (with_reducible rfl)
              try simp only [Act.put, List.setIfInBounds_toArray, List.set_cons_zero, List.set_cons_succ]
              refine wpAnyH_take (i := 1) (oi := ⟨some 76, _, _, _, _, _⟩) (v := ?_) rfl (by kernel_rfl) (by kernel_rfl) (by kernel_rfl) (fun _ _ _ h => h) (Or.inl ⟨by rfl, ?_⟩) (by assumption) ?_
              rotate_left 1
              · intro w hSw; (try dsimp only at hSw); go_simp; try (with_reducible rfl)
              try simp only [Act.put, List.setIfInBounds_toArray, List.set_cons_zero, List.set_cons_succ]
              refine wpAnyH_take (i := 2) (oi := ⟨some 77, _, _, _, _, _⟩) (v := ?_) rfl (by kernel_rfl) (by kernel_rfl) (by kernel_rfl) (fun _ _ _ h => h) (Or.inl ⟨by rfl, ?_⟩) (by assumption) ?_
              rotate_left 1
              · intro w hSw; (try dsimp only at hSw); go_simp; try (with_reducible rfl)
              try simp only [Act.put, List.setIfInBounds_toArray, List.set_cons_zero, List.set_cons_succ]
              refine wpAnyH_take (i := 3) (oi := ⟨some 78, _, _, _, _, _⟩) (v := ?_) rfl (by kernel_rfl) (by kernel_rfl) (by kernel_rfl) (fun _ _ _ h => h) (Or.inl ⟨by rfl, ?_⟩) (by assumption) ?_
              rotate_left 1
              · intro w hSw; (try dsimp only at hSw); go_simp; try (with_reducible rfl)
              try simp only [Act.put, List.setIfInBounds_toArray, List.set_cons_zero, List.set_cons_succ]
              refine wpAnyH_take (i := 4) (oi := ⟨some 79, _, _, _, _, _⟩) (v := ?_) rfl (by kernel_rfl) (by kernel_rfl) (by kernel_rfl) (fun _ _ _ h => h) (Or.inl ⟨by rfl, ?_⟩) (by assumption) ?_
              rotate_left 1
              · intro w hSw; (try dsimp only at hSw); go_simp; try (with_reducible rfl)
              try simp only [Act.put, List.setIfInBounds_toArray, List.set_cons_zero, List.set_cons_succ]
              refine wpAnyH_take (i := 5) (oi := ⟨some 80, _, _, _, _, _⟩) (v := ?_) rfl (by kernel_rfl) (by kernel_rfl) (by kernel_rfl) (fun _ _ _ h => h) (Or.inl ⟨by rfl, ?_⟩) (by assumption) ?_
              rotate_left 1
              · intro w hSw; (try dsimp only at hSw); go_simp; try (with_reducible rfl)
              try simp only [Act.put, List.setIfInBounds_toArray, List.set_cons_zero, List.set_cons_succ]
              refine wpAnyH_take (i := 7) (oi := ⟨some 82, _, _, _, _, _⟩) (v := ?_) rfl (by kernel_rfl) (by kernel_rfl) (by kernel_rfl) (fun _ _ _ h => h) (Or.inl ⟨by rfl, ?_⟩) (by assumption) ?_
              rotate_left 1
              · intro w hSw; (try dsimp only at hSw); go_simp; try (with_reducible rfl)
              try simp only [Act.put, List.setIfInBounds_toArray, List.set_cons_zero, List.set_cons_succ]
              refine wpAnyH_take (i := 8) (oi := ⟨some 83, _, _, _, _, _⟩) (v := ?_) rfl (by kernel_rfl) (by kernel_rfl) (by kernel_rfl) (fun _ _ _ h => h) (Or.inl ⟨by rfl, ?_⟩) (by assumption) ?_
              rotate_left 1
              · intro w hSw; (try dsimp only at hSw); go_simp; try (with_reducible rfl)
              try simp only [Act.put, List.setIfInBounds_toArray, List.set_cons_zero, List.set_cons_succ]
              refine wpAnyH_take (i := 9) (oi := ⟨some 84, _, _, _, _, _⟩) (v := ?_) rfl (by kernel_rfl) (by kernel_rfl) (by kernel_rfl) (fun _ _ _ h => h) (Or.inl ⟨by rfl, ?_⟩) (by assumption) ?_
              rotate_left 1
              · intro w hSw; (try dsimp only at hSw); go_simp; try (with_reducible rfl)
              try simp only [Act.put, List.setIfInBounds_toArray, List.set_cons_zero, List.set_cons_succ]
              refine wpAnyH_take (i := 10) (oi := ⟨some 85, _, _, _, _, _⟩) (v := ?_) rfl (by kernel_rfl) (by kernel_rfl) (by kernel_rfl) (fun _ _ _ h => h) (Or.inl ⟨by rfl, ?_⟩) (by assumption) ?_
              rotate_left 1
              · intro w hSw; (try dsimp only at hSw); go_simp; try (with_reducible rfl)
              try simp only [Act.put, List.setIfInBounds_toArray, List.set_cons_zero, List.set_cons_succ]
              refine wpAnyH_take (i := 11) (oi := ⟨some 86, _, _, _, _, _⟩) (v := ?_) rfl (by kernel_rfl) (by kernel_rfl) (by kernel_rfl) (fun _ _ _ h => h) (Or.inl ⟨by rfl, ?_⟩) (by assumption) ?_
              rotate_left 1
              · intro w hSw; (try dsimp only at hSw); go_simp; try (with_reducible rfl)
              try simp only [Act.put, List.setIfInBounds_toArray, List.set_cons_zero, List.set_cons_succ]
              refine wpAnyH_take (i := 12) (oi := ⟨some 87, _, _, _, _, _⟩) (v := ?_) rfl (by kernel_rfl) (by kernel_rfl) (by kernel_rfl) (fun _ _ _ h => h) (Or.inl ⟨by rfl, ?_⟩) (by assumption) ?_
              rotate_left 1
              · intro w hSw; (try dsimp only at hSw); go_simp; try (with_reducible rfl)
              try simp only [Act.put, List.setIfInBounds_toArray, List.set_cons_zero, List.set_cons_succ]
              refine wpAnyH_take (i := 13) (oi := ⟨some 88, _, _, _, _, _⟩) (v := ?_) rfl (by kernel_rfl) (by kernel_rfl) (by kernel_rfl) (fun _ _ _ h => h) (Or.inl ⟨by rfl, ?_⟩) (by assumption) ?_
              rotate_left 1
              · intro w hSw; (try dsimp only at hSw); go_simp; try (with_reducible rfl)
              try simp only [Act.put, List.setIfInBounds_toArray, List.set_cons_zero, List.set_cons_succ]
              refine wpAnyH_ready (rs := [6]) (by kernel_rfl) (by simp) ?_
              refine AllReadyH.cons (o := ⟨some 81, _, _, _, _, _⟩) rfl (fun K hK => ?_) AllReadyH.nil
              go_simp
              with_reducible refine (lh _ hHeld.2.2.2.2).mono ?_
              rintro e wq ⟨rfl, hb⟩
              go_wp2_with fail
              refine hK.out _ _ ?_ (fun hHeld2 => ?_)
              · exact ⟨cell_later hb hHeld.1, cell_later hb hHeld.2.1, cell_later hb hHeld.2.2.1, cell_later hb hHeld.2.2.2.1, bstep hHeld.2.2.2.2 hb⟩
              clear hK K hHeld hb
              have hHeld := hHeld2
              clear hHeld2
              try simp only [Act.put, List.setIfInBounds_toArray, List.set_cons_zero, List.set_cons_succ]
              refine wpAnyH_take (i := 14) (oi := ⟨some 89, _, _, _, _, _⟩) (v := ?_) rfl (by kernel_rfl) (by kernel_rfl) (by kernel_rfl) (fun _ _ _ h => h) (Or.inl ⟨by rfl, ?_⟩) (by assumption) ?_
              rotate_left 1
              · intro w hSw; (try dsimp only at hSw); go_simp; try (with_reducible rfl)
              try simp only [Act.put, List.setIfInBounds_toArray, List.set_cons_zero, List.set_cons_succ]
              refine wpAnyH_take (i := 15) (oi := ⟨some 90, _, _, _, _, _⟩) (v := undef) rfl (by kernel_rfl) (by kernel_rfl) (by kernel_rfl) (fun _ _ _ h => h) (Or.inr ⟨by rfl, rfl⟩) (by assumption) ?_
              try simp only [Act.put, List.setIfInBounds_toArray, List.set_cons_zero, List.set_cons_succ]
              refine wpAnyH_take (i := 16) (oi := ⟨some 91, _, _, _, _, _⟩) (v := undef) rfl (by kernel_rfl) (by kernel_rfl) (by kernel_rfl) (fun _ _ _ h => h) (Or.inr ⟨by rfl, rfl⟩) (by assumption) ?_
              try simp only [Act.put, List.setIfInBounds_toArray, List.set_cons_zero, List.set_cons_succ]
              refine wpAnyH_take (i := 17) (oi := ⟨some 92, _, _, _, _, _⟩) (v := undef) rfl (by kernel_rfl) (by kernel_rfl) (by kernel_rfl) (fun _ _ _ h => h) (Or.inr ⟨by rfl, rfl⟩) (by assumption) ?_
              try simp only [Act.put, List.setIfInBounds_toArray, List.set_cons_zero, List.set_cons_succ]
              refine wpAnyH_take (i := 18) (oi := ⟨some 93, _, _, _, _, _⟩) (v := undef) rfl (by kernel_rfl) (by kernel_rfl) (by kernel_rfl) (fun _ _ _ h => h) (Or.inr ⟨by rfl, rfl⟩) (by assumption) ?_
              try simp only [Act.put, List.setIfInBounds_toArray, List.set_cons_zero, List.set_cons_succ]
              refine wpAnyH_take (i := 19) (oi := ⟨some 94, _, _, _, _, _⟩) (v := undef) rfl (by kernel_rfl) (by kernel_rfl) (by kernel_rfl) (fun _ _ _ h => h) (Or.inr ⟨by rfl, rfl⟩) (by assumption) ?_
              try simp only [Act.put, List.setIfInBounds_toArray, List.set_cons_zero, List.set_cons_succ]
              refine wpAnyH_take (i := 20) (oi := ⟨some 95, _, _, _, _, _⟩) (v := undef) rfl (by kernel_rfl) (by kernel_rfl) (by kernel_rfl) (fun _ _ _ h => h) (Or.inr ⟨by rfl, rfl⟩) (by assumption) ?_
              try simp only [Act.put, List.setIfInBounds_toArray, List.set_cons_zero, List.set_cons_succ]
              refine wpAnyH_take (i := 21) (oi := ⟨some 96, _, _, _, _, _⟩) (v := undef) rfl (by kernel_rfl) (by kernel_rfl) (by kernel_rfl) (fun _ _ _ h => h) (Or.inr ⟨by rfl, rfl⟩) (by assumption) ?_
              try simp only [Act.put, List.setIfInBounds_toArray, List.set_cons_zero, List.set_cons_succ]
              refine wpAnyH_take (i := 22) (oi := ⟨some 97, _, _, _, _, _⟩) (v := ?_) rfl (by kernel_rfl) (by kernel_rfl) (by kernel_rfl) (fun _ _ _ h => h) (Or.inl ⟨by rfl, ?_⟩) (by assumption) ?_
              rotate_left 1
              · intro w hSw; (try dsimp only at hSw); go_simp; try (with_reducible rfl)
              try simp only [Act.put, List.setIfInBounds_toArray, List.set_cons_zero, List.set_cons_succ]
              refine wpAnyH_take (i := 23) (oi := ⟨some 98, _, _, _, _, _⟩) (v := ?_) rfl (by kernel_rfl) (by kernel_rfl) (by kernel_rfl) (fun _ _ _ h => h) (Or.inl ⟨by rfl, ?_⟩) (by assumption) ?_
              rotate_left 1
              · intro w hSw; (try dsimp only at hSw); go_simp; try (with_reducible rfl)
              try simp only [Act.put, List.setIfInBounds_toArray, List.set_cons_zero, List.set_cons_succ]
              refine wpAnyH_done (by kernel_rfl) ?_ _
              try simp only [Act.put, List.setIfInBounds_toArray, List.set_cons_zero, List.set_cons_succ]
              have D2 := Lib.hid hHeld.2.2.2.2
              clear hHeld
              go_wp2_with fail
              go_meet
              exact ⟨by first | rfl | simp, D2⟩
            · have hF : clsF (x, y) k key ⟨(p, r), bal, st, zk, zkey, zv, s, L⟩ = kcB zk zkey k key := by unfold clsF; simp [hne]
              rw [hF] at lh
              clear hF
              obtain ⟨h, hh⟩ : ∃ h, kcB zk zkey k key = h := ⟨_, rfl⟩
              rw [hh] at lh cl
              clear hh
              rcases pid_ne2 hne with hne1 | ⟨hne0, hne1⟩
              · dsimp only at hne1
                go_region_held3 (fun w' => (w'.cell? ⟨ib, 0, none⟩ = some (.int .i64 x) ∧ w'.cell? ⟨ib, 1, none⟩ = some (.int .i64 y) ∧ w'.cell? ⟨ib + 1, 0, none⟩ = some (.int .i64 k) ∧ w'.cell? ⟨ib + 1, 1, none⟩ = some (.int .i64 key) ∧ w'.cell? ⟨ib + 1, 2, none⟩ = some (.int .i64 c) ∧ w'.cell? ⟨b, off + j * 9, none⟩ = some (.int .i64 p) ∧ w'.cell? ⟨b, off + j * 9 + 1, none⟩ = some (.int .i64 r) ∧ w'.cell? ⟨b, off + j * 9 + 4, none⟩ = some (.int .i64 zk) ∧ w'.cell? ⟨b, off + j * 9 + 5, none⟩ = some (.int .i64 zkey) ∧ w'.cell? ⟨b, off + j * 9 + 6, none⟩ = some (.int .i64 zv)) ∧ Below w4.heap.size w4 w') (first | exact lla_drew S0.out | exact lla_keep (by assumption) (by assumption))
                  (first | (go_at_call 12; (with_reducible refine (lh _ (by assumption : (_ ∧ _ ∧ _ ∧ _ ∧ _ ∧ _ ∧ _ ∧ _ ∧ _ ∧ _) ∧ Below w4.heap.size w4 _).2).mono ?_); rintro e w' ⟨rfl, hb⟩) | (go_at_call 13; (with_reducible refine (cl _).mono ?_); rintro e w' ⟨rfl, hb⟩))
                rename_i hHeld
                have D2 := Lib.hid hHeld.2
                clear hHeld S0
                go_wp2_with fail
                go_meet
                exact ⟨by simp, D2⟩
              · dsimp only at hne0 hne1
                subst hne0
                go_region_held3 (fun w' => (w'.cell? ⟨ib, 0, none⟩ = some (.int .i64 p) ∧ w'.cell? ⟨ib, 1, none⟩ = some (.int .i64 y) ∧ w'.cell? ⟨ib + 1, 0, none⟩ = some (.int .i64 k) ∧ w'.cell? ⟨ib + 1, 1, none⟩ = some (.int .i64 key) ∧ w'.cell? ⟨ib + 1, 2, none⟩ = some (.int .i64 c) ∧ w'.cell? ⟨b, off + j * 9, none⟩ = some (.int .i64 p) ∧ w'.cell? ⟨b, off + j * 9 + 1, none⟩ = some (.int .i64 r) ∧ w'.cell? ⟨b, off + j * 9 + 4, none⟩ = some (.int .i64 zk) ∧ w'.cell? ⟨b, off + j * 9 + 5, none⟩ = some (.int .i64 zkey) ∧ w'.cell? ⟨b, off + j * 9 + 6, none⟩ = some (.int .i64 zv)) ∧ Below w4.heap.size w4 w') (first | exact lla_drew S0.out | exact lla_keep (by assumption) (by assumption))
                  (first | (go_at_call 12; (with_reducible refine (lh _ (by assumption : (_ ∧ _ ∧ _ ∧ _ ∧ _ ∧ _ ∧ _ ∧ _ ∧ _ ∧ _) ∧ Below w4.heap.size w4 _).2).mono ?_); rintro e w' ⟨rfl, hb⟩) | (go_at_call 13; (with_reducible refine (cl _).mono ?_); rintro e w' ⟨rfl, hb⟩))
                rename_i hHeld
                have D2 := Lib.hid hHeld.2
                clear hHeld S0
                go_wp2_with fail
                go_meet
                exact ⟨by simp, D2⟩
          case rest =>
            obtain ⟨rfl, D2⟩ := hcut
            clear xat hbl lh cl
            go_wp2_with fail
            refine ⟨⟨j + 1, by omega, by go_num, D2⟩, ?_⟩
            simp [intOf]; omega
        · obtain rfl : j = n := by omega
          have iv := ival_any _ S wr (P4.out.up D.out (Nat.le_refl _))
          rw [show srtB S = true from by rw [hS.out]; exact cls_srt hlv.out (x, y) k key] at iv
          have D5 := Lib.hid (bstep D4.out D.out)
          go_wp2_with fail
          refine iv.mono ?_
          rintro e w5 ⟨rfl, B⟩
          have D6 := Lib.hid (bstep D5.out B)
          clear B iv
          go_wp2_with fail
          go_ret
          exact ⟨rfl, D6.out⟩
end Go.Proofs.YtpckhghcjedblaaDoor
