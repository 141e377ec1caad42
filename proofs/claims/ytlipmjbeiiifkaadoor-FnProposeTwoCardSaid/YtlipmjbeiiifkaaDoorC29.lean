/- Texts laid together. -/
import Derived.Test.YtlipmjbeiiifkaaDoorC06
import Derived.Deep.RegionWith
import Derived.Test.YtlipmjbeiiifkaaDoorC20
import Derived.Test.YtlipmjbeiiifkaaDoorC22
import Derived.Test.YtlipmjbeiiifkaaDoorC26
import Derived.Test.YtlipmjbeiiifkaaDoorC11
import Derived.Test.YtlipmjbeiiifkaaDoorC07
import Derived.Deep.DeepCutAuto
import Derived.IntWalk
import Derived.Deep.RegionHeld3
/- The laws' hasId. -/
namespace Go.Proofs.YtlipmjbeiiifkaaDoor
open Go.RowKit
set_option linter.unusedVariables false

set_option maxRecDepth 100000 in
set_option maxHeartbeats 2000000 in
theorem lhas_at (b off ca : Nat) (L : List Pid) (x y : Int) (w : World) (hb : b < w.heap.size) (hm : L.length ≤ 2000000) (h : ∀ i, i < L.length → w.cell? ⟨b, off + i * 2, none⟩ = some (.int .i64 (L.getD i nop).1) ∧ w.cell? ⟨b, off + i * 2 + 1, none⟩ = some (.int .i64 (L.getD i nop).2)) :
    Calls Tryd.prog 21 #[.slice (some ⟨b, off, none⟩) L.length ca, .agg #[.int .i64 x, .int .i64 y]] w fun e w' => e = .returned (.bool (hasP L (x, y))) ∧ Below w.heap.size w w' := by
  have h := Lib.hid h
  obtain ⟨n, hn⟩ : ∃ n, Hid (L.length = n) := ⟨_, Lib.hid rfl⟩
  obtain ⟨q, hq⟩ : ∃ q, Hid (hasP L (x, y) = q) := ⟨_, Lib.hid rfl⟩
  rw [hn.out] at hm ⊢
  rw [hq.out]
  go_enter Tryd.func21, Tryd.ntmps21
  go_wp2_with fail
  go_loopw [5] (fun i wr => ∃ k : Nat, k ≤ n ∧ i = .int .i64 k ∧ Hid (∀ j, j < k → ¬ L.getD j nop = (x, y)) ∧ wr.cell? ⟨w.heap.size, 0, none⟩ = some (.int .i64 x) ∧ wr.cell? ⟨w.heap.size, 1, none⟩ = some (.int .i64 y) ∧ Below w.heap.size w wr) (fun i _ => n - (intOf i).toNat)
  case atStart => exact ⟨0, Nat.zero_le _, rfl, Lib.hid (fun j hj => absurd hj (Nat.not_lt_zero _)), by go_simp, by go_simp, (Below.refl _ _).alloc (Nat.le_refl _) _⟩
  case round =>
    obtain ⟨k, hk, rfl, hno, x0, x1, hnx⟩ := hrel
    by_cases hlt : k < n
    · obtain ⟨h0, h1⟩ := h.out k (by rw [hn.out]; exact hlt)
      have q0 := (hnx.cell (p := ⟨b, off + k * 2, none⟩) hb).trans h0
      have q1 := (hnx.cell (p := ⟨b, off + k * 2 + 1, none⟩) hb).trans h1
      clear h0 h1
      obtain ⟨c, hc⟩ : ∃ c, Hid (L.getD k nop = c) := ⟨_, Lib.hid rfl⟩
      rw [hc.out] at q0 q1
      obtain ⟨p, r⟩ := c
      dsimp only at q0 q1
      have hnx := Lib.hid hnx
      clear h
      by_cases e1 : p = x
      · subst e1
        by_cases e2 : r = y
        · subst e2
          have hqt := hq.out
          rw [has_t (by rw [hn.out]; exact hlt) hc.out] at hqt
          subst hqt
          go_wp2_with fail
          go_quiet (fail)
          go_wp2_with fail
          go_ret
          exact ⟨rfl, bdrewN hnx.out _⟩
        · have R := Lib.hid (up_to hno.out (show ¬ L.getD k nop = (p, y) by rw [hc.out]; intro e; exact e2 (congrArg Prod.snd e)))
          go_wp2_with fail
          go_quiet (fail)
          go_wp2_with fail
          go_roundw
          case rel => exact ⟨k + 1, by omega, by go_num, R, by go_simp, by go_simp, bdrewN hnx.out _⟩
          case measure => simp [intOf]; omega
      · have R := Lib.hid (up_to hno.out (show ¬ L.getD k nop = (x, y) by rw [hc.out]; intro e; exact e1 (congrArg Prod.fst e)))
        go_wp2_with fail
        go_quiet (fail)
        go_wp2_with fail
        go_roundw
        case rel => exact ⟨k + 1, by omega, by go_num, R, by go_simp, by go_simp, bdrewN hnx.out _⟩
        case measure => simp [intOf]; omega
    · obtain rfl : k = n := by omega
      have hqf := hq.out
      rw [has_f (fun j hj => hno.out j (by rw [← hn.out]; exact hj))] at hqf
      subst hqf
      have hnx := Lib.hid hnx
      clear h
      go_wp2_with fail
      go_ret
      exact ⟨rfl, hnx.out⟩

theorem lhas_nil (a : Option Addr) (ca : Nat) (x y : Int) (w : World) :
    Calls Tryd.prog 21 #[.slice a 0 ca, .agg #[.int .i64 x, .int .i64 y]] w fun e w' => e = .returned (.bool (hasP [] (x, y))) ∧ Below w.heap.size w w' := by
  rw [show hasP [] (x, y) = false from rfl]
  go_enter Tryd.func21, Tryd.ntmps21
  go_wp2_with fail
  refine wp_loop_rounds 1 ?_
  rw [rounds_succ]
  go_wp2_with fail
  go_ret
  exact ⟨rfl, (Below.refl _ _).alloc (Nat.le_refl _) _⟩

theorem lhas_any (u : Value) (L : List Pid) (x y : Int) (w : World) (h : Ids w u L) :
    Calls Tryd.prog 21 #[u, .agg #[.int .i64 x, .int .i64 y]] w fun e w' => e = .returned (.bool (hasP L (x, y))) ∧ Below w.heap.size w w' := by
  obtain ⟨a, cap, rfl, h1, h2, h3⟩ := h
  rcases h3 with h3 | ⟨b, off, rfl, h4, h5⟩
  · obtain rfl : L = [] := List.length_eq_zero_iff.1 h3
    exact lhas_nil a cap x y w
  · exact lhas_at b off cap L x y w h4 h2 h5
end Go.Proofs.YtlipmjbeiiifkaaDoor

/- The walk of FnProposeTwo. -/
namespace Go.Proofs.YtlipmjbeiiifkaaDoor
open Go.RowKit
set_option linter.unusedVariables false

/-- What a second Propose answers, behind a first. -/
theorem prop_two {E N : List En} {p k key c : Int} {Y : En} (hY : Y = proE E p k key c) (hN : N = putE Y E) (hq : (propR N p k key c).2.2 = true) :
    (propR N p k key c).2.1.id.2 = Y.id.2 + 1 ∧ hasP (propR N p k key c).2.1.deps Y.id = kcB k key k key := by
  obtain ⟨_, _, hX, _, _⟩ := prop_is hq
  rw [hX]
  have hid : Y.id = (p, topF (ofR p) (fun x => x.id.2) E + 1) := by rw [hY]; rfl
  have hn : ∀ x, x ∈ E → ¬ x.id = Y.id := fun x hx e => new_id (E := E) p (by rw [← hid, ← e]; exact List.mem_map_of_mem hx)
  have hk : Y.k = k ∧ Y.key = key := by rw [hY]; exact ⟨rfl, rfl⟩
  have ht : topF (ofR p) (fun x => x.id.2) N = Y.id.2 := by
    have h1 := topF_le (f := ofR p) (v := fun x : En => x.id.2) (show Y ∈ N by rw [hN]; exact mem_putE.2 (.inl rfl)) (by unfold ofR; rw [hid]; simp)
    have h0 := topF_nn (ofR p) (fun x : En => x.id.2) E
    have hY2 : Y.id.2 = topF (ofR p) (fun x => x.id.2) E + 1 := by rw [hid]
    (try dsimp only at h1)
    rcases topF_is (f := ofR p) (v := fun x : En => x.id.2) (E := N) with h | ⟨x, hx, hf, hv⟩
    · omega
    · rw [hN] at hx
      rcases mem_putE.1 hx with e | ⟨hx, _⟩
      · rw [← hv, e]
      · have h2 := topF_le (f := ofR p) (v := fun x : En => x.id.2) hx hf
        (try dsimp only at h2 hv); omega
  refine ⟨by show topF (ofR p) (fun x => x.id.2) N + 1 = _; rw [ht], ?_⟩
  show hasP (idsE (clsE N (p, topF (ofR p) (fun x => x.id.2) N + 1) k key)) Y.id = _
  rw [ht, Bool.eq_iff_iff, hasP_iff]
  constructor
  · intro h
    obtain ⟨x, hx, e⟩ := List.mem_map.1 h
    obtain ⟨hx1, hx2⟩ := List.mem_filter.1 hx
    rw [hN] at hx1
    rcases mem_putE.1 hx1 with e2 | ⟨hx1, _⟩
    · rw [e2, hk.1, hk.2] at hx2
      simp only [Bool.and_eq_true] at hx2
      exact hx2.2
    · exact absurd e (hn x hx1)
  · intro h
    refine List.mem_map.2 ⟨Y, List.mem_filter.2 ⟨by rw [hN]; exact mem_putE.2 (.inl rfl), ?_⟩, rfl⟩
    have : ¬ Y.id = (p, Y.id.2 + 1) := fun e => by have := congrArg Prod.snd e; dsimp only at this; omega
    rw [hk.1, hk.2, h, decide_eq_false this]; rfl
theorem lpo_keep {w10 wc w' : World} {xb7 xb5 cb vn7 vc7 : Nat} {va7 : Option Addr} {x2 y1 y2 k key c : Int} (hb : Below wc.heap.size wc w') (h : (wc.cell? ⟨xb7, 1, none⟩ = some (.int .i64 x2) ∧ wc.cell? ⟨xb7, 8, none⟩ = some (.slice va7 vn7 vc7) ∧ wc.cell? ⟨xb5, 0, none⟩ = some (.int .i64 y1) ∧ wc.cell? ⟨xb5, 1, none⟩ = some (.int .i64 y2) ∧ wc.cell? ⟨cb, 0, none⟩ = some (.int .i64 k) ∧ wc.cell? ⟨cb, 1, none⟩ = some (.int .i64 key) ∧ wc.cell? ⟨cb, 2, none⟩ = some (.int .i64 c)) ∧ Below w10.heap.size w10 wc) : (w'.cell? ⟨xb7, 1, none⟩ = some (.int .i64 x2) ∧ w'.cell? ⟨xb7, 8, none⟩ = some (.slice va7 vn7 vc7) ∧ w'.cell? ⟨xb5, 0, none⟩ = some (.int .i64 y1) ∧ w'.cell? ⟨xb5, 1, none⟩ = some (.int .i64 y2) ∧ w'.cell? ⟨cb, 0, none⟩ = some (.int .i64 k) ∧ w'.cell? ⟨cb, 1, none⟩ = some (.int .i64 key) ∧ w'.cell? ⟨cb, 2, none⟩ = some (.int .i64 c)) ∧ Below w10.heap.size w10 w' :=
  ⟨⟨cell_later hb h.1.1, cell_later hb h.1.2.1, cell_later hb h.1.2.2.1, cell_later hb h.1.2.2.2.1, cell_later hb h.1.2.2.2.2.1, cell_later hb h.1.2.2.2.2.2.1, cell_later hb h.1.2.2.2.2.2.2⟩, h.2.trans (hb.mono h.2.size)⟩
theorem lpo_drew {w10 wc : World} {xb7 xb5 cb vn7 vc7 : Nat} {va7 : Option Addr} {x2 y1 y2 k key c : Int} (h : (wc.cell? ⟨xb7, 1, none⟩ = some (.int .i64 x2) ∧ wc.cell? ⟨xb7, 8, none⟩ = some (.slice va7 vn7 vc7) ∧ wc.cell? ⟨xb5, 0, none⟩ = some (.int .i64 y1) ∧ wc.cell? ⟨xb5, 1, none⟩ = some (.int .i64 y2) ∧ wc.cell? ⟨cb, 0, none⟩ = some (.int .i64 k) ∧ wc.cell? ⟨cb, 1, none⟩ = some (.int .i64 key) ∧ wc.cell? ⟨cb, 2, none⟩ = some (.int .i64 c)) ∧ Below w10.heap.size w10 wc) : (wc.drew.cell? ⟨xb7, 1, none⟩ = some (.int .i64 x2) ∧ wc.drew.cell? ⟨xb7, 8, none⟩ = some (.slice va7 vn7 vc7) ∧ wc.drew.cell? ⟨xb5, 0, none⟩ = some (.int .i64 y1) ∧ wc.drew.cell? ⟨xb5, 1, none⟩ = some (.int .i64 y2) ∧ wc.drew.cell? ⟨cb, 0, none⟩ = some (.int .i64 k) ∧ wc.drew.cell? ⟨cb, 1, none⟩ = some (.int .i64 key) ∧ wc.drew.cell? ⟨cb, 2, none⟩ = some (.int .i64 c)) ∧ Below w10.heap.size w10 wc.drew := ⟨h.1, h.2.drew⟩

set_option maxRecDepth 100000 in
set_option maxHeartbeats 8000000 in
theorem fnProposeTwo_walk (a : Option Addr) (len cap : Nat) (w : World) (hc : CodeIn w a len cap) (hcap : cap ≤ maxLen) (hT : TabIn w) :
    Calls Tryd.prog 5 #[.slice a len cap] w fun e w' => e = .returned (.bool true) ∧ Below w.heap.size w w' := by
  have dn := dpr_any a len cap w hc hcap
  by_cases hlen : 1048576 < len
  · go_enter Tryd.func5, Tryd.ntmps5
    go_wp2_with fail
    go_ret
    exact ⟨rfl, Below.refl _ _⟩
  · have hT := Lib.hid hT
    go_enter Tryd.func5, Tryd.ntmps5
    go_wp2_with fail
    refine dn.mono ?_
    rintro e w1 ⟨v, E, p, k, key, c, rfl, O, hl, hp, B⟩
    obtain ⟨g, cp, hv⟩ := O.len
    subst hv
    have BA := (Below.refl w1.heap.size w1).alloc (Nat.le_refl _) (.cells #[.int .i64 k, .int .i64 key, .int .i64 c] 25)
    have C2 := Lib.hid (heap_alloc_new w1 (.cells #[.int .i64 k, .int .i64 key, .int .i64 c] 25))
    have O2 := Lib.hid (O.up BA).read
    have D := Lib.hid (bstep B BA)
    have T2 := Lib.hid (TabIn.up hT.out D.out (Nat.le_refl _))
    clear BA B O dn hT
    go_upto_region 4 with fail
    obtain ⟨cb, hx2⟩ : ∃ c, Hid (w1.heap.size = c) := ⟨_, Lib.hid rfl⟩
    rw [hx2.out] at C2 ⊢
    generalize w1.alloc (.cells #[.int .i64 k, .int .i64 key, .int .i64 c] 25) = w2 at C2 O2 D T2 ⊢
    clear hx2
    have iv := iprop_any _ E p k key c w2 T2.out O2.out
    have sv := fun W (hb : Below w2.heap.size w2 W) => sprop_any _ E p k key c W (O2.out.up hb (Nat.le_refl _))
    obtain ⟨⟨N, Y, q⟩, hR⟩ : ∃ r, Hid (propR E p k key c = r) := ⟨_, Lib.hid rfl⟩
    unfold PrP at iv
    unfold PmP at sv
    rw [hR.out] at iv sv
    dsimp only at iv sv
    unfold env at iv sv
    obtain ⟨n, hn⟩ : ∃ n, Hid (E.length = n) := ⟨_, Lib.hid rfl⟩
    rw [hn.out] at iv sv O2 hl ⊢
    obtain ⟨b0, b1, b2, _, _, _⟩ := blk3 C2.out
    have hcl := lt_of_heap C2.out
    go_wp2_with fail
    refine iv.mono ?_
    rintro e w3 ⟨v5, u5, S5, rfl, _, _, O5, L5, B⟩
    obtain ⟨g5, c5, hv5, _⟩ := L5.shape
    subst hv5
    obtain ⟨va5, vn5, vc5, rfl⟩ : ∃ ua un uc, u5 = .slice ua un uc := by obtain ⟨a, c, e, _⟩ := O5.read; exact ⟨a, _, c, e⟩
    have BA := (Below.refl w3.heap.size w3).alloc (Nat.le_refl _) (.cells #[.int .i64 Y.id.1, .int .i64 Y.id.2, .int .i64 Y.bal, .int .i64 Y.st, .int .i64 Y.k, .int .i64 Y.key, .int .i64 Y.v, .int .i64 Y.seq, .slice va5 vn5 vc5] 32)
    have G5 := Lib.hid (show BxE (w3.alloc (.cells #[.int .i64 Y.id.1, .int .i64 Y.id.2, .int .i64 Y.bal, .int .i64 Y.st, .int .i64 Y.k, .int .i64 Y.key, .int .i64 Y.v, .int .i64 Y.seq, .slice va5 vn5 vc5] 32)) w3.heap.size Y (.slice va5 vn5 vc5) from heap_alloc_new _ _)
    have I5 := Lib.hid ((O5.up BA).read)
    have L5 := Lib.hid ((L5.up BA).read)
    have F := Lib.hid (bstep B BA)
    have C3 := Lib.hid (bblk F.out hcl C2.out)
    clear iv B BA O5 b0 b1 b2 hcl C2
    go_upto_region 5 with fail
    obtain ⟨xb5, hx5⟩ : ∃ c, Hid (w3.heap.size = c) := ⟨_, Lib.hid rfl⟩
    rw [hx5.out] at G5 ⊢
    generalize w3.alloc (.cells #[.int .i64 Y.id.1, .int .i64 Y.id.2, .int .i64 Y.bal, .int .i64 Y.st, .int .i64 Y.k, .int .i64 Y.key, .int .i64 Y.v, .int .i64 Y.seq, .slice va5 vn5 vc5] 32) = w4 at G5 I5 L5 F C3 ⊢
    clear hx5
    obtain ⟨b0, b1, b2, _, _, _⟩ := blk3 C3.out
    have hcl := lt_of_heap C3.out
    go_wp2_with fail
    refine (sv _ F.out).mono ?_
    rintro e w5 ⟨v6, u6, rfl, O6, I6, B⟩
    obtain ⟨g6, c6, hv6⟩ := O6.len
    subst hv6
    obtain ⟨va6, vn6, vc6, rfl⟩ : ∃ ua un uc, u6 = .slice ua un uc := by obtain ⟨a, c, e, _⟩ := I6; exact ⟨a, _, c, e⟩
    have BA := (Below.refl w5.heap.size w5).alloc (Nat.le_refl _) (.cells #[.int .i64 Y.id.1, .int .i64 Y.id.2, .int .i64 Y.bal, .int .i64 Y.st, .int .i64 Y.k, .int .i64 Y.key, .int .i64 Y.v, .int .i64 Y.seq, .slice va6 vn6 vc6] 32)
    have G6 := Lib.hid (show BxE (w5.alloc (.cells #[.int .i64 Y.id.1, .int .i64 Y.id.2, .int .i64 Y.bal, .int .i64 Y.st, .int .i64 Y.k, .int .i64 Y.key, .int .i64 Y.v, .int .i64 Y.seq, .slice va6 vn6 vc6] 32)) w5.heap.size Y (.slice va6 vn6 vc6) from heap_alloc_new _ _)
    have I6 := Lib.hid (I6.up BA (Nat.le_refl _))
    have L6 := Lib.hid ((O6.up BA).read)
    have B2 := bstep B BA
    replace G5 := Lib.hid (G5.out.up B2)
    replace I5 := Lib.hid (I5.out.up B2 (Nat.le_refl _))
    replace L5 := Lib.hid (L5.out.up B2 (Nat.le_refl _))
    replace C3 := Lib.hid (bblk B2 hcl C3.out)
    replace F := Lib.hid (bstep F.out B2)
    clear sv B BA B2 O6 b0 b1 b2 hcl
    go_upto_region 6 with fail
    obtain ⟨xb6, hx6⟩ : ∃ c, Hid (w5.heap.size = c) := ⟨_, Lib.hid rfl⟩
    rw [hx6.out] at G6 ⊢
    generalize w5.alloc (.cells #[.int .i64 Y.id.1, .int .i64 Y.id.2, .int .i64 Y.bal, .int .i64 Y.st, .int .i64 Y.k, .int .i64 Y.key, .int .i64 Y.v, .int .i64 Y.seq, .slice va6 vn6 vc6] 32) = w6 at G5 I5 L5 G6 I6 L6 F C3 ⊢
    clear hx6
    have hm12 : N.length ≤ 12 := by have := propR_len E p k key c; rw [hR.out] at this; exact this
    obtain ⟨m, hm⟩ : ∃ m, Hid (N.length = m) := ⟨_, Lib.hid rfl⟩
    have se := fun W (hb : Below w6.heap.size w6 W) => sameE_self Y (.slice va5 vn5 vc5) (.slice va6 vn6 vc6) W (I5.out.up hb (Nat.le_refl _)) (I6.out.up hb (Nat.le_refl _))
    have sm := fun W (hb : Below w6.heap.size w6 W) => smL_any _ _ N W (L5.out.up hb (Nat.le_refl _)) (L6.out.up hb (Nat.le_refl _))
    unfold env at se
    rw [hm.out] at sm L5 L6 hm12 ⊢
    obtain ⟨⟨p0, p1, p2, p3, p4, p5, p6, p7, p8⟩, pl⟩ := G5.out.cells
    obtain ⟨⟨r0, r1, r2, r3, r4, r5, r6, r7, r8⟩, rl⟩ := G6.out.cells
    go_wp2_with fail
    refine (se _ (Below.refl _ _)).mono ?_
    rintro e w7 ⟨rfl, B⟩
    have K7 := Lib.hid B
    clear B p0 p1 p2 p3 p4 p5 p6 p7 p8 pl r0 r1 r2 r3 r4 r5 r6 r7 r8 rl
    go_wp2_with fail
    refine (sm _ K7.out).mono ?_
    rintro e w8 ⟨rfl, B⟩
    replace K7 := Lib.hid (bstep K7.out B)
    clear B
    cases q
    · have G5b := G5.out.up K7.out
      have G6b := G6.out.up K7.out
      obtain ⟨⟨p0, p1, p2, p3, p4, p5, p6, p7, p8⟩, pl⟩ := G5b.cells
      obtain ⟨⟨r0, r1, r2, r3, r4, r5, r6, r7, r8⟩, rl⟩ := G6b.cells
      clear G5b G6b
      go_wp2_with fail
      refine (se _ K7.out).mono ?_
      rintro e w9 ⟨rfl, B⟩
      replace K7 := Lib.hid (bstep K7.out B)
      clear B p0 p1 p2 p3 p4 p5 p6 p7 p8 pl r0 r1 r2 r3 r4 r5 r6 r7 r8 rl
      go_wp2_with fail
      refine (sm _ K7.out).mono ?_
      rintro e w10 ⟨rfl, B⟩
      replace K7 := Lib.hid (bstep K7.out B)
      have D9 := Lib.hid (bstep D.out (bstep F.out K7.out))
      clear B
      go_wp2_with fail
      go_ret
      exact ⟨rfl, D9.out⟩
    · clear se sm
      have hP := prop_is (E := E) (p := p) (k := k) (key := key) (v := c) (by rw [hR.out])
      rw [hR.out] at hP
      obtain ⟨hlog, hN, hY, henB, hN12⟩ := hP
      dsimp only at hN hY
      rw [← hY] at hN henB hN12
      have hbd := enB_of henB
      have e1 : Y.id = (p, topF (ofR p) (fun x => x.id.2) E + 1) := by rw [hY]; rfl
      have e2 : Y.k = k ∧ Y.key = key ∧ Y.v = c ∧ Y.bal = 0 ∧ Y.st = 1 := by rw [hY]; exact ⟨rfl, rfl, rfl, rfl, rfl⟩
      have e3 : Y.seq = topE (clsE E Y.id k key) + 1 ∧ Y.deps = idsE (clsE E Y.id k key) := by rw [e1, hY]; exact ⟨rfl, rfl⟩
      have hcv : cvB k key c = true := by have := hbd.2.2.2.2.2.2; rw [e2.1, e2.2.1, e2.2.2.1] at this; exact this
      replace G5 := Lib.hid (G5.out.up K7.out)
      replace I5 := Lib.hid (I5.out.up K7.out (Nat.le_refl _))
      replace L5 := Lib.hid (L5.out.up K7.out (Nat.le_refl _))
      replace C3 := Lib.hid (bblk K7.out (lt_of_heap C3.out) C3.out)
      replace F := Lib.hid (bstep F.out K7.out)
      have O8 := Lib.hid (O2.out.up F.out (Nat.le_refl _))
      have T8 := Lib.hid (TabIn.up T2.out F.out (Nat.le_refl _))
      have D8 := Lib.hid (bstep D.out F.out)
      clear G6 I6 L6 F K7 O2 T2 D hR
      have hk1 : 1 ≤ Y.id.2 ∧ Y.id.2 ≤ 50 := (okP_iff.1 hbd.1).2
      have hX := fun h => prop_two hY hN h
      clear hlog hN hY henB hN12 e1 e2 e3 hbd
      have iv := iprop_any _ N p k key c w8 T8.out L5.out
      obtain ⟨⟨M, X, q2⟩, hR⟩ : ∃ r, Hid (propR N p k key c = r) := ⟨_, Lib.hid rfl⟩
      unfold PrP at iv
      rw [hR.out] at iv hX
      dsimp only at iv hX
      unfold env at iv
      have hX := Lib.hid hX
      obtain ⟨b0, b1, b2, _, _, _⟩ := blk3 C3.out
      have hcl := lt_of_heap C3.out
      go_wp2_with fail
      refine iv.mono ?_
      rintro e w9 ⟨v7, u7, S7, rfl, _, _, O7, L7, B⟩
      obtain ⟨g7, c7, hv7, _⟩ := L7.shape
      subst hv7
      obtain ⟨va7, vn7, vc7, rfl⟩ : ∃ ua un uc, u7 = .slice ua un uc := by obtain ⟨a, c, e, _⟩ := O7.read; exact ⟨a, _, c, e⟩
      have BA := (Below.refl w9.heap.size w9).alloc (Nat.le_refl _) (.cells #[.int .i64 X.id.1, .int .i64 X.id.2, .int .i64 X.bal, .int .i64 X.st, .int .i64 X.k, .int .i64 X.key, .int .i64 X.v, .int .i64 X.seq, .slice va7 vn7 vc7] 32)
      have G7 := Lib.hid (show BxE (w9.alloc (.cells #[.int .i64 X.id.1, .int .i64 X.id.2, .int .i64 X.bal, .int .i64 X.st, .int .i64 X.k, .int .i64 X.key, .int .i64 X.v, .int .i64 X.seq, .slice va7 vn7 vc7] 32)) w9.heap.size X (.slice va7 vn7 vc7) from heap_alloc_new _ _)
      have I7 := Lib.hid ((O7.up BA).read)
      have B2 := bstep B BA
      replace G5 := Lib.hid (G5.out.up B2)
      replace C3 := Lib.hid (bblk B2 hcl C3.out)
      replace D8 := Lib.hid (bstep D8.out B2)
      clear iv B BA B2 O7 L7 L5 I5 b0 b1 b2 hcl T8 O8
      go_upto_region 9 with fail
      obtain ⟨xb7, hx7⟩ : ∃ c, Hid (w9.heap.size = c) := ⟨_, Lib.hid rfl⟩
      rw [hx7.out] at G7 ⊢
      generalize w9.alloc (.cells #[.int .i64 X.id.1, .int .i64 X.id.2, .int .i64 X.bal, .int .i64 X.st, .int .i64 X.k, .int .i64 X.key, .int .i64 X.v, .int .i64 X.seq, .slice va7 vn7 vc7] 32) = w10 at G5 G7 I7 C3 D8 ⊢
      clear hx7
      have cl := fun W => iclash_any k key c k key c W
      rw [show clB k key c k key c = kcB k key k key from by unfold clB; rw [hcv]; rfl] at cl
      have lh := fun W (hb : Below w10.heap.size w10 W) => lhas_any _ X.deps Y.id.1 Y.id.2 W (I7.out.up hb (Nat.le_refl _))
      obtain ⟨⟨p0, p1, p2, p3, p4, p5, p6, p7, p8⟩, pl⟩ := G5.out.cells
      obtain ⟨⟨r0, r1, r2, r3, r4, r5, r6, r7, r8⟩, rl⟩ := G7.out.cells
      obtain ⟨b0, b1, b2, _, _, _⟩ := blk3 C3.out
      clear I7 G5 G7 C3 hR
      cases q2
      · clear p0 p1 p2 p3 p4 p5 p6 p7 p8 pl r0 r1 r2 r3 r4 r5 r6 r7 r8 rl hX lh cl b0 b1 b2
        have S0 := Lib.hid (Below.refl w10.heap.size w10)
        refine wp_region_held_drew (S := fun w' => Below w10.heap.size w10 w') (by kernel_rfl) (Below.drew S0.out) (fun hHeld => ?_)
        refine wpAnyH_take (i := 0) (oi := ⟨some 80, _, _, _, _, _⟩) (v := ?_) rfl (by kernel_rfl) (by kernel_rfl) (by kernel_rfl) (fun _ _ _ h => h) (Or.inl ⟨by rfl, ?_⟩) (by assumption) ?_
        rotate_left 1
        · intro w hSw; (try dsimp only at hSw); go_simp; try (with_reducible rfl)
        try simp only [Act.put, List.setIfInBounds_toArray, List.set_cons_zero, List.set_cons_succ]
        refine wpAnyH_take (i := 1) (oi := ⟨some 81, _, _, _, _, _⟩) (v := ?_) rfl (by kernel_rfl) (by kernel_rfl) (by kernel_rfl) (fun _ _ _ h => h) (Or.inl ⟨by rfl, ?_⟩) (by assumption) ?_
        rotate_left 1
        · intro w hSw; (try dsimp only at hSw); go_simp; try (with_reducible rfl)
        try simp only [Act.put, List.setIfInBounds_toArray, List.set_cons_zero, List.set_cons_succ]
        refine wpAnyH_take (i := 2) (oi := ⟨some 82, _, _, _, _, _⟩) (v := ?_) rfl (by kernel_rfl) (by kernel_rfl) (by kernel_rfl) (fun _ _ _ h => h) (Or.inl ⟨by rfl, ?_⟩) (by assumption) ?_
        rotate_left 1
        · intro w hSw; (try dsimp only at hSw); go_simp; try (with_reducible rfl)
        try simp only [Act.put, List.setIfInBounds_toArray, List.set_cons_zero, List.set_cons_succ]
        refine wpAnyH_take (i := 3) (oi := ⟨some 83, _, _, _, _, _⟩) (v := undef) rfl (by kernel_rfl) (by kernel_rfl) (by kernel_rfl) (fun _ _ _ h => h) (Or.inr ⟨by rfl, rfl⟩) (by assumption) ?_
        try simp only [Act.put, List.setIfInBounds_toArray, List.set_cons_zero, List.set_cons_succ]
        refine wpAnyH_take (i := 4) (oi := ⟨some 84, _, _, _, _, _⟩) (v := undef) rfl (by kernel_rfl) (by kernel_rfl) (by kernel_rfl) (fun _ _ _ h => h) (Or.inr ⟨by rfl, rfl⟩) (by assumption) ?_
        try simp only [Act.put, List.setIfInBounds_toArray, List.set_cons_zero, List.set_cons_succ]
        refine wpAnyH_take (i := 5) (oi := ⟨some 85, _, _, _, _, _⟩) (v := undef) rfl (by kernel_rfl) (by kernel_rfl) (by kernel_rfl) (fun _ _ _ h => h) (Or.inr ⟨by rfl, rfl⟩) (by assumption) ?_
        try simp only [Act.put, List.setIfInBounds_toArray, List.set_cons_zero, List.set_cons_succ]
        refine wpAnyH_take (i := 6) (oi := ⟨some 86, _, _, _, _, _⟩) (v := undef) rfl (by kernel_rfl) (by kernel_rfl) (by kernel_rfl) (fun _ _ _ h => h) (Or.inr ⟨by rfl, rfl⟩) (by assumption) ?_
        try simp only [Act.put, List.setIfInBounds_toArray, List.set_cons_zero, List.set_cons_succ]
        refine wpAnyH_take (i := 7) (oi := ⟨some 87, _, _, _, _, _⟩) (v := undef) rfl (by kernel_rfl) (by kernel_rfl) (by kernel_rfl) (fun _ _ _ h => h) (Or.inr ⟨by rfl, rfl⟩) (by assumption) ?_
        try simp only [Act.put, List.setIfInBounds_toArray, List.set_cons_zero, List.set_cons_succ]
        refine wpAnyH_take (i := 8) (oi := ⟨some 88, _, _, _, _, _⟩) (v := undef) rfl (by kernel_rfl) (by kernel_rfl) (by kernel_rfl) (fun _ _ _ h => h) (Or.inr ⟨by rfl, rfl⟩) (by assumption) ?_
        try simp only [Act.put, List.setIfInBounds_toArray, List.set_cons_zero, List.set_cons_succ]
        refine wpAnyH_take (i := 9) (oi := ⟨some 89, _, _, _, _, _⟩) (v := undef) rfl (by kernel_rfl) (by kernel_rfl) (by kernel_rfl) (fun _ _ _ h => h) (Or.inr ⟨by rfl, rfl⟩) (by assumption) ?_
        try simp only [Act.put, List.setIfInBounds_toArray, List.set_cons_zero, List.set_cons_succ]
        refine wpAnyH_take (i := 10) (oi := ⟨some 90, _, _, _, _, _⟩) (v := undef) rfl (by kernel_rfl) (by kernel_rfl) (by kernel_rfl) (fun _ _ _ h => h) (Or.inr ⟨by rfl, rfl⟩) (by assumption) ?_
        try simp only [Act.put, List.setIfInBounds_toArray, List.set_cons_zero, List.set_cons_succ]
        refine wpAnyH_take (i := 11) (oi := ⟨some 91, _, _, _, _, _⟩) (v := undef) rfl (by kernel_rfl) (by kernel_rfl) (by kernel_rfl) (fun _ _ _ h => h) (Or.inr ⟨by rfl, rfl⟩) (by assumption) ?_
        try simp only [Act.put, List.setIfInBounds_toArray, List.set_cons_zero, List.set_cons_succ]
        refine wpAnyH_take (i := 12) (oi := ⟨some 92, _, _, _, _, _⟩) (v := undef) rfl (by kernel_rfl) (by kernel_rfl) (by kernel_rfl) (fun _ _ _ h => h) (Or.inr ⟨by rfl, rfl⟩) (by assumption) ?_
        try simp only [Act.put, List.setIfInBounds_toArray, List.set_cons_zero, List.set_cons_succ]
        refine wpAnyH_take (i := 13) (oi := ⟨some 93, _, _, _, _, _⟩) (v := undef) rfl (by kernel_rfl) (by kernel_rfl) (by kernel_rfl) (fun _ _ _ h => h) (Or.inr ⟨by rfl, rfl⟩) (by assumption) ?_
        try simp only [Act.put, List.setIfInBounds_toArray, List.set_cons_zero, List.set_cons_succ]
        refine wpAnyH_take (i := 14) (oi := ⟨some 94, _, _, _, _, _⟩) (v := undef) rfl (by kernel_rfl) (by kernel_rfl) (by kernel_rfl) (fun _ _ _ h => h) (Or.inr ⟨by rfl, rfl⟩) (by assumption) ?_
        try simp only [Act.put, List.setIfInBounds_toArray, List.set_cons_zero, List.set_cons_succ]
        refine wpAnyH_take (i := 15) (oi := ⟨some 95, _, _, _, _, _⟩) (v := undef) rfl (by kernel_rfl) (by kernel_rfl) (by kernel_rfl) (fun _ _ _ h => h) (Or.inr ⟨by rfl, rfl⟩) (by assumption) ?_
        try simp only [Act.put, List.setIfInBounds_toArray, List.set_cons_zero, List.set_cons_succ]
        refine wpAnyH_take (i := 16) (oi := ⟨some 96, _, _, _, _, _⟩) (v := undef) rfl (by kernel_rfl) (by kernel_rfl) (by kernel_rfl) (fun _ _ _ h => h) (Or.inr ⟨by rfl, rfl⟩) (by assumption) ?_
        try simp only [Act.put, List.setIfInBounds_toArray, List.set_cons_zero, List.set_cons_succ]
        refine wpAnyH_take (i := 17) (oi := ⟨some 97, _, _, _, _, _⟩) (v := undef) rfl (by kernel_rfl) (by kernel_rfl) (by kernel_rfl) (fun _ _ _ h => h) (Or.inr ⟨by rfl, rfl⟩) (by assumption) ?_
        try simp only [Act.put, List.setIfInBounds_toArray, List.set_cons_zero, List.set_cons_succ]
        refine wpAnyH_take (i := 18) (oi := ⟨some 98, _, _, _, _, _⟩) (v := undef) rfl (by kernel_rfl) (by kernel_rfl) (by kernel_rfl) (fun _ _ _ h => h) (Or.inr ⟨by rfl, rfl⟩) (by assumption) ?_
        try simp only [Act.put, List.setIfInBounds_toArray, List.set_cons_zero, List.set_cons_succ]
        refine wpAnyH_take (i := 19) (oi := ⟨some 99, _, _, _, _, _⟩) (v := undef) rfl (by kernel_rfl) (by kernel_rfl) (by kernel_rfl) (fun _ _ _ h => h) (Or.inr ⟨by rfl, rfl⟩) (by assumption) ?_
        try simp only [Act.put, List.setIfInBounds_toArray, List.set_cons_zero, List.set_cons_succ]
        refine wpAnyH_take (i := 20) (oi := ⟨some 100, _, _, _, _, _⟩) (v := undef) rfl (by kernel_rfl) (by kernel_rfl) (by kernel_rfl) (fun _ _ _ h => h) (Or.inr ⟨by rfl, rfl⟩) (by assumption) ?_
        try simp only [Act.put, List.setIfInBounds_toArray, List.set_cons_zero, List.set_cons_succ]
        refine wpAnyH_take (i := 21) (oi := ⟨some 101, _, _, _, _, _⟩) (v := undef) rfl (by kernel_rfl) (by kernel_rfl) (by kernel_rfl) (fun _ _ _ h => h) (Or.inr ⟨by rfl, rfl⟩) (by assumption) ?_
        try simp only [Act.put, List.setIfInBounds_toArray, List.set_cons_zero, List.set_cons_succ]
        refine wpAnyH_take (i := 22) (oi := ⟨some 102, _, _, _, _, _⟩) (v := ?_) rfl (by kernel_rfl) (by kernel_rfl) (by kernel_rfl) (fun _ _ _ h => h) (Or.inl ⟨by rfl, ?_⟩) (by assumption) ?_
        rotate_left 1
        · intro w hSw; (try dsimp only at hSw); go_simp; try (with_reducible rfl)
        try simp only [Act.put, List.setIfInBounds_toArray, List.set_cons_zero, List.set_cons_succ]
        refine wpAnyH_take (i := 23) (oi := ⟨some 2, _, _, _, _, _⟩) (v := ?_) rfl (by kernel_rfl) (by kernel_rfl) (by kernel_rfl) (fun _ _ _ h => h) (Or.inl ⟨by rfl, ?_⟩) (by assumption) ?_
        rotate_left 1
        · intro w hSw; (try dsimp only at hSw); go_simp; try (with_reducible rfl)
        try simp only [Act.put, List.setIfInBounds_toArray, List.set_cons_zero, List.set_cons_succ]
        refine wpAnyH_done (by kernel_rfl) ?_ _
        try simp only [Act.put, List.setIfInBounds_toArray, List.set_cons_zero, List.set_cons_succ]
        have D2 := Lib.hid hHeld
        clear hHeld S0
        go_wp2_with fail
        go_ret
        exact ⟨by first | rfl | simp, bstep D8.out D2.out⟩
      · obtain ⟨hx2, hxd⟩ := hX.out rfl
        rw [show ((Y.id.1, Y.id.2) : Pid) = Y.id from rfl, hxd] at lh
        clear hX hxd p2 p3 p4 p5 p6 p7 p8 pl r0 r2 r3 r4 r5 r6 r7 rl
        obtain ⟨kc, hkc⟩ : ∃ h, kcB k key k key = h := ⟨_, rfl⟩
        rw [hkc] at lh cl
        clear hkc
        obtain ⟨y1, hy1⟩ : ∃ y, Y.id.1 = y := ⟨_, rfl⟩
        obtain ⟨y2, hy2⟩ : ∃ y, Y.id.2 = y := ⟨_, rfl⟩
        obtain ⟨x2, hx3⟩ : ∃ y, X.id.2 = y := ⟨_, rfl⟩
        rw [hx3] at hx2 r1 ⊢
        rw [hy2] at hk1 hx2 p1 lh ⊢
        rw [hy1] at p0 lh ⊢
        obtain ⟨hk1, hk2⟩ := hk1
        have hwr : IntKind.i64.wrap (y2 + 1) = y2 + 1 := by unfold IntKind.wrap; simp [IntKind.bits, IntKind.signed]; omega
        have hd : (x2 == IntKind.i64.wrap (y2 + 1)) = true := by rw [hwr, hx2]; exact beq_self_eq_true _
        clear hwr
        clear hy1 hy2 hx3 hx2
        have S0 := Lib.hid (show (w10.cell? ⟨xb7, 1, none⟩ = some (.int .i64 x2) ∧ w10.cell? ⟨xb7, 8, none⟩ = some (.slice va7 vn7 vc7) ∧ w10.cell? ⟨xb5, 0, none⟩ = some (.int .i64 y1) ∧ w10.cell? ⟨xb5, 1, none⟩ = some (.int .i64 y2) ∧ w10.cell? ⟨cb, 0, none⟩ = some (.int .i64 k) ∧ w10.cell? ⟨cb, 1, none⟩ = some (.int .i64 key) ∧ w10.cell? ⟨cb, 2, none⟩ = some (.int .i64 c)) ∧ Below w10.heap.size w10 w10 from ⟨⟨r1, r8, p0, p1, b0, b1, b2⟩, Below.refl _ _⟩)
        clear r1 r8 p0 p1 b0 b1 b2
        go_region_held3 (fun w' => (w'.cell? ⟨xb7, 1, none⟩ = some (.int .i64 x2) ∧ w'.cell? ⟨xb7, 8, none⟩ = some (.slice va7 vn7 vc7) ∧ w'.cell? ⟨xb5, 0, none⟩ = some (.int .i64 y1) ∧ w'.cell? ⟨xb5, 1, none⟩ = some (.int .i64 y2) ∧ w'.cell? ⟨cb, 0, none⟩ = some (.int .i64 k) ∧ w'.cell? ⟨cb, 1, none⟩ = some (.int .i64 key) ∧ w'.cell? ⟨cb, 2, none⟩ = some (.int .i64 c)) ∧ Below w10.heap.size w10 w') (first | (with_reducible exact lpo_drew S0.out) | (with_reducible exact lpo_keep (by assumption) (by assumption)))
          (first | (go_at_call 21; (with_reducible refine (lh _ (by assumption : (_ ∧ _ ∧ _ ∧ _ ∧ _ ∧ _ ∧ _) ∧ Below w10.heap.size w10 _).2).mono ?_); rintro e w' ⟨rfl, hb⟩) | (go_at_call 22; (with_reducible refine (cl _).mono ?_); rintro e w' ⟨rfl, hb⟩))
        rename_i hHeld
        have D2 := Lib.hid hHeld.2
        clear hHeld S0 lh cl
        go_wp2_with fail
        go_ret
        exact ⟨by first | rfl | simp, bstep D8.out D2.out⟩
end Go.Proofs.YtlipmjbeiiifkaaDoor
