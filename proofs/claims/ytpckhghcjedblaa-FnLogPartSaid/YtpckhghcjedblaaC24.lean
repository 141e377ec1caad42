/- Texts laid together. -/
import Derived.Test.YtpckhghcjedblaaC15
import Derived.Test.YtpckhghcjedblaaC19
import Derived.Test.YtpckhghcjedblaaC23
import Derived.Test.YtpckhghcjedblaaC20
import Derived.Deep.RegionWith
import Derived.Test.YtpckhghcjedblaaC10
import Derived.Test.YtpckhghcjedblaaC09
import Derived.Deep.RegionLaw
import Derived.Deep.DeepCutAuto
import Derived.IntWalk
/- The walk of FnLogFindWhen. -/
namespace Go.Proofs.Ytpckhghcjedblaa
open Go.RowKit
set_option linter.unusedVariables false


set_option maxRecDepth 100000 in
set_option maxHeartbeats 8000000 in
theorem fnLogFindWhen_walk (a : Option Addr) (len cap : Nat) (w : World) (hc : CodeIn w a len cap) (hcap : cap ≤ maxLen) :
    Calls Try.prog 6 #[.slice a len cap] w fun e w' => e = .returned (.bool true) ∧ Below w.heap.size w w' := by
  have dn := dlf_any a len cap w hc hcap
  by_cases hlen : 1048576 < len
  · go_enter Try.func6, Try.ntmps6
    go_wp2_with fail
    go_ret
    exact ⟨rfl, Below.refl _ _⟩
  · go_enter Try.func6, Try.ntmps6
    go_wp2_with fail
    refine dn.mono ?_
    rintro e w1 ⟨v, E, x, y, rfl, O, hl, ha, B⟩
    obtain ⟨g, cp, hv⟩ := O.len
    subst hv
    have BA := (Below.refl w1.heap.size w1).alloc (Nat.le_refl _) (.cells #[.int .i64 x, .int .i64 y] 25)
    have A1 := Lib.hid (heap_alloc_new w1 (.cells #[.int .i64 x, .int .i64 y] 25))
    have O1 := Lib.hid (O.up BA)
    have D := Lib.hid (bstep B BA)
    clear BA B O dn
    go_upto_region 4 with fail
    obtain ⟨ib, hib⟩ : ∃ c, Hid (w1.heap.size = c) := ⟨_, Lib.hid rfl⟩
    rw [hib.out] at A1 ⊢
    generalize w1.alloc (.cells #[.int .i64 x, .int .i64 y] 25) = w2 at A1 O1 D ⊢
    clear hib
    have iv := ilfind_any _ E x y w2 O1.out.read ha
    have sv := fun W (hb : Below w2.heap.size w2 W) => slfind_any _ E x y W (O1.out.read.up hb (Nat.le_refl _))
    obtain ⟨⟨X, q⟩, hR⟩ : ∃ r, Hid (lfindR E (x, y) = r) := ⟨_, Lib.hid rfl⟩
    unfold LfP at iv sv
    rw [hR.out] at iv sv
    dsimp only at iv sv
    unfold env at iv sv
    obtain ⟨n, hn⟩ : ∃ n, Hid (E.length = n) := ⟨_, Lib.hid rfl⟩
    rw [hn.out] at iv sv O1 hl ⊢
    obtain ⟨a0, a1, _, _⟩ := blk2 A1.out
    have hal := lt_of_heap A1.out
    go_wp2_with fail
    refine iv.mono ?_
    rintro e w3 ⟨u5, rfl, O5, B⟩
    obtain ⟨va, vn, vc, rfl⟩ : ∃ ua un uc, u5 = .slice ua un uc := by obtain ⟨a, c, e, _⟩ := O5.read; exact ⟨a, _, c, e⟩
    have BA := (Below.refl w3.heap.size w3).alloc (Nat.le_refl _) (.cells #[.int .i64 X.id.1, .int .i64 X.id.2, .int .i64 X.bal, .int .i64 X.st, .int .i64 X.k, .int .i64 X.key, .int .i64 X.v, .int .i64 X.seq, .slice va vn vc] 30)
    have G5 := Lib.hid (show BxE (w3.alloc (.cells #[.int .i64 X.id.1, .int .i64 X.id.2, .int .i64 X.bal, .int .i64 X.st, .int .i64 X.k, .int .i64 X.key, .int .i64 X.v, .int .i64 X.seq, .slice va vn vc] 30)) w3.heap.size X (.slice va vn vc) from heap_alloc_new _ _)
    have I5 := Lib.hid ((O5.up BA).read)
    have F := Lib.hid (bstep B BA)
    have A2 := Lib.hid (bblk F.out hal A1.out)
    clear iv B BA O5 a0 a1 hal A1
    go_upto_region 5 with fail
    obtain ⟨xb5, hx5⟩ : ∃ c, Hid (w3.heap.size = c) := ⟨_, Lib.hid rfl⟩
    rw [hx5.out] at G5 ⊢
    generalize w3.alloc (.cells #[.int .i64 X.id.1, .int .i64 X.id.2, .int .i64 X.bal, .int .i64 X.st, .int .i64 X.k, .int .i64 X.key, .int .i64 X.v, .int .i64 X.seq, .slice va vn vc] 30) = w4 at G5 I5 F A2 ⊢
    clear hx5
    obtain ⟨a0, a1, _, _⟩ := blk2 A2.out
    have hal := lt_of_heap A2.out
    go_wp2_with fail
    refine (sv _ F.out).mono ?_
    rintro e w5 ⟨u7, rfl, O7, B⟩
    obtain ⟨vb, vm, vd, rfl⟩ : ∃ ua un uc, u7 = .slice ua un uc := by obtain ⟨a, c, e, _⟩ := O7.read; exact ⟨a, _, c, e⟩
    have BA := (Below.refl w5.heap.size w5).alloc (Nat.le_refl _) (.cells #[.int .i64 X.id.1, .int .i64 X.id.2, .int .i64 X.bal, .int .i64 X.st, .int .i64 X.k, .int .i64 X.key, .int .i64 X.v, .int .i64 X.seq, .slice vb vm vd] 30)
    have G7 := Lib.hid (show BxE (w5.alloc (.cells #[.int .i64 X.id.1, .int .i64 X.id.2, .int .i64 X.bal, .int .i64 X.st, .int .i64 X.k, .int .i64 X.key, .int .i64 X.v, .int .i64 X.seq, .slice vb vm vd] 30)) w5.heap.size X (.slice vb vm vd) from heap_alloc_new _ _)
    have I7 := Lib.hid ((O7.up BA).read)
    have B2 := bstep B BA
    replace G5 := Lib.hid (G5.out.up B2)
    replace I5 := Lib.hid (I5.out.up B2 (Nat.le_refl _))
    replace A2 := Lib.hid (bblk B2 hal A2.out)
    replace F := Lib.hid (bstep F.out B2)
    clear sv B BA B2 O7 a0 a1 hal
    go_upto_region 6 with fail
    obtain ⟨xb7, hx7⟩ : ∃ c, Hid (w5.heap.size = c) := ⟨_, Lib.hid rfl⟩
    rw [hx7.out] at G7 ⊢
    generalize w5.alloc (.cells #[.int .i64 X.id.1, .int .i64 X.id.2, .int .i64 X.bal, .int .i64 X.st, .int .i64 X.k, .int .i64 X.key, .int .i64 X.v, .int .i64 X.seq, .slice vb vm vd] 30) = w6 at G5 I5 G7 I7 F A2 ⊢
    clear hx7
    obtain ⟨⟨p0, p1, p2, p3, p4, p5, p6, p7, p8⟩, pl⟩ := G5.out.cells
    obtain ⟨⟨r0, r1, r2, r3, r4, r5, r6, r7, r8⟩, rl⟩ := G7.out.cells
    go_wp2_with fail
    refine (sameE_any X X _ _ _ I5.out I7.out).mono ?_
    rintro e w7 ⟨⟨bs, rfl, hbs⟩, B⟩
    have hbs := hbs.2 rfl
    subst hbs
    replace G5 := Lib.hid (G5.out.up B)
    replace G7 := Lib.hid (G7.out.up B)
    replace I5 := Lib.hid (I5.out.up B (Nat.le_refl _))
    replace I7 := Lib.hid (I7.out.up B (Nat.le_refl _))
    replace A2 := Lib.hid (bblk B (lt_of_heap A2.out) A2.out)
    replace F := Lib.hid (bstep F.out B)
    clear B p0 p1 p2 p3 p4 p5 p6 p7 p8 pl r0 r1 r2 r3 r4 r5 r6 r7 r8 rl
    go_wp2_with fail
    refine (slogv_any _ E _ (show Ens w7 _ E from by have := O1.out.read.up F.out (Nat.le_refl _); rw [← hn.out] at this ⊢; exact this)).mono ?_
    rintro e w8 ⟨rfl, B⟩
    replace G5 := Lib.hid (G5.out.up B)
    replace G7 := Lib.hid (G7.out.up B)
    replace I5 := Lib.hid (I5.out.up B (Nat.le_refl _))
    replace I7 := Lib.hid (I7.out.up B (Nat.le_refl _))
    replace A2 := Lib.hid (bblk B (lt_of_heap A2.out) A2.out)
    replace F := Lib.hid (bstep F.out B)
    clear B
    obtain ⟨lv, hlv⟩ : ∃ q, Hid (logB E = q) := ⟨_, Lib.hid rfl⟩
    rw [hlv.out]
    cases lv
    · clear A2
      obtain ⟨⟨p0, p1, p2, p3, p4, p5, p6, p7, p8⟩, pl⟩ := G5.out.cells
      obtain ⟨⟨r0, r1, r2, r3, r4, r5, r6, r7, r8⟩, rl⟩ := G7.out.cells
      go_wp2_with fail
      refine (sameE_any X X _ _ _ I5.out I7.out).mono ?_
      rintro e w9 ⟨⟨bs, rfl, hbs⟩, B⟩
      have hbs := hbs.2 rfl
      subst hbs
      replace D := Lib.hid (bstep D.out (bstep F.out B))
      clear B
      go_wp2_with fail
      go_ret
      exact ⟨rfl, D.out⟩
    · have hq : Hid (q = true ↔ ∃ j, j < n ∧ (E.getD j en0).id = (x, y)) := Lib.hid (by
        by_cases h : ∃ j, j < E.length ∧ (E.getD j en0).id = (x, y)
        · obtain ⟨j, hj, e⟩ := h
          have := lfindR_some hlv.out hj e
          rw [hR.out] at this; injection this with _ e2
          subst e2
          simp only [true_iff]
          exact ⟨j, by rw [← hn.out]; exact hj, e⟩
        · have := lfindR_none (E := E) (a := (x, y)) (fun k hk e => h ⟨k, hk, e⟩)
          rw [hR.out] at this; injection this with _ e2
          subst e2
          constructor
          · intro h; cases h
          · rintro ⟨j, hj, e⟩; exact absurd ⟨j, by rw [hn.out]; exact hj, e⟩ h)
      obtain ⟨U, hA⟩ : ∃ U, n = 0 ∨ EnsAt w2 g 0 E U := by
        obtain ⟨a', c', e, _, _, h3⟩ := O1.out.read
        injection e with e _ _
        rcases h3 with h3 | ⟨b, off, U, e2, h4⟩
        · exact ⟨fun _ => .slice none 0 0, .inl (hn.out.symm.trans h3)⟩
        · rw [e2] at e; obtain ⟨rfl, rfl⟩ : g = b ∧ 0 = off := (by simpa using e); exact ⟨U, .inr h4⟩
      have hA := Lib.hid hA
      have at_ : ∀ W k, k < n → Below w2.heap.size w2 W → EnAt W g (k * 9) (E.getD k en0) (U k) ∧ g < W.heap.size := fun W k hk hb => by
        have h := (hA.out.resolve_left (by omega)).up hb (Nat.le_refl _)
        have h2 := h.at_ k (by rw [hn.out]; exact hk)
        rw [Nat.zero_add] at h2
        exact ⟨h2, h.lt⟩
      clear G5 G7 I5 I7 O1 hA hR hlv
      go_wp2_with fail
      go_loopw [9, 10] (fun s i wr => ∃ (k : Nat) (b : Bool), k ≤ n ∧ i = .int .i64 k ∧ s = .bool b ∧ Hid (b = true ↔ ∃ j, j < k ∧ (E.getD j en0).id = (x, y)) ∧ Hid (Below w8.heap.size w8 wr)) (fun _ i _ => n - (intOf i).toNat)
      case atStart => exact ⟨0, false, Nat.zero_le _, rfl, rfl, Lib.hid (by simp), Lib.hid (Below.refl _ _)⟩
      case round =>
        obtain ⟨k, b, hk, rfl, rfl, hb, hnx⟩ := hrel
        have FW := bstep F.out hnx.out
        by_cases hlt : k < n
        · obtain ⟨hP, hgl⟩ := at_ _ k hlt FW
          have q0 := hP.c0
          have q1 := hP.c1
          have hA3 := Lib.hid (bblk hnx.out (lt_of_heap A2.out) A2.out)
          obtain ⟨a0, a1, _, _⟩ := blk2 hA3.out
          have hal := lt_of_heap hA3.out
          obtain ⟨z, hz⟩ : ∃ z, Hid (E.getD k en0 = z) := ⟨_, Lib.hid rfl⟩
          rw [hz.out] at q0 q1
          clear hP FW
          cases b
          · have hb0 : Hid (∀ j, j < k → ¬ (E.getD j en0).id = (x, y)) := Lib.hid (fun j hj e => absurd (hb.out.2 ⟨j, hj, e⟩) (by simp))
            by_cases he : z.id = (x, y)
            · have hbT := Lib.hid (show true = true ↔ ∃ j, j < k + 1 ∧ (E.getD j en0).id = (x, y) from ⟨fun _ => ⟨k, by omega, by rw [hz.out]; exact he⟩, fun _ => rfl⟩)
              rw [he] at q0 q1
              dsimp only at q0 q1
              go_wp2_with fail
              go_quiet (fail)
              go_wp2_with fail
              refine ⟨⟨k + 1, true, by omega, by go_num, rfl, Lib.hid (by have := hbT.out; simpa using this), Lib.hid (bdrewN hnx.out _)⟩, ?_⟩
              simp [intOf]; omega
            · have hbF := Lib.hid (show false = true ↔ ∃ j, j < k + 1 ∧ (E.getD j en0).id = (x, y) from ⟨fun h => (nomatch h), fun ⟨j, hj, e⟩ => by
                rcases (show j < k ∨ j = k by omega) with hj | rfl
                · exact (hb0.out j hj e).elim
                · rw [hz.out] at e; exact absurd e he⟩)
              rcases pid_ne he with hne | ⟨hne0, hne⟩
              · dsimp only at hne
                go_wp2_with fail
                go_quiet (fail)
                go_wp2_with fail
                refine ⟨⟨k + 1, false, by omega, by go_num, rfl, Lib.hid (by have := hbF.out; simpa using this), Lib.hid (bdrewN hnx.out _)⟩, ?_⟩
                simp [intOf]; omega
              · dsimp only at hne0 hne
                rw [hne0] at q0
                go_wp2_with fail
                go_quiet (fail)
                go_wp2_with fail
                refine ⟨⟨k + 1, false, by omega, by go_num, rfl, Lib.hid (by have := hbF.out; simpa using this), Lib.hid (bdrewN hnx.out _)⟩, ?_⟩
                simp [intOf]; omega
          · have hbT := Lib.hid (show true = true ↔ ∃ j, j < k + 1 ∧ (E.getD j en0).id = (x, y) from ⟨fun _ => by obtain ⟨j, hj, e⟩ := hb.out.1 rfl; exact ⟨j, by omega, e⟩, fun _ => rfl⟩)
            go_wp2_with fail
            go_quiet (fail)
            go_wp2_with fail
            refine ⟨⟨k + 1, true, by omega, by go_num, rfl, Lib.hid (by have := hbT.out; simpa using this), Lib.hid (bdrewN hnx.out _)⟩, ?_⟩
            simp [intOf]; omega
        · obtain rfl : k = n := by omega
          have hbq : b = q := by
            cases b with
            | true => exact (hq.out.2 (hb.out.1 rfl)).symm
            | false =>
              cases q with
              | false => rfl
              | true => exact absurd (hb.out.2 (hq.out.1 rfl)) (by simp)
          subst hbq
          replace D := Lib.hid (bstep D.out FW)
          clear FW hnx
          go_wp2_with fail
          go_ret
          exact ⟨by first | rfl | simp, D.out⟩
end Go.Proofs.Ytpckhghcjedblaa

/- Rows of entries that were copied: parts of a log, side by side. -/
namespace Go.Proofs.Ytpckhghcjedblaa
open Go.RowKit
set_option linter.unusedVariables false

/-- Some entries side by side, with their lists. -/
def elr (E : List En) (U : Nat → Value) (a m : Nat) : EL := (List.range' a m).map fun i => (E.getD i en0, U i)
theorem elr_len (E : List En) (U : Nat → Value) (a m : Nat) : (elr E U a m).length = m := by simp [elr]
theorem elr_get {E : List En} {U : Nat → Value} {a m i : Nat} (hi : i < m) : (elr E U a m).getD i ez = (E.getD (a + i) en0, U (a + i)) := by
  unfold elr
  rw [List.getD_eq_getElem?_getD, List.getElem?_map, List.getElem?_eq_getElem (by simpa using hi), List.getElem_range']
  simp
theorem elr_fst {E : List En} {U : Nat → Value} {a m : Nat} (h : a + m ≤ E.length) : (elr E U a m).map Prod.fst = (E.drop a).take m := by
  refine List.ext_getElem (by simp [elr]; omega) fun i h1 h2 => ?_
  simp only [List.length_map, elr_len] at h1
  have hl : i < (elr E U a m).length := by rw [elr_len]; exact h1
  have e := elr_get (E := E) (U := U) (a := a) h1
  rw [List.getD_eq_getElem?_getD, List.getElem?_eq_getElem hl] at e
  simp only [Option.getD_some] at e
  rw [List.getElem_map, e, List.getElem_take, List.getElem_drop, List.getD_eq_getElem?_getD, List.getElem?_eq_getElem (by omega)]
  rfl
theorem elr_src {w : World} {g off : Nat} {E : List En} {U : Nat → Value} (h : EnsAt w g off E U) (a m : Nat) (ham : a + m ≤ E.length) : ∀ j u, (flatE (elr E U a m))[j]? = some u → w.cell? ((⟨g, off + a * 9, none⟩ : Addr).add j) = some u := by
  intro j u hu
  have hj : j < m * 9 := by
    have := (List.getElem?_eq_some_iff.1 hu).1
    rw [flatE_len, elr_len] at this; exact this
  have e : j / 9 * 9 + j % 9 = j := by omega
  have hi : j / 9 < (elr E U a m).length := by rw [elr_len]; omega
  have hg := flatE_get (elr E U a m) (j / 9) (j % 9) hi (by omega)
  rw [e, hu, elr_get (by omega)] at hg
  have hP := h.at_ (a + j / 9) (by omega)
  rw [Addr.add_lit]
  have key : ∀ r, j % 9 = r → off + a * 9 + j = off + (a + j / 9) * 9 + r := fun r hr => by omega
  rcases (show j % 9 = 0 ∨ j % 9 = 1 ∨ j % 9 = 2 ∨ j % 9 = 3 ∨ j % 9 = 4 ∨ j % 9 = 5 ∨ j % 9 = 6 ∨ j % 9 = 7 ∨ j % 9 = 8 by omega) with r | r | r | r | r | r | r | r | r <;> rw [key _ r] <;> rw [r] at hg <;> simp only [ecell, enc9, List.getElem?_cons_zero, List.getElem?_cons_succ] at hg <;> rw [hg]
  · exact hP.c0
  · exact hP.c1
  · exact hP.c2
  · exact hP.c3
  · exact hP.c4
  · exact hP.c5
  · exact hP.c6
  · exact hP.c7
  · exact hP.c8
theorem flatE_one : ∀ (L : EL), (∀ x ∈ L, ∃ a n c, x.2 = .slice a n c) → ∀ u ∈ flatE L, u.oneCell' = true
  | [], _, u, hu => by simp [flatE] at hu
  | x :: r, h, u, hu => by
    rw [flatE, List.mem_append] at hu
    rcases hu with hu | hu
    · obtain ⟨a, n, c, e⟩ := h x List.mem_cons_self
      simp only [ecell, enc9, e, List.mem_cons, List.not_mem_nil, or_false] at hu
      rcases hu with rfl | rfl | rfl | rfl | rfl | rfl | rfl | rfl | rfl <;> rfl
    · exact flatE_one r (fun y hy => h y (List.mem_cons_of_mem _ hy)) u hu
theorem elr_mem {E : List En} {U : Nat → Value} {a m : Nat} {x : En × Value} (h : x ∈ elr E U a m) : ∃ i, a ≤ i ∧ i < a + m ∧ x = (E.getD i en0, U i) := by
  unfold elr at h
  rw [List.mem_map] at h
  obtain ⟨i, hi, rfl⟩ := h
  rw [List.mem_range'] at hi
  obtain ⟨j, h1, h2⟩ := hi
  exact ⟨i, by omega, by omega, rfl⟩
theorem elr_one {w : World} {g off : Nat} {E : List En} {U : Nat → Value} (h : EnsAt w g off E U) (a m : Nat) (ham : a + m ≤ E.length) : ∀ u ∈ flatE (elr E U a m), u.oneCell' = true :=
  flatE_one _ fun x hx => by
    obtain ⟨i, _, hi, rfl⟩ := elr_mem hx
    obtain ⟨a', c, e, _⟩ := (h.at_ i (by omega)).ids
    exact ⟨a', _, c, e⟩
/-- Such a row, read as entries. -/
theorem ens_row {w : World} {B : Nat} {v : Value} {L : EL} (h : w.ownsRow B 30 9 v L.length (flatE L)) (hn : v ≠ .slice none 0 0) (hI : ∀ x ∈ L, Ids w x.2 x.1.deps) (hl : L.length ≤ 2000000) : Ens w v (L.map Prod.fst) := by
  rcases h.2 with ⟨rfl, _⟩ | ⟨g, cap, cur, rfl, hb, hg, hc, hm, hs, ht⟩
  · exact absurd rfl hn
  · refine ⟨_, cap, by rw [List.length_map], by rw [List.length_map]; exact hc, by rw [List.length_map]; exact hl, .inr ⟨g, 0, fun i => (L.getD i ez).2, rfl, lt_of_heap hg, fun i hi => ?_⟩⟩
    rw [List.length_map] at hi
    rw [fstE_getD hi]
    have hx : L.getD i ez ∈ L := by rw [List.getD_eq_getElem?_getD, List.getElem?_eq_getElem hi]; exact List.getElem_mem hi
    exact enc_at hg (fun j hj => by rw [show (enc9 (L.getD i ez).1 (L.getD i ez).2)[j]? = (ecell (L.getD i ez))[j]? from rfl, ← flatE_get L i j hi hj, ← ht, List.getElem?_take, if_pos (by omega)]; simp) (hI _ hx)
theorem grown_of {w w' : World} {B : Nat} {e : TypeId} {size : Nat} {v : Value} {n : Nat} {xs : List Value} (h : w.ownsRow B e size v n xs) (hg : w.grownBy w' (Value.ownBlock v)) (hB : B ≤ w.heap.size) : Below B w w' :=
  ⟨hg.os, hg.tape, hg.output, hg.size, fun k hk => hg.block k (by omega) (fun e => absurd (rowT h e.symm).2 (by omega))⟩
/-- Two parts of a log. -/
theorem ens_two {w : World} {B g off : Nat} {v : Value} {E : List En} {U : Nat → Value} {a m b k : Nat} (hA : EnsAt w g off E U) (h1 : a + m ≤ E.length) (h2 : b + k ≤ E.length) (h : w.ownsRow B 30 9 v (m + k) (flatE (elr E U a m) ++ flatE (elr E U b k))) (hn : v ≠ .slice none 0 0) (hl : m + k ≤ 2000000) :
    Ens w v ((E.drop a).take m ++ (E.drop b).take k) := by
  rw [← elr_fst (U := U) h1, ← elr_fst (U := U) h2, ← List.map_append]
  refine ens_row (B := B) (by rw [List.length_append, elr_len, elr_len, flatE_app]; exact h) hn (fun x hx => ?_) (by rw [List.length_append, elr_len, elr_len]; exact hl)
  rcases List.mem_append.1 hx with hx | hx
  · obtain ⟨i, _, hi, rfl⟩ := elr_mem hx
    exact (hA.at_ i (by omega)).ids
  · obtain ⟨i, _, hi, rfl⟩ := elr_mem hx
    exact (hA.at_ i (by omega)).ids
theorem log_cut {E : List En} (h : logB E = true) (k : Nat) : logB ((E.drop 0).take k ++ (E.drop (k + 1)).take (E.length - (k + 1))) = true := by
  have e : (E.drop 0).take k ++ (E.drop (k + 1)).take (E.length - (k + 1)) = E.eraseIdx k := by
    rw [List.drop_zero, List.take_of_length_le (l := E.drop (k + 1)) (by rw [List.length_drop]; exact Nat.le_refl _), List.eraseIdx_eq_take_drop_succ]
  rw [e]
  obtain ⟨h1, h2, h3⟩ := log_of h
  have hs := List.eraseIdx_sublist E k
  exact log_to (Nat.le_trans hs.length_le h1) (fun x hx => h2 x (hs.subset hx)) (List.Pairwise.sublist (hs.map En.id) h3)
theorem log_dup {E : List En} {k : Nat} (hk : k < E.length) : logB ((E.drop 0).take (k + 1) ++ (E.drop k).take (E.length - k)) = false := by
  rw [List.drop_zero, List.take_of_length_le (l := E.drop k) (by rw [List.length_drop]; exact Nat.le_refl _)]
  have l1 : (E.take (k + 1)).length = k + 1 := by rw [List.length_take]; omega
  have g1 : (E.take (k + 1) ++ E.drop k).getD k en0 = E.getD k en0 := by
    rw [List.getD_eq_getElem?_getD, List.getElem?_append_left (by omega), List.getElem?_take, if_pos (by omega), ← List.getD_eq_getElem?_getD]
  have g2 : (E.take (k + 1) ++ E.drop k).getD (k + 1) en0 = E.getD k en0 := by
    rw [List.getD_eq_getElem?_getD, List.getElem?_append_right (by omega), l1, Nat.sub_self, List.getElem?_drop, Nat.add_zero, ← List.getD_eq_getElem?_getD]
  exact log_turn (k := k) (by rw [List.length_append, l1, List.length_drop]; omega) (by rw [g1, g2, ltP_irr])
end Go.Proofs.Ytpckhghcjedblaa

/- The walk of FnLogPart. -/
namespace Go.Proofs.Ytpckhghcjedblaa
open Go.RowKit
set_option linter.unusedVariables false

set_option maxRecDepth 100000 in
set_option maxHeartbeats 16000000 in
theorem fnLogPart_walk (a : Option Addr) (len cap : Nat) (a2 : Option Addr) (len2 cap2 : Nat) (w : World) (hc : CodeIn w a len cap) (hcap : cap ≤ maxLen) (hc2 : CodeIn w a2 len2 cap2) (hcap2 : cap2 ≤ maxLen) :
    Calls Try.prog 7 #[.slice a len cap, .slice a2 len2 cap2] w fun e w' => e = .returned (.bool true) ∧ Below w.heap.size w w' := by
  have hm : cap ≤ 9223372036854775807 := by simpa [maxLen] using hcap
  have hlc := hc.1
  have hm2 : cap2 ≤ 9223372036854775807 := by simpa [maxLen] using hcap2
  have hlc2 := hc2.1
  by_cases hl : 1048576 < len
  · clear hcap hc hc2 hcap2
    go_enter Try.func7, Try.ntmps7
    go_wp2_with fail
    go_ret
    exact ⟨rfl, Below.refl _ _⟩
  · by_cases hl2 : 1048576 < len2
    · clear hcap hc hc2 hcap2
      go_enter Try.func7, Try.ntmps7
      go_wp2_with fail
      go_ret
      exact ⟨rfl, Below.refl _ _⟩
    · have dn := dlv_any a len cap w hc hcap
      clear hc hcap hc2 hcap2
      go_enter Try.func7, Try.ntmps7
      go_wp2_with fail
      refine dn.mono ?_
      rintro e w0 ⟨u, E, rfl, O, hEl, _, D1⟩
      have D := Lib.hid D1
      have hN := Lib.hid O.read
      obtain ⟨g, cp, hu⟩ := O.len
      subst hu
      clear dn D1 O
      go_wp2_with fail
      refine (ilogv_any _ E _ hN.out).mono ?_
      rintro e w1 ⟨rfl, B⟩
      replace hN := Lib.hid (hN.out.up B (Nat.le_refl _))
      replace D := Lib.hid (bstep D.out B)
      clear B
      go_wp2_with fail
      refine (slogv_any _ E _ hN.out).mono ?_
      rintro e w4 ⟨rfl, B⟩
      replace hN := Lib.hid (hN.out.up B (Nat.le_refl _))
      replace D := Lib.hid (bstep D.out B)
      clear B
      obtain ⟨lv, hlv⟩ : ∃ q, Hid (logB E = q) := ⟨_, Lib.hid rfl⟩
      rw [hlv.out]
      cases lv
      · go_wp2_with fail
        go_ret
        exact ⟨rfl, D.out⟩
      · obtain ⟨nn, hnn⟩ : ∃ n, Hid (E.length = n) := ⟨_, Lib.hid rfl⟩
        rw [hnn.out] at hN hEl ⊢
        by_cases hn00 : nn = 0
        · subst hn00
          go_wp2_with fail
          go_ret
          exact ⟨rfl, D.out⟩
        · obtain ⟨a', c', e', h1, h2, h3⟩ := hN.out
          rw [hnn.out] at e' h1 h2 h3
          injection e' with e1 e2 e3
          subst e3
          rcases h3 with h3 | ⟨g', off', U, e4, hA⟩
          · exact absurd h3 hn00
          · rw [e4] at e1
            obtain ⟨rfl, rfl⟩ : g = g' ∧ 0 = off' := by simpa using e1
            obtain ⟨off, hoff⟩ : ∃ o : Nat, 0 = o := ⟨0, rfl⟩
            rw [hoff] at hA ⊢
            have hA := Lib.hid hA
            obtain ⟨j0, hj0, jz0, jz1, jz2⟩ := info_parts info_en
            have hn0 : ((nn : Int) == 0) = false := by simp; omega
            obtain ⟨k, hk⟩ : ∃ k : Nat, k = len2 % nn := ⟨_, rfl⟩
            have hkn : k < nn := by rw [hk]; exact Nat.mod_lt _ (by omega)
            have hmod : (len2 : Int).tmod (nn : Int) = (k : Int) := by rw [hk, Int.tmod_eq_emod_of_nonneg (by omega)]; exact (Int.natCast_emod _ _).symm
            have hkN : k < E.length := by rw [hnn.out]; exact hkn
            clear hk hN hoff e1
            go_upto_region 9 with fail
            go_cut [9] from 45 to 54 (fun s9 wx => Hid (Ens wx s9 ((E.drop 0).take k ++ (E.drop (k + 1)).take (nn - (k + 1)))) ∧ Hid (Below w4.heap.size w4 wx))
            case first =>
              have k0 : (0 : Int) ≤ (k : Int) := by omega
              have k1 : (k : Int) ≤ (nn : Int) := by omega
              have k2 : (k : Int) ≤ (cp : Int) := by omega
              have k3 : (k : Int) + 1 ≤ (nn : Int) := by omega
              have k4 : (0 : Int) ≤ (k : Int) + 1 := by omega
              have k5 : (k : Int) + 1 ≤ (cp : Int) := by omega
              have w1 : IntKind.i64.wrap ((k : Int) + 1) = (k : Int) + 1 := IntWalk.i64_in _ (by omega)
              have k6 : ((k : Int) + 1).toNat = k + 1 := by omega
              have R0 : Hid (((w4.alloc (.cells #[] 30)).drew).ownsRow w4.heap.size 30 9 (.slice (some ⟨w4.heap.size, 0, none⟩) 0 0) 0 []) := Lib.hid (er_new w4 w4.heap.size (Nat.le_refl _)).row
              have B0 : Hid (Below w4.heap.size w4 ((w4.alloc (.cells #[] 30)).drew)) := Lib.hid ((Below.refl _ _).alloc (Nat.le_refl _) _).drew
              have src1 := Lib.hid (fun W (hb : Below w4.heap.size w4 W) => (by simpa using elr_src (hA.out.up hb (Nat.le_refl _)) 0 k (by rw [hnn.out]; omega) : ∀ j u, (flatE (elr E U 0 k))[j]? = some u → W.cell? ((⟨g, off, none⟩ : Addr).add j) = some u))
              have src2 := Lib.hid (fun W (hb : Below w4.heap.size w4 W) => elr_src (hA.out.up hb (Nat.le_refl _)) (k + 1) (nn - (k + 1)) (by rw [hnn.out]; omega))
              have one1 := Lib.hid (elr_one hA.out 0 k (by rw [hnn.out]; omega))
              have one2 := Lib.hid (elr_one hA.out (k + 1) (nn - (k + 1)) (by rw [hnn.out]; omega))
              have fin := Lib.hid (fun (W : World) (v : Value) (hb : Below w4.heap.size w4 W) (hn : v ≠ .slice none 0 0) (h : W.ownsRow w4.heap.size 30 9 v (k + (nn - (k + 1))) (flatE (elr E U 0 k) ++ flatE (elr E U (k + 1) (nn - (k + 1))))) => ens_two (hA.out.up hb (Nat.le_refl _)) (by rw [hnn.out]; omega) (by rw [hnn.out]; omega) h hn (by omega))
              have hck : ¬ cp = k := by omega
              have hck' : ¬ nn = k := by omega
              by_cases hcp : k + 1 = cp
              · have hcn : cp = nn := by omega
                subst hcn
                rw [show cp - (k + 1) = 0 by omega] at fin
                clear src2 one2
                go_region_law (first | (rw [if_pos (by rfl)]; refine wp_append_own _ _ _ 23 rfl w4.heap.size 30 j0 (.agg #[.int .i64 0, .int .i64 0, .int .i64 0, .int .i64 0, .int .i64 0, .int .i64 0, .int .i64 0, .int .i64 0, .slice none 0 0]) 9 88 Try.underlying23 hj0 jz0 jz1 jz2 rfl (by decide) _ 0 [] rfl R0.out ⟨g, off, none⟩ k cp (flatE (elr E U 0 k)) rfl (by rw [flatE_len, elr_len]) (src1.out _ B0.out) (one1.out) (by unfold maxLen; omega) (by omega) (by have := Below.size B0.out; omega) ?_; intro v5 w5 hown5 hgrow5 hnil5; have B5 := Lib.hid (Below.trans B0.out (grown_of R0.out hgrow5 (Below.size B0.out))); have hn5 : v5 ≠ .slice none 0 0 := (fun e => nomatch (hnil5.1 e).1); have Y5 := Lib.hid (show w5.ownsRow w4.heap.size 30 9 v5 k (flatE (elr E U 0 k)) from by have h := hown5; rw [Nat.zero_add, List.nil_append] at h; exact h); clear hown5 hgrow5 hnil5 R0 B0) | (rw [if_pos (by rfl)]; refine wp_append_own _ _ _ 23 rfl w4.heap.size 30 j0 (.agg #[.int .i64 0, .int .i64 0, .int .i64 0, .int .i64 0, .int .i64 0, .int .i64 0, .int .i64 0, .int .i64 0, .slice none 0 0]) 9 88 Try.underlying23 hj0 jz0 jz1 jz2 rfl (by decide) _ k (flatE (elr E U 0 k)) rfl Y5.out ⟨g, off, none⟩ 0 0 (flatE (elr E U (k + 1) 0)) rfl (by rw [flatE_len, elr_len]) (fun j u hj => by simp [elr, flatE] at hj) (by simp [elr, flatE]) (by unfold maxLen; omega) (by omega) (by have := Below.size B5.out; omega) ?_; intro v6 w6 hown6 hgrow6 hnil6; have B6 := Lib.hid (Below.trans B5.out (grown_of Y5.out hgrow6 (Below.size B5.out))); have hn6 : v6 ≠ .slice none 0 0 := (fun e => hn5 (hnil6.1 e).1); have Y6 := Lib.hid hown6; clear hown6 hgrow6 hnil6 Y5 B5))
                all_goals
                  have hN6 := Lib.hid (fin.out w6 v6 B6.out hn6 Y6.out)
                  go_wp2_with fail
                  go_meet
                  exact ⟨by rw [show cp - (k + 1) = 0 by omega]; exact hN6, B6⟩
              · have hcp2 : ¬ cp = k + 1 := fun e => hcp e.symm
                go_region_law (first | (rw [if_pos (by rfl)]; refine wp_append_own _ _ _ 23 rfl w4.heap.size 30 j0 (.agg #[.int .i64 0, .int .i64 0, .int .i64 0, .int .i64 0, .int .i64 0, .int .i64 0, .int .i64 0, .int .i64 0, .slice none 0 0]) 9 88 Try.underlying23 hj0 jz0 jz1 jz2 rfl (by decide) _ 0 [] rfl R0.out ⟨g, off, none⟩ k cp (flatE (elr E U 0 k)) rfl (by rw [flatE_len, elr_len]) (src1.out _ B0.out) (one1.out) (by unfold maxLen; omega) (by omega) (by have := Below.size B0.out; omega) ?_; intro v5 w5 hown5 hgrow5 hnil5; have B5 := Lib.hid (Below.trans B0.out (grown_of R0.out hgrow5 (Below.size B0.out))); have hn5 : v5 ≠ .slice none 0 0 := (fun e => nomatch (hnil5.1 e).1); have Y5 := Lib.hid (show w5.ownsRow w4.heap.size 30 9 v5 k (flatE (elr E U 0 k)) from by have h := hown5; rw [Nat.zero_add, List.nil_append] at h; exact h); clear hown5 hgrow5 hnil5 R0 B0) | (rw [if_pos (by rfl)]; refine wp_append_own _ _ _ 23 rfl w4.heap.size 30 j0 (.agg #[.int .i64 0, .int .i64 0, .int .i64 0, .int .i64 0, .int .i64 0, .int .i64 0, .int .i64 0, .int .i64 0, .slice none 0 0]) 9 88 Try.underlying23 hj0 jz0 jz1 jz2 rfl (by decide) _ k (flatE (elr E U 0 k)) rfl Y5.out ⟨g, off + (k + 1) * 9, none⟩ (nn - (k + 1)) (cp - (k + 1)) (flatE (elr E U (k + 1) (nn - (k + 1)))) rfl (by rw [flatE_len, elr_len]) (src2.out _ B5.out) (one2.out) (by unfold maxLen; omega) (by omega) (by have := Below.size B5.out; omega) ?_; intro v6 w6 hown6 hgrow6 hnil6; have B6 := Lib.hid (Below.trans B5.out (grown_of Y5.out hgrow6 (Below.size B5.out))); have hn6 : v6 ≠ .slice none 0 0 := (fun e => hn5 (hnil6.1 e).1); have Y6 := Lib.hid hown6; clear hown6 hgrow6 hnil6 Y5 B5))
                all_goals
                  have hN6 := Lib.hid (fin.out w6 v6 B6.out hn6 Y6.out)
                  go_wp2_with fail
                  go_meet
                  exact ⟨hN6, B6⟩
            case rest =>
              obtain ⟨hX, hB6⟩ := hcut
              replace hA := Lib.hid (hA.out.up hB6.out (Nat.le_refl _))
              replace D := Lib.hid (bstep D.out hB6.out)
              clear hB6
              have hlX := Lib.hid (show logB ((E.drop 0).take k ++ (E.drop (k + 1)).take (nn - (k + 1))) = true from by have := log_cut hlv.out k; rw [hnn.out] at this; exact this)
              have hlY := Lib.hid (show logB ((E.drop 0).take (k + 1) ++ (E.drop k).take (nn - k)) = false from by have := log_dup hkN; rw [hnn.out] at this; exact this)
              go_upto_region 10 with fail
              go_cut [10] from 55 to 64 (fun s9 wx => Hid (Ens wx s9 ((E.drop 0).take (k + 1) ++ (E.drop k).take (nn - k))) ∧ Hid (Below wc.heap.size wc wx))
              case first =>
                have k0 : (0 : Int) ≤ (k : Int) := by omega
                have k1 : (k : Int) ≤ (nn : Int) := by omega
                have k2 : (k : Int) ≤ (cp : Int) := by omega
                have k3 : (k : Int) + 1 ≤ (nn : Int) := by omega
                have k4 : (0 : Int) ≤ (k : Int) + 1 := by omega
                have k5 : (k : Int) + 1 ≤ (cp : Int) := by omega
                have w1 : IntKind.i64.wrap ((k : Int) + 1) = (k : Int) + 1 := IntWalk.i64_in _ (by omega)
                have k6 : ((k : Int) + 1).toNat = k + 1 := by omega
                have R0 : Hid (((wc.alloc (.cells #[] 30)).drew).ownsRow wc.heap.size 30 9 (.slice (some ⟨wc.heap.size, 0, none⟩) 0 0) 0 []) := Lib.hid (er_new wc wc.heap.size (Nat.le_refl _)).row
                have B0 : Hid (Below wc.heap.size wc ((wc.alloc (.cells #[] 30)).drew)) := Lib.hid ((Below.refl _ _).alloc (Nat.le_refl _) _).drew
                have src1 := Lib.hid (fun W (hb : Below wc.heap.size wc W) => (by simpa using elr_src (hA.out.up hb (Nat.le_refl _)) 0 (k + 1) (by rw [hnn.out]; omega) : ∀ j u, (flatE (elr E U 0 (k + 1)))[j]? = some u → W.cell? ((⟨g, off, none⟩ : Addr).add j) = some u))
                have src2 := Lib.hid (fun W (hb : Below wc.heap.size wc W) => elr_src (hA.out.up hb (Nat.le_refl _)) k (nn - k) (by rw [hnn.out]; omega))
                have one1 := Lib.hid (elr_one hA.out 0 (k + 1) (by rw [hnn.out]; omega))
                have one2 := Lib.hid (elr_one hA.out k (nn - k) (by rw [hnn.out]; omega))
                have fin := Lib.hid (fun (W : World) (v : Value) (hb : Below wc.heap.size wc W) (hn : v ≠ .slice none 0 0) (h : W.ownsRow wc.heap.size 30 9 v ((k + 1) + (nn - k)) (flatE (elr E U 0 (k + 1)) ++ flatE (elr E U k (nn - k)))) => ens_two (hA.out.up hb (Nat.le_refl _)) (by rw [hnn.out]; omega) (by rw [hnn.out]; omega) h hn (by omega))
                have hck : ¬ cp = k := by omega
                have hck' : ¬ nn = k := by omega
                go_region_law (first | (rw [if_pos (by rfl)]; refine wp_append_own _ _ _ 23 rfl wc.heap.size 30 j0 (.agg #[.int .i64 0, .int .i64 0, .int .i64 0, .int .i64 0, .int .i64 0, .int .i64 0, .int .i64 0, .int .i64 0, .slice none 0 0]) 9 88 Try.underlying23 hj0 jz0 jz1 jz2 rfl (by decide) _ 0 [] rfl R0.out ⟨g, off, none⟩ (k + 1) cp (flatE (elr E U 0 (k + 1))) rfl (by rw [flatE_len, elr_len]) (src1.out _ B0.out) (one1.out) (by unfold maxLen; omega) (by omega) (by have := Below.size B0.out; omega) ?_; intro v5 w5 hown5 hgrow5 hnil5; have B5 := Lib.hid (Below.trans B0.out (grown_of R0.out hgrow5 (Below.size B0.out))); have hn5 : v5 ≠ .slice none 0 0 := (fun e => nomatch (hnil5.1 e).1); have Y5 := Lib.hid (show w5.ownsRow wc.heap.size 30 9 v5 (k + 1) (flatE (elr E U 0 (k + 1))) from by have h := hown5; rw [Nat.zero_add, List.nil_append] at h; exact h); clear hown5 hgrow5 hnil5 R0 B0) | (rw [if_pos (by rfl)]; refine wp_append_own _ _ _ 23 rfl wc.heap.size 30 j0 (.agg #[.int .i64 0, .int .i64 0, .int .i64 0, .int .i64 0, .int .i64 0, .int .i64 0, .int .i64 0, .int .i64 0, .slice none 0 0]) 9 88 Try.underlying23 hj0 jz0 jz1 jz2 rfl (by decide) _ (k + 1) (flatE (elr E U 0 (k + 1))) rfl Y5.out ⟨g, off + k * 9, none⟩ (nn - k) (cp - k) (flatE (elr E U k (nn - k))) rfl (by rw [flatE_len, elr_len]) (src2.out _ B5.out) (one2.out) (by unfold maxLen; omega) (by omega) (by have := Below.size B5.out; omega) ?_; intro v6 w6 hown6 hgrow6 hnil6; have B6 := Lib.hid (Below.trans B5.out (grown_of Y5.out hgrow6 (Below.size B5.out))); have hn6 : v6 ≠ .slice none 0 0 := (fun e => hn5 (hnil6.1 e).1); have Y6 := Lib.hid hown6; clear hown6 hgrow6 hnil6 Y5 B5))
                all_goals
                  have hN6 := Lib.hid (fin.out w6 v6 B6.out hn6 Y6.out)
                  go_wp2_with fail
                  go_meet
                  exact ⟨hN6, B6⟩
              case rest =>
                obtain ⟨hY, hB7⟩ := hcut
                replace hX := Lib.hid (hX.out.up hB7.out (Nat.le_refl _))
                replace D := Lib.hid (bstep D.out hB7.out)
                clear hB7
                go_wp2_with fail
                refine (ilogv_any _ _ _ hX.out).mono ?_
                rintro e w8 ⟨rfl, B⟩
                replace hY := Lib.hid (hY.out.up B (Nat.le_refl _))
                replace D := Lib.hid (bstep D.out B)
                clear B
                rw [hlX.out]
                go_wp2_with fail
                refine (ilogv_any _ _ _ hY.out).mono ?_
                rintro e w9 ⟨rfl, B⟩
                replace D := Lib.hid (bstep D.out B)
                clear B
                rw [hlY.out]
                go_wp2_with fail
                go_ret
                exact ⟨rfl, D.out⟩
end Go.Proofs.Ytpckhghcjedblaa
