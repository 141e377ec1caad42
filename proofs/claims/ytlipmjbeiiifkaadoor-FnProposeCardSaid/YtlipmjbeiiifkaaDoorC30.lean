/- Texts laid together. -/
import Derived.Test.YtlipmjbeiiifkaaDoorC10
import Derived.Test.YtlipmjbeiiifkaaDoorC20
import Derived.Test.YtlipmjbeiiifkaaDoorC03
import Derived.Test.YtlipmjbeiiifkaaDoorC22
import Derived.Test.YtlipmjbeiiifkaaDoorC26
import Derived.Test.YtlipmjbeiiifkaaDoorC11
import Derived.Deep.RegionWith
import Derived.Deep.DeepCutAuto
import Derived.IntWalk
import Derived.Deep.RegionHeld3
/- The program's LogValid. -/
namespace Go.Proofs.YtlipmjbeiiifkaaDoor
open Go.RowKit
set_option linter.unusedVariables false

/-- What LogValid answers. -/
theorem ilogv_any (u : Value) (E : List En) (w : World) (h : Ens w u E) :
    Calls Tryd.prog 16 #[u] w fun e w' => e = .returned (.bool (logB E)) ∧ Below w.heap.size w w' := by
  obtain ⟨a, cap, rfl, h1, h2, h3⟩ := h
  obtain ⟨U, hb⟩ : ∃ U, Calls Tryd.prog 32 #[.slice a E.length cap] w (BkPost E U w) := by
    rcases h3 with h3 | ⟨b, off, U, rfl, h4⟩
    · obtain rfl : E = [] := List.length_eq_zero_iff.1 h3
      exact ⟨fun _ => .slice none 0 0, ibook_nil a cap _ w⟩
    · exact ⟨U, ibook_at b off cap E U w h2 h4⟩
  clear h3
  unfold BkPost at hb
  obtain ⟨c, hc⟩ : ∃ c, logB E = c := ⟨_, rfl⟩
  rw [hc] at hb ⊢
  clear hc
  go_enter Tryd.func16, Tryd.ntmps16
  go_wp2_with fail
  refine hb.mono ?_
  rintro e w1 ⟨⟨rfl, bb, _, rfl, _⟩ | ⟨rfl, rfl⟩, B⟩
  · have D := Lib.hid B
    clear B
    go_wp2_with fail
    go_ret
    exact ⟨rfl, D.out⟩
  · have D := Lib.hid B
    clear B
    go_wp2_with fail
    go_ret
    exact ⟨rfl, D.out⟩
end Go.Proofs.YtlipmjbeiiifkaaDoor

/- The program's NextNumber. -/
namespace Go.Proofs.YtlipmjbeiiifkaaDoor
open Go.RowKit
set_option linter.unusedVariables false

set_option maxRecDepth 100000 in
set_option maxHeartbeats 2000000 in
theorem inx_nil (p : Int) (w : World) :
    Calls Tryd.prog 34 #[.map none, .int .i64 p] w fun e w' => (∃ y, e = .returned (.agg #[.int .i64 p, .int .i64 y])) ∧ Below w.heap.size w w' := by
  have hrg : ∀ wx : World, (Instr.range 60 (.map none)).run Tryd.prog wx = _ := fun wx => run_range_nilMap wx 60 29 32 Tryd.underlying60
  have hnx := run_next_nilMap (P := Tryd.prog) (w.alloc (.cells #[.int .i64 0, .int .i64 0] 29)) 0 0 0 #[]
  rw [show (w.alloc (.cells #[.int .i64 0, .int .i64 0] 29)).heap.size = w.heap.size + 1 by simp] at hnx
  have B0 := Lib.hid (((Below.refl w.heap.size w).alloc (Nat.le_refl _) (.cells #[.int .i64 p, .int .i64 1] 29)).alloc (by simp) (.mapIter none 0 #[] 0))
  go_enter Tryd.func34, Tryd.ntmps34
  go_wp2_with fail
  refine wp_loop_rounds 1 ?_
  rw [rounds_succ]
  go_wp2_with fail
  exact bodyPost_ret (id_resN _ _ w.heap.size _ _ _ rfl ((Below.heap_alloc _ _ _ (by simp)).trans (heap_alloc_new w _))) rfl ⟨⟨1, rfl⟩, B0.out⟩

set_option maxRecDepth 100000 in
set_option maxHeartbeats 4000000 in
/-- WHAT THE PROGRAM'S NextNumber ANSWERS. -/
theorem inextn_any (u : Value) (E : List En) (p : Int) (w : World) (h : Ens w u E) :
    Calls Tryd.prog 17 #[u, .int .i64 p] w fun e w' => e = .returned (.int .i64 (nextR E p)) ∧ Below w.heap.size w w' := by
  obtain ⟨U, _, bk⟩ := ibook_any u E w h
  unfold BkPost at bk
  obtain ⟨q, hq⟩ : ∃ q, Hid (logB E = q) := ⟨_, Lib.hid rfl⟩
  rw [hq.out] at bk
  clear h
  go_enter Tryd.func17, Tryd.ntmps17
  go_wp2_with fail
  refine bk.mono ?_
  rintro e w1 ⟨⟨hqt, bb, _, rfl, hB⟩ | ⟨hqf, rfl⟩, B⟩
  · subst hqt
    have nx := inx_book bb E U p w1 hq.out hB
    have hT := top_num hq.out p
    obtain ⟨t, ht⟩ : ∃ t, Hid (topF (ofR p) (fun x => x.id.2) E = t) := ⟨_, Lib.hid rfl⟩
    have hg := fun hp h => nextR_good (E := E) (p := p) hq.out hp h
    have hf := fun h => nextR_full (E := E) (p := p) h
    have hf2 := fun h => nextR_bad2 (E := E) (p := p) h
    rw [ht.out] at nx hT hg hf
    have B1 := Lib.hid B
    have hg := Lib.hid hg
    have hf := Lib.hid hf
    have hf2 := Lib.hid hf2
    clear hB B bk
    go_wp2_with fail
    refine nx.mono ?_
    rintro e w2 ⟨rfl, B⟩
    have B2 := (bstep B1.out B)
    have BA := (Below.refl w2.heap.size w2).alloc (Nat.le_refl _) (.cells #[.int .i64 p, .int .i64 (t + 1)] 29)
    have A2 := Lib.hid (heap_alloc_new w2 (.cells #[.int .i64 p, .int .i64 (t + 1)] 29))
    replace B2 := Lib.hid (bstep B2 BA)
    clear nx B B1 BA
    go_upto_region 3 with fail
    obtain ⟨xb, hxb⟩ : ∃ c, Hid (w2.heap.size = c) := ⟨_, Lib.hid rfl⟩
    rw [hxb.out] at A2 ⊢
    generalize w2.alloc (.cells #[.int .i64 p, .int .i64 (t + 1)] 29) = w3 at A2 B2 ⊢
    obtain ⟨a0, a1, _, _⟩ := blk2 A2.out
    have hal := lt_of_heap A2.out
    go_wp2_with fail
    refine (ivid_any p (t + 1) _).mono ?_
    rintro e w4 ⟨rfl, B⟩
    have B4 := Lib.hid (bstep B2.out B)
    have A4 := Lib.hid (bblk B hal A2.out)
    clear B a0 a1 hal B2 A2
    obtain ⟨a0, a1, _, _⟩ := blk2 A4.out
    have hal := lt_of_heap A4.out
    by_cases hp : 0 ≤ p ∧ p ≤ 4
    · by_cases h50 : t + 1 ≤ 50
      · have hR := Lib.hid (hg.out hp (by omega))
        have hb : idB p (t + 1) = true := by unfold idB; exact decide_eq_true (by omega)
        rw [hb]
        go_wp2_with fail
        go_ret
        exact ⟨by rw [hR.out]; rfl, B4.out⟩
      · have hR := Lib.hid (hf.out (by omega))
        have hb : idB p (t + 1) = false := by unfold idB; exact decide_eq_false (by omega)
        rw [hb]
        go_wp2_with fail
        go_ret
        exact ⟨by rw [hR.out]; rfl, B4.out⟩
    · have hR := Lib.hid (hf2.out hp)
      have hb : idB p (t + 1) = false := by unfold idB; exact decide_eq_false (by omega)
      rw [hb]
      go_wp2_with fail
      go_ret
      exact ⟨by rw [hR.out]; rfl, B4.out⟩
  · subst hqf
    have hR := Lib.hid (nextR_bad (p := p) hq.out)
    have B1 := Lib.hid B
    clear bk B
    go_wp2_with fail
    refine (inx_nil p _).mono ?_
    rintro e w2 ⟨⟨y, rfl⟩, B⟩
    have B2 := Lib.hid ((bstep B1.out B).alloc (bstep B1.out B).size (.cells #[.int .i64 p, .int .i64 y] 29))
    clear B B1
    go_wp2_with fail
    go_ret
    exact ⟨by rw [hR.out]; rfl, B2.out⟩
end Go.Proofs.YtlipmjbeiiifkaaDoor

/- The walk of FnPropose. -/
namespace Go.Proofs.YtlipmjbeiiifkaaDoor
open Go.RowKit
set_option linter.unusedVariables false

theorem lpn_keep {w10 wc w' : World} {xb7 xb5 cb vn7 vc7 vn5 vc5 : Nat} {va7 va5 : Option Addr} {p y2 sq k key c : Int} (hb : Below wc.heap.size wc w') (h : (wc.cell? ⟨xb7, 0, none⟩ = some (.int .i64 p) ∧ wc.cell? ⟨xb7, 1, none⟩ = some (.int .i64 y2) ∧ wc.cell? ⟨xb7, 2, none⟩ = some (.int .i64 0) ∧ wc.cell? ⟨xb7, 3, none⟩ = some (.int .i64 1) ∧ wc.cell? ⟨xb7, 4, none⟩ = some (.int .i64 k) ∧ wc.cell? ⟨xb7, 5, none⟩ = some (.int .i64 key) ∧ wc.cell? ⟨xb7, 6, none⟩ = some (.int .i64 c) ∧ wc.cell? ⟨xb7, 7, none⟩ = some (.int .i64 sq) ∧ wc.cell? ⟨xb7, 8, none⟩ = some (.slice va7 vn7 vc7) ∧ wc.cell? ⟨xb5, 0, none⟩ = some (.int .i64 p) ∧ wc.cell? ⟨xb5, 1, none⟩ = some (.int .i64 y2) ∧ wc.cell? ⟨xb5, 2, none⟩ = some (.int .i64 0) ∧ wc.cell? ⟨xb5, 3, none⟩ = some (.int .i64 1) ∧ wc.cell? ⟨xb5, 4, none⟩ = some (.int .i64 k) ∧ wc.cell? ⟨xb5, 5, none⟩ = some (.int .i64 key) ∧ wc.cell? ⟨xb5, 6, none⟩ = some (.int .i64 c) ∧ wc.cell? ⟨xb5, 7, none⟩ = some (.int .i64 sq) ∧ wc.cell? ⟨xb5, 8, none⟩ = some (.slice va5 vn5 vc5) ∧ wc.cell? ⟨cb, 0, none⟩ = some (.int .i64 k) ∧ wc.cell? ⟨cb, 1, none⟩ = some (.int .i64 key) ∧ wc.cell? ⟨cb, 2, none⟩ = some (.int .i64 c)) ∧ Below w10.heap.size w10 wc) : (w'.cell? ⟨xb7, 0, none⟩ = some (.int .i64 p) ∧ w'.cell? ⟨xb7, 1, none⟩ = some (.int .i64 y2) ∧ w'.cell? ⟨xb7, 2, none⟩ = some (.int .i64 0) ∧ w'.cell? ⟨xb7, 3, none⟩ = some (.int .i64 1) ∧ w'.cell? ⟨xb7, 4, none⟩ = some (.int .i64 k) ∧ w'.cell? ⟨xb7, 5, none⟩ = some (.int .i64 key) ∧ w'.cell? ⟨xb7, 6, none⟩ = some (.int .i64 c) ∧ w'.cell? ⟨xb7, 7, none⟩ = some (.int .i64 sq) ∧ w'.cell? ⟨xb7, 8, none⟩ = some (.slice va7 vn7 vc7) ∧ w'.cell? ⟨xb5, 0, none⟩ = some (.int .i64 p) ∧ w'.cell? ⟨xb5, 1, none⟩ = some (.int .i64 y2) ∧ w'.cell? ⟨xb5, 2, none⟩ = some (.int .i64 0) ∧ w'.cell? ⟨xb5, 3, none⟩ = some (.int .i64 1) ∧ w'.cell? ⟨xb5, 4, none⟩ = some (.int .i64 k) ∧ w'.cell? ⟨xb5, 5, none⟩ = some (.int .i64 key) ∧ w'.cell? ⟨xb5, 6, none⟩ = some (.int .i64 c) ∧ w'.cell? ⟨xb5, 7, none⟩ = some (.int .i64 sq) ∧ w'.cell? ⟨xb5, 8, none⟩ = some (.slice va5 vn5 vc5) ∧ w'.cell? ⟨cb, 0, none⟩ = some (.int .i64 k) ∧ w'.cell? ⟨cb, 1, none⟩ = some (.int .i64 key) ∧ w'.cell? ⟨cb, 2, none⟩ = some (.int .i64 c)) ∧ Below w10.heap.size w10 w' :=
  ⟨⟨cell_later hb h.1.1, cell_later hb h.1.2.1, cell_later hb h.1.2.2.1, cell_later hb h.1.2.2.2.1, cell_later hb h.1.2.2.2.2.1, cell_later hb h.1.2.2.2.2.2.1, cell_later hb h.1.2.2.2.2.2.2.1, cell_later hb h.1.2.2.2.2.2.2.2.1, cell_later hb h.1.2.2.2.2.2.2.2.2.1, cell_later hb h.1.2.2.2.2.2.2.2.2.2.1, cell_later hb h.1.2.2.2.2.2.2.2.2.2.2.1, cell_later hb h.1.2.2.2.2.2.2.2.2.2.2.2.1, cell_later hb h.1.2.2.2.2.2.2.2.2.2.2.2.2.1, cell_later hb h.1.2.2.2.2.2.2.2.2.2.2.2.2.2.1, cell_later hb h.1.2.2.2.2.2.2.2.2.2.2.2.2.2.2.1, cell_later hb h.1.2.2.2.2.2.2.2.2.2.2.2.2.2.2.2.1, cell_later hb h.1.2.2.2.2.2.2.2.2.2.2.2.2.2.2.2.2.1, cell_later hb h.1.2.2.2.2.2.2.2.2.2.2.2.2.2.2.2.2.2.1, cell_later hb h.1.2.2.2.2.2.2.2.2.2.2.2.2.2.2.2.2.2.2.1, cell_later hb h.1.2.2.2.2.2.2.2.2.2.2.2.2.2.2.2.2.2.2.2.1, cell_later hb h.1.2.2.2.2.2.2.2.2.2.2.2.2.2.2.2.2.2.2.2.2⟩, h.2.trans (hb.mono h.2.size)⟩
theorem lpn_drew {w10 wc : World} {xb7 xb5 cb vn7 vc7 vn5 vc5 : Nat} {va7 va5 : Option Addr} {p y2 sq k key c : Int} (h : (wc.cell? ⟨xb7, 0, none⟩ = some (.int .i64 p) ∧ wc.cell? ⟨xb7, 1, none⟩ = some (.int .i64 y2) ∧ wc.cell? ⟨xb7, 2, none⟩ = some (.int .i64 0) ∧ wc.cell? ⟨xb7, 3, none⟩ = some (.int .i64 1) ∧ wc.cell? ⟨xb7, 4, none⟩ = some (.int .i64 k) ∧ wc.cell? ⟨xb7, 5, none⟩ = some (.int .i64 key) ∧ wc.cell? ⟨xb7, 6, none⟩ = some (.int .i64 c) ∧ wc.cell? ⟨xb7, 7, none⟩ = some (.int .i64 sq) ∧ wc.cell? ⟨xb7, 8, none⟩ = some (.slice va7 vn7 vc7) ∧ wc.cell? ⟨xb5, 0, none⟩ = some (.int .i64 p) ∧ wc.cell? ⟨xb5, 1, none⟩ = some (.int .i64 y2) ∧ wc.cell? ⟨xb5, 2, none⟩ = some (.int .i64 0) ∧ wc.cell? ⟨xb5, 3, none⟩ = some (.int .i64 1) ∧ wc.cell? ⟨xb5, 4, none⟩ = some (.int .i64 k) ∧ wc.cell? ⟨xb5, 5, none⟩ = some (.int .i64 key) ∧ wc.cell? ⟨xb5, 6, none⟩ = some (.int .i64 c) ∧ wc.cell? ⟨xb5, 7, none⟩ = some (.int .i64 sq) ∧ wc.cell? ⟨xb5, 8, none⟩ = some (.slice va5 vn5 vc5) ∧ wc.cell? ⟨cb, 0, none⟩ = some (.int .i64 k) ∧ wc.cell? ⟨cb, 1, none⟩ = some (.int .i64 key) ∧ wc.cell? ⟨cb, 2, none⟩ = some (.int .i64 c)) ∧ Below w10.heap.size w10 wc) : (wc.drew.cell? ⟨xb7, 0, none⟩ = some (.int .i64 p) ∧ wc.drew.cell? ⟨xb7, 1, none⟩ = some (.int .i64 y2) ∧ wc.drew.cell? ⟨xb7, 2, none⟩ = some (.int .i64 0) ∧ wc.drew.cell? ⟨xb7, 3, none⟩ = some (.int .i64 1) ∧ wc.drew.cell? ⟨xb7, 4, none⟩ = some (.int .i64 k) ∧ wc.drew.cell? ⟨xb7, 5, none⟩ = some (.int .i64 key) ∧ wc.drew.cell? ⟨xb7, 6, none⟩ = some (.int .i64 c) ∧ wc.drew.cell? ⟨xb7, 7, none⟩ = some (.int .i64 sq) ∧ wc.drew.cell? ⟨xb7, 8, none⟩ = some (.slice va7 vn7 vc7) ∧ wc.drew.cell? ⟨xb5, 0, none⟩ = some (.int .i64 p) ∧ wc.drew.cell? ⟨xb5, 1, none⟩ = some (.int .i64 y2) ∧ wc.drew.cell? ⟨xb5, 2, none⟩ = some (.int .i64 0) ∧ wc.drew.cell? ⟨xb5, 3, none⟩ = some (.int .i64 1) ∧ wc.drew.cell? ⟨xb5, 4, none⟩ = some (.int .i64 k) ∧ wc.drew.cell? ⟨xb5, 5, none⟩ = some (.int .i64 key) ∧ wc.drew.cell? ⟨xb5, 6, none⟩ = some (.int .i64 c) ∧ wc.drew.cell? ⟨xb5, 7, none⟩ = some (.int .i64 sq) ∧ wc.drew.cell? ⟨xb5, 8, none⟩ = some (.slice va5 vn5 vc5) ∧ wc.drew.cell? ⟨cb, 0, none⟩ = some (.int .i64 k) ∧ wc.drew.cell? ⟨cb, 1, none⟩ = some (.int .i64 key) ∧ wc.drew.cell? ⟨cb, 2, none⟩ = some (.int .i64 c)) ∧ Below w10.heap.size w10 wc.drew := ⟨h.1, h.2.drew⟩
theorem put_find2 {X : En} {E : List En} (h : logB (putE X E) = true) : lfindR (putE X E) X.id = (X, true) := by
  obtain ⟨k, hk, e⟩ := mem_enD (mem_putE.2 (.inl rfl : X = X ∨ X ∈ E ∧ ¬ X.id = X.id))
  have := lfindR_some (a := X.id) h hk (by rw [e])
  rw [e] at this; exact this

set_option maxRecDepth 100000 in
set_option maxHeartbeats 8000000 in
theorem fnPropose_walk (a : Option Addr) (len cap : Nat) (w : World) (hc : CodeIn w a len cap) (hcap : cap ≤ maxLen) (hT : TabIn w) :
    Calls Tryd.prog 3 #[.slice a len cap] w fun e w' => e = .returned (.bool true) ∧ Below w.heap.size w w' := by
  have dn := dpr_any a len cap w hc hcap
  by_cases hlen : 1048576 < len
  · go_enter Tryd.func3, Tryd.ntmps3
    go_wp2_with fail
    go_ret
    exact ⟨rfl, Below.refl _ _⟩
  · have hT := Lib.hid hT
    go_enter Tryd.func3, Tryd.ntmps3
    go_wp2_with fail
    refine dn.mono ?_
    rintro e w1 ⟨v, E, p, k, key, c, rfl, O, hl, hp, B⟩
    obtain ⟨g, cp, hv⟩ := O.len
    subst hv
    have BA := (Below.refl w1.heap.size w1).alloc (Nat.le_refl _) (.cells #[.int .i64 k, .int .i64 key, .int .i64 c] 25)
    have C2 := Lib.hid (heap_alloc_new w1 (.cells #[.int .i64 k, .int .i64 key, .int .i64 c] 25))
    have O2 := Lib.hid (O.up BA).read
    have D := Lib.hid (bstep B BA)
    have T2 := Lib.hid (TabIn.up hT.out D.out (Nat.le_refl _))
    clear BA B O dn hT
    go_upto_region 4 with fail
    obtain ⟨cb, hx2⟩ : ∃ c, Hid (w1.heap.size = c) := ⟨_, Lib.hid rfl⟩
    rw [hx2.out] at C2 ⊢
    generalize w1.alloc (.cells #[.int .i64 k, .int .i64 key, .int .i64 c] 25) = w2 at C2 O2 D T2 ⊢
    clear hx2
    have iv := iprop_any _ E p k key c w2 T2.out O2.out
    have sv := fun W (hb : Below w2.heap.size w2 W) => sprop_any _ E p k key c W (O2.out.up hb (Nat.le_refl _))
    obtain ⟨⟨N, Y, q⟩, hR⟩ : ∃ r, Hid (propR E p k key c = r) := ⟨_, Lib.hid rfl⟩
    unfold PrP at iv
    unfold PmP at sv
    rw [hR.out] at iv sv
    dsimp only at iv sv
    unfold env at iv sv
    obtain ⟨n, hn⟩ : ∃ n, Hid (E.length = n) := ⟨_, Lib.hid rfl⟩
    rw [hn.out] at iv sv O2 hl ⊢
    obtain ⟨b0, b1, b2, _, _, _⟩ := blk3 C2.out
    have hcl := lt_of_heap C2.out
    go_wp2_with fail
    refine iv.mono ?_
    rintro e w3 ⟨v5, u5, S5, rfl, _, _, O5, L5, B⟩
    obtain ⟨g5, c5, hv5, _⟩ := L5.shape
    subst hv5
    obtain ⟨va5, vn5, vc5, rfl⟩ : ∃ ua un uc, u5 = .slice ua un uc := by obtain ⟨a, c, e, _⟩ := O5.read; exact ⟨a, _, c, e⟩
    have BA := (Below.refl w3.heap.size w3).alloc (Nat.le_refl _) (.cells #[.int .i64 Y.id.1, .int .i64 Y.id.2, .int .i64 Y.bal, .int .i64 Y.st, .int .i64 Y.k, .int .i64 Y.key, .int .i64 Y.v, .int .i64 Y.seq, .slice va5 vn5 vc5] 32)
    have G5 := Lib.hid (show BxE (w3.alloc (.cells #[.int .i64 Y.id.1, .int .i64 Y.id.2, .int .i64 Y.bal, .int .i64 Y.st, .int .i64 Y.k, .int .i64 Y.key, .int .i64 Y.v, .int .i64 Y.seq, .slice va5 vn5 vc5] 32)) w3.heap.size Y (.slice va5 vn5 vc5) from heap_alloc_new _ _)
    have I5 := Lib.hid ((O5.up BA).read)
    have L5 := Lib.hid ((L5.up BA).read)
    have F := Lib.hid (bstep B BA)
    have C3 := Lib.hid (bblk F.out hcl C2.out)
    clear iv B BA O5 b0 b1 b2 hcl C2
    go_upto_region 5 with fail
    obtain ⟨xb5, hx5⟩ : ∃ c, Hid (w3.heap.size = c) := ⟨_, Lib.hid rfl⟩
    rw [hx5.out] at G5 ⊢
    generalize w3.alloc (.cells #[.int .i64 Y.id.1, .int .i64 Y.id.2, .int .i64 Y.bal, .int .i64 Y.st, .int .i64 Y.k, .int .i64 Y.key, .int .i64 Y.v, .int .i64 Y.seq, .slice va5 vn5 vc5] 32) = w4 at G5 I5 L5 F C3 ⊢
    clear hx5
    obtain ⟨b0, b1, b2, _, _, _⟩ := blk3 C3.out
    have hcl := lt_of_heap C3.out
    go_wp2_with fail
    refine (sv _ F.out).mono ?_
    rintro e w5 ⟨v6, u6, rfl, O6, I6, B⟩
    obtain ⟨g6, c6, hv6⟩ := O6.len
    subst hv6
    obtain ⟨va6, vn6, vc6, rfl⟩ : ∃ ua un uc, u6 = .slice ua un uc := by obtain ⟨a, c, e, _⟩ := I6; exact ⟨a, _, c, e⟩
    have BA := (Below.refl w5.heap.size w5).alloc (Nat.le_refl _) (.cells #[.int .i64 Y.id.1, .int .i64 Y.id.2, .int .i64 Y.bal, .int .i64 Y.st, .int .i64 Y.k, .int .i64 Y.key, .int .i64 Y.v, .int .i64 Y.seq, .slice va6 vn6 vc6] 32)
    have G6 := Lib.hid (show BxE (w5.alloc (.cells #[.int .i64 Y.id.1, .int .i64 Y.id.2, .int .i64 Y.bal, .int .i64 Y.st, .int .i64 Y.k, .int .i64 Y.key, .int .i64 Y.v, .int .i64 Y.seq, .slice va6 vn6 vc6] 32)) w5.heap.size Y (.slice va6 vn6 vc6) from heap_alloc_new _ _)
    have I6 := Lib.hid (I6.up BA (Nat.le_refl _))
    have L6 := Lib.hid ((O6.up BA).read)
    have B2 := bstep B BA
    replace G5 := Lib.hid (G5.out.up B2)
    replace I5 := Lib.hid (I5.out.up B2 (Nat.le_refl _))
    replace L5 := Lib.hid (L5.out.up B2 (Nat.le_refl _))
    replace C3 := Lib.hid (bblk B2 hcl C3.out)
    replace F := Lib.hid (bstep F.out B2)
    clear sv B BA B2 O6 b0 b1 b2 hcl
    go_upto_region 6 with fail
    obtain ⟨xb6, hx6⟩ : ∃ c, Hid (w5.heap.size = c) := ⟨_, Lib.hid rfl⟩
    rw [hx6.out] at G6 ⊢
    generalize w5.alloc (.cells #[.int .i64 Y.id.1, .int .i64 Y.id.2, .int .i64 Y.bal, .int .i64 Y.st, .int .i64 Y.k, .int .i64 Y.key, .int .i64 Y.v, .int .i64 Y.seq, .slice va6 vn6 vc6] 32) = w6 at G5 I5 L5 G6 I6 L6 F C3 ⊢
    clear hx6
    have hm12 : N.length ≤ 12 := by have := propR_len E p k key c; rw [hR.out] at this; exact this
    obtain ⟨m, hm⟩ : ∃ m, Hid (N.length = m) := ⟨_, Lib.hid rfl⟩
    have se := fun W (hb : Below w6.heap.size w6 W) => sameE_self Y (.slice va5 vn5 vc5) (.slice va6 vn6 vc6) W (I5.out.up hb (Nat.le_refl _)) (I6.out.up hb (Nat.le_refl _))
    have sm := fun W (hb : Below w6.heap.size w6 W) => smL_any _ _ N W (L5.out.up hb (Nat.le_refl _)) (L6.out.up hb (Nat.le_refl _))
    unfold env at se
    rw [hm.out] at sm L5 L6 hm12 ⊢
    obtain ⟨⟨p0, p1, p2, p3, p4, p5, p6, p7, p8⟩, pl⟩ := G5.out.cells
    obtain ⟨⟨r0, r1, r2, r3, r4, r5, r6, r7, r8⟩, rl⟩ := G6.out.cells
    go_wp2_with fail
    refine (se _ (Below.refl _ _)).mono ?_
    rintro e w7 ⟨rfl, B⟩
    have K7 := Lib.hid B
    clear B p0 p1 p2 p3 p4 p5 p6 p7 p8 pl r0 r1 r2 r3 r4 r5 r6 r7 r8 rl
    go_wp2_with fail
    refine (sm _ K7.out).mono ?_
    rintro e w8 ⟨rfl, B⟩
    replace K7 := Lib.hid (bstep K7.out B)
    clear B
    cases q
    · have G5b := G5.out.up K7.out
      have G6b := G6.out.up K7.out
      obtain ⟨⟨p0, p1, p2, p3, p4, p5, p6, p7, p8⟩, pl⟩ := G5b.cells
      obtain ⟨⟨r0, r1, r2, r3, r4, r5, r6, r7, r8⟩, rl⟩ := G6b.cells
      clear G5b G6b
      go_wp2_with fail
      refine (se _ K7.out).mono ?_
      rintro e w9 ⟨rfl, B⟩
      replace K7 := Lib.hid (bstep K7.out B)
      clear B p0 p1 p2 p3 p4 p5 p6 p7 p8 pl r0 r1 r2 r3 r4 r5 r6 r7 r8 rl
      go_wp2_with fail
      refine (sm _ K7.out).mono ?_
      rintro e w10 ⟨rfl, B⟩
      replace K7 := Lib.hid (bstep K7.out B)
      have D9 := Lib.hid (bstep D.out (bstep F.out K7.out))
      clear B
      go_wp2_with fail
      go_ret
      exact ⟨rfl, D9.out⟩
    · clear se sm
      have hP := prop_is (E := E) (p := p) (k := k) (key := key) (v := c) (by rw [hR.out])
      rw [hR.out] at hP
      obtain ⟨hlog, hN, hY, henB, hN12⟩ := hP
      dsimp only at hN hY
      rw [← hY] at hN henB hN12
      have hbd := enB_of henB
      have e1 : Y.id = (p, topF (ofR p) (fun x => x.id.2) E + 1) := by rw [hY]; rfl
      have e2 : Y.k = k ∧ Y.key = key ∧ Y.v = c ∧ Y.bal = 0 ∧ Y.st = 1 := by rw [hY]; exact ⟨rfl, rfl, rfl, rfl, rfl⟩
      have e3 : Y.seq = topE (clsE E Y.id k key) + 1 ∧ Y.deps = idsE (clsE E Y.id k key) := by rw [e1, hY]; exact ⟨rfl, rfl⟩
      have hcv : cvB k key c = true := by have := hbd.2.2.2.2.2.2; rw [e2.1, e2.2.1, e2.2.2.1] at this; exact this
      replace G5 := Lib.hid (G5.out.up K7.out)
      replace I5 := Lib.hid (I5.out.up K7.out (Nat.le_refl _))
      replace L5 := Lib.hid (L5.out.up K7.out (Nat.le_refl _))
      replace C3 := Lib.hid (bblk K7.out (lt_of_heap C3.out) C3.out)
      replace F := Lib.hid (bstep F.out K7.out)
      have O8 := Lib.hid (O2.out.up F.out (Nat.le_refl _))
      have T8 := Lib.hid (TabIn.up T2.out F.out (Nat.le_refl _))
      have D8 := Lib.hid (bstep D.out F.out)
      clear G6 I6 L6 F K7 O2 T2 D hR
      have hNv : logB N = true := by rw [hN]; exact putE_valid hlog henB hN12
      have hfind : lfindR N Y.id = (Y, true) := by rw [hN]; exact put_find2 (by rw [← hN]; exact hNv)
      have hnx : nextR E p = Y.id.2 := by
        have h1 := okP_iff.1 hbd.1
        rw [e1] at h1 ⊢
        exact nextR_good hlog h1.1 h1.2.2
      have lf := ilfind_any _ N Y.id.1 Y.id.2 w8 L5.out (inR_ok hbd.1)
      unfold LfP at lf
      rw [show ((Y.id.1, Y.id.2) : Pid) = Y.id from rfl, hfind] at lf
      dsimp only at lf
      unfold env at lf
      have hF := Lib.hid (show Y.id.1 = p ∧ Y.k = k ∧ Y.key = key ∧ Y.v = c ∧ Y.bal = 0 ∧ Y.st = 1 from ⟨by rw [e1], e2⟩)
      have hNv := Lib.hid hNv
      have hnx := Lib.hid hnx
      clear hlog hN hY henB hN12 e1 e2 e3 hbd hcv hfind
      obtain ⟨⟨p0, p1, p2, p3, p4, p5, p6, p7, p8⟩, pl⟩ := G5.out.cells
      go_wp2_with fail
      refine lf.mono ?_
      rintro e w9 ⟨u7, rfl, O7, B⟩
      obtain ⟨va7, vn7, vc7, rfl⟩ : ∃ ua un uc, u7 = .slice ua un uc := by obtain ⟨a, c, e, _⟩ := O7.read; exact ⟨a, _, c, e⟩
      have BA := (Below.refl w9.heap.size w9).alloc (Nat.le_refl _) (.cells #[.int .i64 Y.id.1, .int .i64 Y.id.2, .int .i64 Y.bal, .int .i64 Y.st, .int .i64 Y.k, .int .i64 Y.key, .int .i64 Y.v, .int .i64 Y.seq, .slice va7 vn7 vc7] 32)
      have G7 := Lib.hid (show BxE (w9.alloc (.cells #[.int .i64 Y.id.1, .int .i64 Y.id.2, .int .i64 Y.bal, .int .i64 Y.st, .int .i64 Y.k, .int .i64 Y.key, .int .i64 Y.v, .int .i64 Y.seq, .slice va7 vn7 vc7] 32)) w9.heap.size Y (.slice va7 vn7 vc7) from heap_alloc_new _ _)
      have I7 := Lib.hid ((O7.up BA).read)
      have B2 := bstep B BA
      replace G5 := Lib.hid (G5.out.up B2)
      replace I5 := Lib.hid (I5.out.up B2 (Nat.le_refl _))
      replace L5 := Lib.hid (L5.out.up B2 (Nat.le_refl _))
      replace O8 := Lib.hid (O8.out.up B2 (Nat.le_refl _))
      replace C3 := Lib.hid (bblk B2 (lt_of_heap C3.out) C3.out)
      replace D8 := Lib.hid (bstep D8.out B2)
      clear lf B BA B2 O7 T8 p0 p1 p2 p3 p4 p5 p6 p7 p8 pl
      go_upto_region 9 with fail
      obtain ⟨xb7, hx7⟩ : ∃ c, Hid (w9.heap.size = c) := ⟨_, Lib.hid rfl⟩
      rw [hx7.out] at G7 ⊢
      generalize w9.alloc (.cells #[.int .i64 Y.id.1, .int .i64 Y.id.2, .int .i64 Y.bal, .int .i64 Y.st, .int .i64 Y.k, .int .i64 Y.key, .int .i64 Y.v, .int .i64 Y.seq, .slice va7 vn7 vc7] 32) = w10 at G5 G7 I5 I7 L5 O8 C3 D8 ⊢
      clear hx7
      have lv := fun W (hb : Below w10.heap.size w10 W) => ilogv_any _ N W (L5.out.up hb (Nat.le_refl _))
      have nx := fun W (hb : Below w10.heap.size w10 W) => inextn_any _ E p W (O8.out.up hb (Nat.le_refl _))
      have se := fun W (hb : Below w10.heap.size w10 W) => sameE_self Y (.slice va7 vn7 vc7) (.slice va5 vn5 vc5) W (I7.out.up hb (Nat.le_refl _)) (I5.out.up hb (Nat.le_refl _))
      rw [hNv.out] at lv
      rw [hnx.out] at nx
      unfold env at se
      obtain ⟨⟨p0, p1, p2, p3, p4, p5, p6, p7, p8⟩, pl⟩ := G5.out.cells
      obtain ⟨⟨r0, r1, r2, r3, r4, r5, r6, r7, r8⟩, rl⟩ := G7.out.cells
      obtain ⟨b0, b1, b2, _, _, _⟩ := blk3 C3.out
      obtain ⟨f0, f1, f2, f3, f4, f5⟩ := hF.out
      obtain ⟨y2, hy2⟩ : ∃ y, Y.id.2 = y := ⟨_, rfl⟩
      obtain ⟨sq, hsq⟩ : ∃ y, Y.seq = y := ⟨_, rfl⟩
      rw [f0] at p0 r0
      rw [hy2] at p1 r1 nx
      rw [f4] at p2 r2
      rw [f5] at p3 r3
      rw [f1] at p4 r4
      rw [f2] at p5 r5
      rw [f3] at p6 r6
      rw [hsq] at p7 r7
      rw [f0, hy2, f4, f5, f1, f2, f3, hsq] at se
      clear I5 I7 L5 O8 G5 G7 C3 hNv hnx hF f0 f1 f2 f3 f4 f5 pl rl hy2 hsq
      have S0 := Lib.hid (show (w10.cell? ⟨xb7, 0, none⟩ = some (.int .i64 p) ∧ w10.cell? ⟨xb7, 1, none⟩ = some (.int .i64 y2) ∧ w10.cell? ⟨xb7, 2, none⟩ = some (.int .i64 0) ∧ w10.cell? ⟨xb7, 3, none⟩ = some (.int .i64 1) ∧ w10.cell? ⟨xb7, 4, none⟩ = some (.int .i64 k) ∧ w10.cell? ⟨xb7, 5, none⟩ = some (.int .i64 key) ∧ w10.cell? ⟨xb7, 6, none⟩ = some (.int .i64 c) ∧ w10.cell? ⟨xb7, 7, none⟩ = some (.int .i64 sq) ∧ w10.cell? ⟨xb7, 8, none⟩ = some (.slice va7 vn7 vc7) ∧ w10.cell? ⟨xb5, 0, none⟩ = some (.int .i64 p) ∧ w10.cell? ⟨xb5, 1, none⟩ = some (.int .i64 y2) ∧ w10.cell? ⟨xb5, 2, none⟩ = some (.int .i64 0) ∧ w10.cell? ⟨xb5, 3, none⟩ = some (.int .i64 1) ∧ w10.cell? ⟨xb5, 4, none⟩ = some (.int .i64 k) ∧ w10.cell? ⟨xb5, 5, none⟩ = some (.int .i64 key) ∧ w10.cell? ⟨xb5, 6, none⟩ = some (.int .i64 c) ∧ w10.cell? ⟨xb5, 7, none⟩ = some (.int .i64 sq) ∧ w10.cell? ⟨xb5, 8, none⟩ = some (.slice va5 vn5 vc5) ∧ w10.cell? ⟨cb, 0, none⟩ = some (.int .i64 k) ∧ w10.cell? ⟨cb, 1, none⟩ = some (.int .i64 key) ∧ w10.cell? ⟨cb, 2, none⟩ = some (.int .i64 c)) ∧ Below w10.heap.size w10 w10 from ⟨⟨r0, r1, r2, r3, r4, r5, r6, r7, r8, p0, p1, p2, p3, p4, p5, p6, p7, p8, b0, b1, b2⟩, Below.refl _ _⟩)
      clear r0 r1 r2 r3 r4 r5 r6 r7 r8 p0 p1 p2 p3 p4 p5 p6 p7 p8 b0 b1 b2
      go_region_held3 (fun w' => (w'.cell? ⟨xb7, 0, none⟩ = some (.int .i64 p) ∧ w'.cell? ⟨xb7, 1, none⟩ = some (.int .i64 y2) ∧ w'.cell? ⟨xb7, 2, none⟩ = some (.int .i64 0) ∧ w'.cell? ⟨xb7, 3, none⟩ = some (.int .i64 1) ∧ w'.cell? ⟨xb7, 4, none⟩ = some (.int .i64 k) ∧ w'.cell? ⟨xb7, 5, none⟩ = some (.int .i64 key) ∧ w'.cell? ⟨xb7, 6, none⟩ = some (.int .i64 c) ∧ w'.cell? ⟨xb7, 7, none⟩ = some (.int .i64 sq) ∧ w'.cell? ⟨xb7, 8, none⟩ = some (.slice va7 vn7 vc7) ∧ w'.cell? ⟨xb5, 0, none⟩ = some (.int .i64 p) ∧ w'.cell? ⟨xb5, 1, none⟩ = some (.int .i64 y2) ∧ w'.cell? ⟨xb5, 2, none⟩ = some (.int .i64 0) ∧ w'.cell? ⟨xb5, 3, none⟩ = some (.int .i64 1) ∧ w'.cell? ⟨xb5, 4, none⟩ = some (.int .i64 k) ∧ w'.cell? ⟨xb5, 5, none⟩ = some (.int .i64 key) ∧ w'.cell? ⟨xb5, 6, none⟩ = some (.int .i64 c) ∧ w'.cell? ⟨xb5, 7, none⟩ = some (.int .i64 sq) ∧ w'.cell? ⟨xb5, 8, none⟩ = some (.slice va5 vn5 vc5) ∧ w'.cell? ⟨cb, 0, none⟩ = some (.int .i64 k) ∧ w'.cell? ⟨cb, 1, none⟩ = some (.int .i64 key) ∧ w'.cell? ⟨cb, 2, none⟩ = some (.int .i64 c)) ∧ Below w10.heap.size w10 w') (first | (with_reducible exact lpn_drew S0.out) | (with_reducible exact lpn_keep (by assumption) (by assumption)))
        (first | (go_at_call 16; (with_reducible refine (lv _ (by assumption : (_ ∧ _ ∧ _ ∧ _ ∧ _ ∧ _ ∧ _ ∧ _ ∧ _ ∧ _ ∧ _ ∧ _ ∧ _ ∧ _ ∧ _ ∧ _ ∧ _ ∧ _ ∧ _ ∧ _ ∧ _) ∧ Below w10.heap.size w10 _).2).mono ?_); rintro e w' ⟨rfl, hb⟩) | (go_at_call 13; (with_reducible refine (se _ (by assumption : (_ ∧ _ ∧ _ ∧ _ ∧ _ ∧ _ ∧ _ ∧ _ ∧ _ ∧ _ ∧ _ ∧ _ ∧ _ ∧ _ ∧ _ ∧ _ ∧ _ ∧ _ ∧ _ ∧ _ ∧ _) ∧ Below w10.heap.size w10 _).2).mono ?_); rintro e w' ⟨rfl, hb⟩) | (go_at_call 17; (with_reducible refine (nx _ (by assumption : (_ ∧ _ ∧ _ ∧ _ ∧ _ ∧ _ ∧ _ ∧ _ ∧ _ ∧ _ ∧ _ ∧ _ ∧ _ ∧ _ ∧ _ ∧ _ ∧ _ ∧ _ ∧ _ ∧ _ ∧ _) ∧ Below w10.heap.size w10 _).2).mono ?_); rintro e w' ⟨rfl, hb⟩))
      rename_i hHeld
      have D2 := Lib.hid hHeld.2
      clear hHeld S0 lv nx se
      go_wp2_with fail
      go_ret
      exact ⟨by first | rfl | simp, bstep D8.out D2.out⟩
end Go.Proofs.YtlipmjbeiiifkaaDoor
