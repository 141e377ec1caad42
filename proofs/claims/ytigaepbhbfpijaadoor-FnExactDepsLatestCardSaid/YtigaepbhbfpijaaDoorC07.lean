/- Texts laid together. -/
import Derived.Test.YtigaepbhbfpijaaDoorC04
import Derived.Test.YtigaepbhbfpijaaDoorC01
import Derived.Test.YtigaepbhbfpijaaDoorC05
import Derived.Test.YtigaepbhbfpijaaDoorC06
import Derived.Test.YtigaepbhbfpijaaDoorC02
import Derived.Test.YtigaepbhbfpijaaDoorC08
import Derived.Test.YtigaepbhbfpijaaDoorC11
/- The program's ids of a set. -/
namespace Go.Proofs.YtigaepbhbfpijaaDoor
open Go.RowKit
set_option linter.unusedVariables false

theorem TabIn.up {w w' : World} {B : Nat} (h : TabIn w) (hb : Below B w w') (hB : w.heap.size ≤ B) : TabIn w' := by
  intro j hj
  have hc := h j hj
  have hl : 0 < w.heap.size := by simpa using World.block_lt_of_cell? w _ hc
  exact (hb.cell (p := ⟨0, j, none⟩) (Nat.lt_of_lt_of_le hl hB)).trans hc

theorem make_cap (n : Nat) (hn : n ≤ 2000000) (w : World) : (Instr.makeSlice 23 (.int .i64 0) (.int .i64 n)).run Tryd.prog w = .ok (.slice (some ⟨w.heap.size, 0, none⟩) 0 n) (w.alloc (.cells (madeCells #[.int .i64 0, .int .i64 0] (n * 2)) 31)) := by
  obtain ⟨i, hi, hz, hs, hb⟩ := info_parts info_id
  have hr := run_make (P := Tryd.prog) w 23 31 i _ Tryd.underlying23 hi hz .i64 .i64 0 n (by omega) (by omega) (by rw [hb]; omega) (by omega)
  simp only [Int.toNat_natCast, hs] at hr
  exact hr
theorem madeP_size (n : Nat) : (madeCells #[.int .i64 0, .int .i64 0] (n * 2)).size = n * 2 := by simp [madeCells]
theorem row_cap (w : World) (n B : Nat) (hB : B ≤ w.heap.size) (hn : n ≤ 2000000) : Row (w.alloc (.cells (madeCells #[.int .i64 0, .int .i64 0] (n * 2)) 31)) B (.slice (some ⟨w.heap.size, 0, none⟩) 0 n) [] :=
  ⟨World.ownsRow_made _ _ n hB (by unfold maxLen; omega) (madeP_size n), by simp⟩

theorem ido_next {w w1 w2 : World} {v v' : Value} {O : List Pid} {x y : Int} {o : Obj} (hR : Row w1 w.heap.size v O) (hown : w2.ownsRow w.heap.size 31 2 v' (O.length + 1) (flatP O ++ [.int .i64 x, .int .i64 y]))
    (hg : (w1.alloc o).grownBy w2 (Value.ownBlock v)) (hn : v' ≠ .slice none 0 0) (D : Below w.heap.size w w1) : Row w2 w.heap.size v' (O ++ [(x, y)]) ∧ Below w.heap.size w w2 := by
  have hR1 : Row (w1.alloc o) w.heap.size v O := hR.up ((Below.refl _ _).alloc (Nat.le_refl _) _)
  exact ⟨hR.put hown hn, (D.alloc D.size o).trans (grown_below hR1 hg (by have := D.size; simp; omega))⟩

/-- What ids leaves. -/
def IdsoPost (f : Nat → Nat) (w : World) (e : Ending) (w' : World) : Prop :=
  ∃ b u, w.heap.size ≤ b ∧ e = .returned u ∧ OwnP w' b u (idsO f) ∧ Below w.heap.size w w'

theorem ido_len {f : Nat → Nat} {O X Y : List Pid} (h : O ++ (X ++ Y) = idsO f) : O.length ≤ 320 := by
  have := congrArg List.length h
  rw [List.length_append, idsO_len] at this
  have := manyN_le f
  omega

set_option maxRecDepth 100000 in
set_option maxHeartbeats 4000000 in
theorem idso_any (f : Nat → Nat) (w : World) (hf : ∀ r, f r < 2251799813685248) (hT : TabIn w) :
    Calls Tryd.prog 34 #[setV f] w (IdsoPost f w) := by
  obtain ⟨i0, hi, hz0, hz1, hz2⟩ := info_parts infoP
  have sm := fun w => many_any f w hf
  have hml := manyN_le f
  obtain ⟨mn, hmn⟩ : ∃ n, Hid (manyN f = n) := ⟨_, Lib.hid rfl⟩
  rw [hmn.out] at sm hml
  have hmk := make_cap mn (by omega)
  have ki : ∀ (r : Nat), r < 5 → ∀ w : World, (Instr.index 47 (.agg #[.int .u64 (f 0), .int .u64 (f 1), .int .u64 (f 2), .int .u64 (f 3), .int .u64 (f 4)]) (.int .i64 r)).run Tryd.prog w = .ok (.int .u64 (f r)) w := by
    intro r hr w
    rcases (show r = 0 ∨ r = 1 ∨ r = 2 ∨ r = 3 ∨ r = 4 by omega) with rfl | rfl | rfl | rfl | rfl
    · exact sx_i0 _ _ _ _ _ w
    · exact sx_i1 _ _ _ _ _ w
    · exact sx_i2 _ _ _ _ _ w
    · exact sx_i3 _ _ _ _ _ w
    · exact sx_i4 _ _ _ _ _ w
  have ki := Lib.hid ki
  have hf := Lib.hid hf
  have hT := Lib.hid hT
  unfold setV at sm ⊢
  go_enter Tryd.func34, Tryd.ntmps34
  go_wp2_with fail
  refine (sm _).mono ?_
  rintro e w1 ⟨rfl, hb⟩
  have A1 := (hb.block w.heap.size (by simp)).trans (heap_alloc_new w (.cells #[.int .u64 (f 0), .int .u64 (f 1), .int .u64 (f 2), .int .u64 (f 3), .int .u64 (f 4)] 47))
  have z1 : w.heap.size + 1 ≤ w1.heap.size := by simpa using hb.size
  have D1 := ((Below.refl w.heap.size w).alloc (Nat.le_refl _) (.cells #[.int .u64 (f 0), .int .u64 (f 1), .int .u64 (f 2), .int .u64 (f 3), .int .u64 (f 4)] 47)).trans (hb.mono (by simp))
  have A2 : Set5 (w1.alloc (.cells (madeCells #[.int .i64 0, .int .i64 0] (mn * 2)) 31)) w.heap.size f := (Below.heap_alloc _ _ _ (by omega)).trans A1
  obtain ⟨x0, x1, x2, x3, x4⟩ := A2.five
  have A1' : Set5 w1 w.heap.size f := A1
  obtain ⟨y0, y1, y2, y3, y4⟩ := A1'.five
  have R1 := Lib.hid (row_cap w1 mn w.heap.size (by omega) (by omega))
  have D2 := Lib.hid (D1.alloc (by omega) (.cells (madeCells #[.int .i64 0, .int .i64 0] (mn * 2)) 31))
  clear hb A1 A1' A2 D1 sm
  go_wp2_with fail
  clear hmk x0 x1 x2 x3 x4 y0 y1 y2 y3 y4 hml hmn
  go_loopw [3, 10] (fun v i wr => ∃ r : Nat, r ≤ 5 ∧ i = .int .i64 r ∧ ∃ O : List Pid, Hid (O ++ idsFrom f r (5 - r) = idsO f) ∧ Hid (Row wr w.heap.size v O) ∧ Hid (Below w.heap.size w wr)) (fun _ i _ => 5 - (intOf i).toNat)
  case atStart => exact ⟨0, Nat.zero_le _, rfl, [], Lib.hid rfl, R1, D2⟩
  case round =>
    obtain ⟨r, hr, rfl, O, hE, hR, hD⟩ := hrel
    clear R1 D2
    obtain ⟨wo, rfl⟩ : ∃ wo : World, wo = wr := ⟨_, rfl⟩
    by_cases hlt : r < 5
    · have kk := ki.out r hlt
      have hfr := Lib.hid (hf.out r)
      have hE : Hid (O ++ (bitsL r (f r) ++ idsFrom f (r + 1) (4 - r)) = idsO f) := Lib.hid (by rw [← hE.out, show 5 - r = (4 - r) + 1 by omega, idsFrom])
      go_wp2_with fail
      simp only [show decide ((r : Int) < 5) = true from decide_eq_true (by omega)]
      go_loopw [3, 5] (fun v q wr => ∃ m : Nat, Hid (m < 2251799813685248) ∧ q = .int .u64 m ∧ ∃ O : List Pid, Hid (O ++ (bitsL r m ++ idsFrom f (r + 1) (4 - r)) = idsO f) ∧ Hid (Row wr w.heap.size v O) ∧ Hid (Below w.heap.size w wr)) (fun _ q _ => (intOf q).toNat)
      case atStart => exact ⟨f r, hfr, rfl, O, hE, hR, hD⟩
      case round =>
        obtain ⟨m, hm, rfl, O, hE, hR, hD⟩ := hrel
        have hOl := ido_len hE.out
        have hm' := hm.out
        by_cases hm0 : m = 0
        · subst hm0
          have hE : Hid (O ++ idsFrom f (r + 1) (5 - (r + 1)) = idsO f) := Lib.hid (by rw [← hE.out, bitsL_zero, List.nil_append, show 5 - (r + 1) = 4 - r by omega])
          clear hm'
          go_wp2_with fail
          go_roundw
          case rel => exact ⟨r + 1, by omega, by go_num, O, hE, hR, hD⟩
          case measure => simp [intOf]; omega
        · have hm0' : ((m : Int) == 0) = false := by simpa using hm0
          have hm0n : ((m : Int) != 0) = true := by simpa using hm0
          have tz := tz_any m wr (by omega) hm0 (hT.out.up hD.out (Nat.le_refl _))
          have hE2 : Hid ((O ++ [((r : Int), ((Lib.ctz 64 m : Nat) : Int))]) ++ (bitsL r (m &&& (m - 1)) ++ idsFrom f (r + 1) (4 - r)) = idsO f) := Lib.hid (by rw [← hE.out, bitsL_cons hm0 (by omega)]; simp)
          have hless := low_less hm0
          have ws : IntKind.u64.wrap ((m : Int) - 1) = ((m - 1 : Nat) : Int) := by rw [show ((m : Int) - 1) = ((m - 1 : Nat) : Int) by omega]; exact wrapN _ (by omega)
          have wa : bits .and .u64 (m : Int) ((m - 1 : Nat) : Int) = ((m &&& (m - 1) : Nat) : Int) := bits_and_u64_nat m (m - 1) (by omega) (by omega)
          generalize m &&& (m - 1) = m' at hE2 hless wa
          generalize Lib.ctz 64 m = t at tz hE2
          obtain ⟨mp, hmp⟩ : ∃ k, Hid (m - 1 = k) := ⟨_, Lib.hid rfl⟩
          rw [hmp.out] at ws wa
          have hm2 := Lib.hid (show m' < 2251799813685248 by omega)
          clear hE hm'
          go_wp2_with fail
          refine tz.mono ?_
          rintro e w3 ⟨rfl, rfl⟩
          clear tz
          go_wp2_with (at_builtin; refine wpList_append_own _ rfl _ _ 23 rfl w.heap.size 31 i0 (.agg #[.int .i64 0, .int .i64 0]) 2 16 Tryd.underlying23 hi hz0 hz1 hz2 rfl (by decide) _ _ _ rfl (hR.out.1.alloc _) ⟨wr.heap.size, 0, none⟩ 1 1 [.int .i64 r, .int .i64 t] rfl rfl ?c1 ?c2 ?c3 ?c4 ?c5 ?_)
          case c1 => exact two_cells _ _ _ _ _ (by simp)
          case c2 => intro u hu; simp at hu; rcases hu with rfl | rfl <;> rfl
          case c3 => unfold maxLen; omega
          case c4 => omega
          case c5 => have := hD.out.size; simp; omega
          intro v' w4 hown' hgrow hnil
          have X := ido_next hR.out hown' hgrow (fun e => hnil e) hD.out
          have hR' := Lib.hid X.1
          have hD' := Lib.hid X.2
          clear X hown' hgrow hnil hR hD
          go_wp2_with fail
          go_roundw
          case rel => exact ⟨m', hm2, by go_num, _, hE2, hR', hD'⟩
          case measure => simp [intOf]; omega
    · obtain rfl : r = 5 := by omega
      have hE : Hid (O = idsO f) := Lib.hid (by rw [← hE.out]; simp [idsFrom])
      have hOl : O.length ≤ 320 := by rw [hE.out, idsO_len]; exact manyN_le f
      obtain ⟨o, ho, hown⟩ := hR.out.own (by omega)
      have hown := Lib.hid hown
      clear hR
      go_wp2_with fail
      go_ret
      exact ⟨o, _, ho, rfl, by rw [← hE.out]; exact hown.out, hD.out⟩
end Go.Proofs.YtigaepbhbfpijaaDoor

/- The model's IdsSort. -/
namespace Go.Proofs.YtigaepbhbfpijaaDoor
open Go.RowKit
set_option linter.unusedVariables false

theorem all_ok {L : List Pid} (h : ∀ j, j < L.length → okP (L.getD j nop) = true) : L.all okP = true := by
  rw [List.all_eq_true]
  intro x hx
  obtain ⟨i, hi, e⟩ := List.getElem_of_mem hx
  have := h i hi
  rw [List.getD_eq_getElem?_getD, List.getElem?_eq_getElem hi, Option.getD_some, e] at this
  exact this
theorem ownP_nil (w : World) (t : TypeId) : OwnP (w.alloc (.cells #[] t)) w.heap.size (.slice (some ⟨w.heap.size, 0, none⟩) 0 0) [] :=
  ⟨0, #[], t, rfl, heap_alloc_new w _, Nat.le_refl _, by simp, fun i hi => absurd hi (by simp)⟩
theorem OwnP.at0 {w : World} {b : Nat} {u : Value} {C : List Pid} (h : OwnP w b u C) : ∀ i, i < C.length → w.cell? ⟨b, 0 + i * 2, none⟩ = some (.int .i64 (C.getD i nop).1) ∧ w.cell? ⟨b, 0 + i * 2 + 1, none⟩ = some (.int .i64 (C.getD i nop).2) := fun i hi => by
  rw [Nat.zero_add]; exact h.cell i hi
theorem sortP_take_len (L : List Pid) (k : Nat) : (sortP (L.take k)).length ≤ k := Nat.le_trans (sortP_len _) (by rw [List.length_take]; omega)

/-- What IdsSort leaves. -/
def SortPost (L : List Pid) (w : World) (e : Ending) (w' : World) : Prop :=
  ∃ b u, w.heap.size ≤ b ∧ e = .returned (.tuple #[u, .bool (sortR L).2]) ∧ OwnP w' b u (sortR L).1 ∧ Below w.heap.size w w'

set_option maxRecDepth 100000 in
set_option maxHeartbeats 2000000 in
theorem ssort_at (b off ca : Nat) (L : List Pid) (w : World) (hb : b < w.heap.size) (hm : L.length ≤ 1800000) (h : ∀ i, i < L.length → w.cell? ⟨b, off + i * 2, none⟩ = some (.int .i64 (L.getD i nop).1) ∧ w.cell? ⟨b, off + i * 2 + 1, none⟩ = some (.int .i64 (L.getD i nop).2)) :
    Calls Tryd.prog 44 #[.slice (some ⟨b, off, none⟩) L.length ca] w (SortPost L w) := by
  have h := Lib.hid h
  obtain ⟨n, hn⟩ : ∃ n, Hid (L.length = n) := ⟨_, Lib.hid rfl⟩
  rw [hn.out] at hm ⊢
  have R0 := Lib.hid (ownP_nil w 31)
  go_enter Tryd.func44, Tryd.ntmps44
  go_wp2_with fail
  go_loopw [4, 5] (fun v i wr => ∃ k : Nat, k ≤ n ∧ i = .int .i64 k ∧ ∃ g, w.heap.size ≤ g ∧ Hid (OwnP wr g v (sortP (L.take k)) ∧ (∀ j, j < k → okP (L.getD j nop) = true)) ∧ Below w.heap.size w wr) (fun _ i _ => n - (intOf i).toNat)
  case atStart => exact ⟨0, Nat.zero_le _, rfl, w.heap.size, Nat.le_refl _, Lib.hid ⟨R0.out, fun j hj => absurd hj (Nat.not_lt_zero _)⟩, (Below.refl _ _).alloc (Nat.le_refl _) _⟩
  case round =>
    obtain ⟨k, hk, rfl, g, hg, hO, hnx⟩ := hrel
    clear R0
    obtain ⟨cap, hv, hcap⟩ := hO.out.1.shape
    have hsl := sortP_take_len L k
    by_cases hlt : k < n
    · obtain ⟨h0, h1⟩ := h.out k (by rw [hn.out]; exact hlt)
      have q0 := (hnx.cell (p := ⟨b, off + k * 2, none⟩) hb).trans h0
      have q1 := (hnx.cell (p := ⟨b, off + k * 2 + 1, none⟩) hb).trans h1
      clear h0 h1
      obtain ⟨c, hc⟩ : ∃ c, Hid (L.getD k nop = c) := ⟨_, Lib.hid rfl⟩
      rw [hc.out] at q0 q1
      obtain ⟨p, r⟩ := c
      dsimp only at q0 q1
      have hnx := Lib.hid hnx
      have sv := svid_any p r
      obtain ⟨q, hq⟩ : ∃ q, Hid (idB p r = q) := ⟨_, Lib.hid rfl⟩
      rw [hq.out] at sv
      cases q
      · have hR := Lib.hid (sortR_bad (by rw [hn.out]; exact hlt) (show okP (L.getD k nop) = false by rw [hc.out]; exact hq.out))
        clear h
        go_wp2_with fail
        refine (sv _).mono ?_
        rintro e w1 ⟨rfl, B⟩
        have D1 := Lib.hid (bstep hnx.out B)
        have N1 := Lib.hid (ownP_nil w1 31)
        clear B hnx hO
        go_wp2_with fail
        go_ret2
        refine ⟨w1.heap.size, .slice (some ⟨w1.heap.size, 0, none⟩) 0 0, D1.out.size, ?_, ?_, D1.out.alloc D1.out.size _⟩
        · rw [hR.out]; rfl
        · rw [hR.out]; exact N1.out
      · have hnext := Lib.hid (sortP_next (L := L) (k := k) (by rw [hn.out]; exact hlt))
        have hok := Lib.hid (up_to hO.out.2 (show okP (L.getD k nop) = true by rw [hc.out]; exact hq.out))
        rw [hc.out] at hnext
        have hO := hO.out.1
        clear hq hc
        generalize sortP (L.take k) = S at hO hsl hnext hv hcap
        subst hv
        have hO := Lib.hid hO
        clear h
        go_wp2_with fail
        refine (sv _).mono ?_
        rintro e w1 ⟨rfl, B⟩
        have D1 := Lib.hid (bstep hnx.out B)
        have O1 := hO.out.up B hO.out.lt
        have q0 := cell_later B q0
        have q1 := cell_later B q1
        have hl1 := O1.lt
        have O1 := Lib.hid O1
        clear B hnx hO
        go_wp2_with fail
        refine (sput_at g 0 cap S p r _ hl1 (by omega) O1.out.at0).mono ?_
        rintro e w2 ⟨b', u, hb', rfl, hO2, B⟩
        have D2 := Lib.hid (bstep D1.out B)
        have D1s := D1.out.size
        have hO2 := Lib.hid hO2
        clear B D1 O1
        go_wp2_with fail
        go_roundw
        case rel => exact ⟨k + 1, by omega, by go_num, b', by omega, Lib.hid ⟨by rw [hnext.out]; exact hO2.out, hok.out⟩, D2.out⟩
        case measure => simp [intOf]; omega
    · obtain rfl : k = n := by omega
      have ht : L.take k = L := List.take_of_length_le (by rw [hn.out]; exact Nat.le_refl _)
      have hall := all_ok (fun j hj => hO.out.2 j (by rw [← hn.out]; exact hj))
      have hO := hO.out.1
      rw [ht] at hO hsl hv hcap
      have hnx := Lib.hid hnx
      clear h ht
      by_cases hle : (sortP L).length ≤ 12
      · have hR := Lib.hid (sortR_t hall hle)
        generalize sortP L = S at hO hsl hle hv hcap hR
        subst hv
        have hO := Lib.hid hO
        clear hall
        go_wp2_with fail
        go_ret2
        refine ⟨g, .slice (some ⟨g, 0, none⟩) S.length cap, hg, ?_, ?_, hnx.out⟩
        · rw [hR.out]; rfl
        · rw [hR.out]; exact hO.out
      · have hR := Lib.hid (sortR_long hle)
        generalize sortP L = S at hO hsl hle hv hcap
        subst hv
        have N1 := Lib.hid (ownP_nil wr 31)
        clear hall hO
        go_wp2_with fail
        go_ret2
        refine ⟨wr.heap.size, .slice (some ⟨wr.heap.size, 0, none⟩) 0 0, hnx.out.size, ?_, ?_, hnx.out.alloc hnx.out.size _⟩
        · rw [hR.out]; rfl
        · rw [hR.out]; exact N1.out

theorem ssort_nil (a : Option Addr) (ca : Nat) (w : World) :
    Calls Tryd.prog 44 #[.slice a 0 ca] w (SortPost [] w) := by
  have R0 := Lib.hid (ownP_nil w 31)
  go_enter Tryd.func44, Tryd.ntmps44
  go_wp2_with fail
  refine wp_loop_rounds 1 ?_
  rw [rounds_succ]
  go_wp2_with fail
  go_ret2
  exact ⟨w.heap.size, _, Nat.le_refl _, rfl, R0.out, (Below.refl _ _).alloc (Nat.le_refl _) _⟩

theorem ssort_any (u : Value) (L : List Pid) (w : World) (h : Ids w u L) (hm : L.length ≤ 1800000) :
    Calls Tryd.prog 44 #[u] w (SortPost L w) := by
  obtain ⟨a, cap, rfl, h1, h2, h3⟩ := h
  rcases h3 with h3 | ⟨b, off, rfl, h4, h5⟩
  · obtain rfl : L = [] := List.length_eq_zero_iff.1 h3
    exact ssort_nil a cap w
  · exact ssort_at b off cap L w h4 hm h5
end Go.Proofs.YtigaepbhbfpijaaDoor

/- The program's latest and DepsLatest. -/
namespace Go.Proofs.YtigaepbhbfpijaaDoor
open Go.RowKit
set_option linter.unusedVariables false

def latU (f : Nat → Nat) (r : Nat) : Nat → Nat := fun i => if i < r then latF f i else 0
theorem latU_five (f : Nat → Nat) {w : World} {b : Nat} (h : Set5 w b (latU f 5)) : Set5 w b (latF f) := h
theorem lat_res (tm : Array Value) (w : World) (b : Nat) (g : Nat → Nat) (h2 : tm[2]? = some (.pointer (some ⟨b, 0, none⟩))) (h : Set5 w b g) :
    (results Tryd.f39 tm).run Tryd.prog w = .ok (setV g) w := by
  obtain ⟨t0, t1, t2, t3, t4⟩ := h.five
  simp [results, Tryd.results39, go_sem, setV, h2, t0, t1, t2, t3, t4]
theorem two_pow_u64 (n : Nat) (h : n < 64) : IntKind.u64.wrap ((2 : Int) ^ n) = (2 : Int) ^ n := by
  have := one_shl n h
  rw [Int.one_mul, show ((2 ^ n : Nat) : Int) = (2 : Int) ^ n from Int.natCast_pow 2 n] at this; exact this

theorem len_any (m : Nat) (w : World) (h : m < 18446744073709551616) :
    Calls Tryd.prog 52 #[.int .u64 m] w fun e w' => e = .returned (.int .i64 (Lib.bitLen m)) ∧ w = w' := by
  refine (Tryd.bits_Len64 (m : Int) w (by omega) (by omega)).mono fun e w' h => ⟨?_, h.2.symm⟩
  rw [h.1, Int.toNat_natCast]

set_option maxRecDepth 100000 in
set_option maxHeartbeats 4000000 in
theorem lat_any (f : Nat → Nat) (w : World) (hf : ∀ r, f r < 2251799813685248) :
    Calls Tryd.prog 39 #[setV f] w fun e w' => e = .returned (setV (latF f)) ∧ Below w.heap.size w w' := by
  have ki : ∀ (r : Nat), r < 5 → ∀ w : World, (Instr.index 47 (.agg #[.int .u64 (f 0), .int .u64 (f 1), .int .u64 (f 2), .int .u64 (f 3), .int .u64 (f 4)]) (.int .i64 r)).run Tryd.prog w = .ok (.int .u64 (f r)) w := by
    intro r hr w
    rcases (show r = 0 ∨ r = 1 ∨ r = 2 ∨ r = 3 ∨ r = 4 by omega) with rfl | rfl | rfl | rfl | rfl
    · exact sx_i0 _ _ _ _ _ w
    · exact sx_i1 _ _ _ _ _ w
    · exact sx_i2 _ _ _ _ _ w
    · exact sx_i3 _ _ _ _ _ w
    · exact sx_i4 _ _ _ _ _ w
  have ki := Lib.hid ki
  have hf := Lib.hid hf
  obtain ⟨G, hG⟩ : ∃ G, Hid (G = latF f) := ⟨_, Lib.hid rfl⟩
  rw [← hG.out]
  unfold setV
  go_enter Tryd.func39, Tryd.ntmps39
  go_wp2_with fail
  go_loopw [7] (fun i wr => ∃ r : Nat, r ≤ 5 ∧ i = .int .i64 r ∧ Hid (Set5 wr (w.heap.size + 1) fun _ => 0) ∧ Hid (Set5 wr (w.heap.size + 1 + 1) (latU f r)) ∧ Hid (Below w.heap.size w wr)) (fun i _ => 5 - (intOf i).toNat)
  case atStart => exact ⟨0, Nat.zero_le _, rfl, Lib.hid ((Below.heap_alloc _ _ _ (by simp)).trans (heap_alloc_at _ _ _ (by simp))), Lib.hid (heap_alloc_at _ _ _ (by simp)), Lib.hid ((((Below.refl _ _).alloc (Nat.le_refl _) _).alloc (by simp) _).alloc (by simp; omega) _)⟩
  case round =>
    obtain ⟨r, hr, rfl, hZ, hS, hD⟩ := hrel
    by_cases hlt : r < 5
    · have kk := ki.out r hlt
      have hfr := hf.out r
      by_cases hm0 : f r = 0
      · have hm0n : (((f r : Nat) : Int) != 0) = false := by simpa using hm0
        have hS' : Hid (Set5 wr (w.heap.size + 1 + 1) (latU f (r + 1))) := Lib.hid (by
          rw [show latU f (r + 1) = latU f r from ?_]; exact hS.out
          funext i
          unfold latU
          by_cases h1 : i < r
          · rw [if_pos h1, if_pos (by omega)]
          · rw [if_neg h1]
            by_cases h2 : i = r
            · subst h2
              rw [if_pos (by omega)]
              unfold latF; rw [hm0]; rfl
            · rw [if_neg (by omega)])
        clear hfr hS hm0 kk
        go_wp2_with fail
        go_roundw
        case rel => exact ⟨r + 1, by omega, by go_num, hZ, hS', hD⟩
        case measure => simp [intOf]; omega
      · have hm0n : (((f r : Nat) : Int) != 0) = true := by simpa using hm0
        obtain ⟨h1, h2, _, _⟩ := high_bit hm0 (by omega)
        have sl := fun w => len_any (f r) w (by omega)
        have hval : latF f r = 2 ^ (Lib.bitLen (f r) - 1) := by unfold latF latN; rw [if_neg hm0]
        generalize Lib.bitLen (f r) = L at sl h1 h2 hval
        obtain ⟨l, rfl⟩ : ∃ l, L = l + 1 := ⟨L - 1, by omega⟩
        rw [Nat.add_sub_cancel] at hval
        have wl : IntKind.i64.wrap ((l : Int) + 1 - 1) = (l : Int) := by rw [show (l : Int) + 1 - 1 = l by omega]; exact IntWalk.i64_in _ (by omega)
        have l0 : (0 : Int) ≤ (l : Int) := by omega
        have l1 : (l : Int) ≤ 64 := by omega
        have sh := two_pow_u64 l (by omega)
        have ep : ((2 ^ l : Nat) : Int) = (2 : Int) ^ l := Int.natCast_pow 2 l
        have hput : Hid (Set5 (wr.setCell ⟨w.heap.size + 1 + 1, r, none⟩ (.int .u64 ((2 : Int) ^ l))) (w.heap.size + 1 + 1) (latU f (r + 1))) := Lib.hid (by
          have := hS.out.put (r := r) (x := 2 ^ l) (g := latU f (r + 1)) hlt (by unfold latU; rw [if_pos (by omega)]; exact hval) (fun i hi hne => by
            unfold latU
            by_cases h1 : i < r
            · rw [if_pos h1, if_pos (by omega)]
            · rw [if_neg h1, if_neg (by omega)])
          rw [ep] at this; exact this)
        have hZ' := Lib.hid (Set5.other hZ.out (w.heap.size + 1 + 1) r (.int .u64 ((2 : Int) ^ l)) (by omega))
        have c0 := hS.out.cell hlt
        have f0 := hS.out.free r
        clear hval hfr hm0 ep hS hZ kk
        go_wp2_with fail
        refine (sl _).mono ?_
        rintro e w3 ⟨rfl, rfl⟩
        clear sl
        go_wp2_with fail
        go_roundw
        case rel => exact ⟨r + 1, by omega, by go_num, hZ', hput, Lib.hid (hD.out.setCell (by show _ ≤ w.heap.size + 1 + 1; omega) _)⟩
        case measure => simp [intOf]; omega
    · obtain rfl : r = 5 := by omega
      have hS' := hS.out
      obtain ⟨s0, s1, s2, s3, s4⟩ := hS'.five
      obtain ⟨t0, t1, t2, t3, t4⟩ := hZ.out.five
      have hz := hZ.out.free
      have f0 := hz 0; have f1 := hz 1; have f2 := hz 2; have f3 := hz 3; have f4 := hz 4
      have e0 : latU f 5 0 = G 0 := by rw [hG.out]; rfl
      have e1 : latU f 5 1 = G 1 := by rw [hG.out]; rfl
      have e2 : latU f 5 2 = G 2 := by rw [hG.out]; rfl
      have e3 : latU f 5 3 = G 3 := by rw [hG.out]; rfl
      have e4 : latU f 5 4 = G 4 := by rw [hG.out]; rfl
      rw [e0] at s0; rw [e1] at s1; rw [e2] at s2; rw [e3] at s3; rw [e4] at s4
      have T3 := Lib.hid (hZ.out.fill G)
      clear hz e0 e1 e2 e3 e4 hS hS' hG ki hf
      go_wp2_with fail
      exact bodyPost_ret (lat_res _ _ (w.heap.size + 1) _ rfl T3.out) rfl ⟨rfl, (((((hD.out.setCell (Nat.le_succ _) _).setCell (Nat.le_succ _) _).setCell (Nat.le_succ _) _).setCell (Nat.le_succ _) _).setCell (Nat.le_succ _) _)⟩

/-- What DepsLatest leaves. -/
def LatPost (R : List Pid) (w : World) (e : Ending) (w' : World) : Prop :=
  ∃ b u, w.heap.size ≤ b ∧ e = .returned u ∧ OwnP w' b u R ∧ Below w.heap.size w w'

set_option maxRecDepth 100000 in
set_option maxHeartbeats 2000000 in
theorem dlat_any (u : Value) (A : List Pid) (w : World) (h : Ids w u A) (hT : TabIn w) :
    Calls Tryd.prog 21 #[u] w (LatPost (latR A) w) := by
  have h := Lib.hid h
  have hT := Lib.hid hT
  have sl := fun w => lat_any (setF A) w (setF_lt A)
  have si := fun w h => idso_any (latF (setF A)) w (fun r => latN_lt (setF_lt A r)) h
  have hval : Hid (srtB A = true → idsO (latF (setF A)) = lastP A) := Lib.hid idsO_lat
  obtain ⟨f, hf⟩ : ∃ f, Hid (setF A = f) := ⟨_, Lib.hid rfl⟩
  rw [hf.out] at sl si hval
  generalize latF f = g at sl si hval
  obtain ⟨q, hq⟩ : ∃ q, Hid (srtB A = q) := ⟨_, Lib.hid rfl⟩
  obtain ⟨S, hR⟩ : ∃ S, Hid (latR A = S) := ⟨_, Lib.hid rfl⟩
  rw [hR.out]
  unfold setV at sl si
  go_enter Tryd.func21, Tryd.ntmps21
  go_wp2_with fail
  refine (iset_any u A _ h.out).mono ?_
  rintro e w1 ⟨rfl, hb⟩
  rw [hf.out, hq.out]
  have D1 := Lib.hid (hb.alloc hb.size (.cells #[.int .u64 (f 0), .int .u64 (f 1), .int .u64 (f 2), .int .u64 (f 3), .int .u64 (f 4)] 47))
  have s1 := hb.size
  clear hb h
  unfold setV
  cases q
  · have hR2 := hR.out
    rw [latR_f hq.out] at hR2
    subst hR2
    have N1 := Lib.hid (ownP_nil (w1.alloc (.cells #[.int .u64 (f 0), .int .u64 (f 1), .int .u64 (f 2), .int .u64 (f 3), .int .u64 (f 4)] 47)) 31)
    clear sl si hval
    go_wp2_with fail
    go_ret
    exact ⟨w1.heap.size + 1, _, by omega, rfl, by simpa using N1.out, D1.out.alloc D1.out.size _⟩
  · have hv := hval.out hq.out
    have hR2 := hR.out
    rw [latR_t hq.out] at hR2
    rw [hR2] at hv
    have hv := Lib.hid hv
    clear hval hR2
    go_wp2_with fail
    refine (sl _).mono ?_
    rintro e w2 ⟨rfl, hb⟩
    have D2 := Lib.hid (bstep D1.out hb)
    clear hb D1 sl
    go_wp2_with fail
    refine (si _ (hT.out.up D2.out (Nat.le_refl _))).mono ?_
    rintro e w3 ⟨b, v, hbb, rfl, hO, hb⟩
    have hbb2 := Nat.le_trans D2.out.size hbb
    have D3 := Lib.hid (bstep D2.out hb)
    rw [hv.out] at hO
    have hO := Lib.hid hO
    clear hb D2 si
    go_wp2_with fail
    go_ret
    exact ⟨b, _, hbb2, rfl, hO.out, D3.out⟩
end Go.Proofs.YtigaepbhbfpijaaDoor

/- The model's DepsLatest. -/
namespace Go.Proofs.YtigaepbhbfpijaaDoor
open Go.RowKit
set_option linter.unusedVariables false

/-- What DepsLatest of the model leaves. -/
def SlatPost (R : List Pid) (w : World) (e : Ending) (w' : World) : Prop :=
  ∃ b u, w.heap.size ≤ b ∧ e = .returned u ∧ OwnP w' b u R ∧ Below w.heap.size w w'
theorem slat_next {w w1 w2 : World} {v v' : Value} {O : List Pid} {x y : Int} {o : Obj} (hR : Row w1 w.heap.size v O) (hown : w2.ownsRow w.heap.size 31 2 v' (O.length + 1) (flatP O ++ [.int .i64 x, .int .i64 y]))
    (hg : (w1.alloc o).grownBy w2 (Value.ownBlock v)) (hn : v' ≠ .slice none 0 0) (D : Below w.heap.size w w1) : Row w2 w.heap.size v' (O ++ [(x, y)]) ∧ Below w.heap.size w w2 := by
  have hR1 : Row (w1.alloc o) w.heap.size v O := hR.up ((Below.refl _ _).alloc (Nat.le_refl _) _)
  exact ⟨hR.put hown hn, (D.alloc D.size o).trans (grown_below hR1 hg (by have := D.size; simp; omega))⟩
theorem last_end {L O : List Pid} {k : Nat} {a : Pid} (hk : k + 1 = L.length) (ha : L.getD k nop = a) (h : O ++ lastP (L.drop k) = lastP L) : (O ++ [a]) ++ lastP (L.drop (k + 1)) = lastP L := by
  rw [← h, drop_next (k := k) (by omega), ha, List.drop_eq_nil_of_le (by omega)]; simp [lastP]
theorem last_go {L O : List Pid} {k : Nat} {a c : Pid} (hk : k + 1 < L.length) (ha : L.getD k nop = a) (hc : L.getD (k + 1) nop = c) (hne : ¬ c.1 = a.1) (h : O ++ lastP (L.drop k) = lastP L) : (O ++ [a]) ++ lastP (L.drop (k + 1)) = lastP L := by
  rw [← h, drop_next (show k < L.length by omega), ha, drop_next hk, hc, last_next hne]; simp
theorem last_skip {L O : List Pid} {k : Nat} {a c : Pid} (hk : k + 1 < L.length) (ha : L.getD k nop = a) (hc : L.getD (k + 1) nop = c) (he : c.1 = a.1) (h : O ++ lastP (L.drop k) = lastP L) : O ++ lastP (L.drop (k + 1)) = lastP L := by
  rw [← h, drop_next (show k < L.length by omega), ha, drop_next hk, hc, last_same he]
theorem last_le {L O X : List Pid} (h : O ++ X = lastP L) : O.length ≤ L.length := by
  have := congrArg List.length h
  rw [List.length_append] at this
  have := (last_sub L).length_le
  omega

set_option maxRecDepth 100000 in
set_option maxHeartbeats 4000000 in
theorem slat_bad (a : Option Addr) (n cap : Nat) (A : List Pid) (w : World) (hI : Ids w (.slice a n cap) A) (hn : A.length = n) (hm : n ≤ 2000000) (hq : srtB A = false) :
    Calls Tryd.prog 22 #[.slice a n cap] w (SlatPost [] w) := by
  have s1 := fun w h => sval_any (.slice a n cap) A w h
  rw [hq] at s1
  have hI := Lib.hid hI
  have R0 := Lib.hid (ownP_nil w 31)
  have hn0 : n ≠ 0 := fun e => by
    have : A = [] := List.length_eq_zero_iff.1 (hn.trans e)
    subst this; revert hq; decide
  clear hn hq
  go_enter Tryd.func22, Tryd.ntmps22
  go_wp2_with fail
  refine wp_loop_rounds 1 ?_
  rw [rounds_succ]
  go_wp2_with fail
  refine (s1 _ (hI.out.up ((Below.refl _ _).alloc (Nat.le_refl _) _) (Nat.le_refl _))).mono ?_
  rintro e w1 ⟨rfl, hb⟩
  have O1 := Lib.hid (R0.out.up hb (by simp))
  have D1 := Lib.hid (((Below.refl w.heap.size w).alloc (Nat.le_refl _) (.cells #[] 31)).trans (hb.mono (by simp)))
  clear hb R0 hI s1
  go_wp2_with fail
  go_ret
  exact ⟨w.heap.size, _, Nat.le_refl _, rfl, O1.out, D1.out⟩

set_option maxRecDepth 100000 in
set_option maxHeartbeats 8000000 in
theorem slat_at (b off cap : Nat) (A : List Pid) (w : World) (hb : b < w.heap.size) (hq : srtB A = true) (h : ∀ i, i < A.length → w.cell? ⟨b, off + i * 2, none⟩ = some (.int .i64 (A.getD i nop).1) ∧ w.cell? ⟨b, off + i * 2 + 1, none⟩ = some (.int .i64 (A.getD i nop).2)) (hI : Ids w (.slice (some ⟨b, off, none⟩) A.length cap) A) :
    Calls Tryd.prog 22 #[.slice (some ⟨b, off, none⟩) A.length cap] w (SlatPost (lastP A) w) := by
  obtain ⟨i0, hi, hz0, hz1, hz2⟩ := info_parts infoP
  have hl12 := (srt_of hq).1
  have s1 := fun v w h => sval_any v A w h
  rw [hq] at s1
  have h := Lib.hid h
  have hI := Lib.hid hI
  obtain ⟨n, hn⟩ : ∃ n, Hid (A.length = n) := ⟨_, Lib.hid rfl⟩
  rw [hn.out] at hl12 hI ⊢
  have R0 := Lib.hid (row_new w w.heap.size (Nat.le_refl _))
  go_enter Tryd.func22, Tryd.ntmps22
  go_wp2_with fail
  go_loopw [3, 4] (fun v i wr => ∃ k : Nat, k ≤ n ∧ i = .int .i64 k ∧ ∃ O : List Pid, Hid (O ++ lastP (A.drop k) = lastP A) ∧ Hid (Row wr w.heap.size v O) ∧ Hid (Below w.heap.size w wr)) (fun _ i _ => n - (intOf i).toNat)
  case atStart => exact ⟨0, Nat.zero_le _, rfl, [], Lib.hid rfl, R0, Lib.hid ((Below.refl _ _).alloc (Nat.le_refl _) _)⟩
  case round =>
    obtain ⟨k, hk, rfl, O, hE, hR, D⟩ := hrel
    clear R0
    have hOl : O.length ≤ 12 := by have := last_le hE.out; have := hn.out; omega
    by_cases hlt : k < n
    · obtain ⟨h0, h1⟩ := h.out k (by rw [hn.out]; exact hlt)
      have q0 := (D.out.cell (p := ⟨b, off + k * 2, none⟩) hb).trans h0
      have q1 := (D.out.cell (p := ⟨b, off + k * 2 + 1, none⟩) hb).trans h1
      clear h0 h1
      obtain ⟨c, hc⟩ : ∃ c, Hid (A.getD k nop = c) := ⟨_, Lib.hid rfl⟩
      rw [hc.out] at q0 q1
      obtain ⟨p, r⟩ := c
      dsimp only at q0 q1
      go_wp2_with fail
      refine (s1 _ _ (hI.out.up D.out (Nat.le_refl _))).mono ?_
      rintro e w3 ⟨rfl, hbl⟩
      replace hR := Lib.hid (hR.out.up hbl)
      replace D := Lib.hid (bstep D.out hbl)
      replace q0 := cell_later hbl q0
      replace q1 := cell_later hbl q1
      clear hbl
      have w1 : IntKind.i64.wrap ((k : Int) + 1) = (k : Int) + 1 := IntWalk.i64_in _ (by omega)
      by_cases hend : k + 1 = n
      · have hE2 := Lib.hid (last_end (by rw [hn.out]; exact hend) hc.out hE.out)
        have hei : ((k : Int) + 1 == (n : Int)) = true := by simp; omega
        clear hE s1
        go_upto_region 5 with fail
        refine wp_region_held_drew (S := fun w' => w'.cell? ⟨b, off + k * 2, none⟩ = some (.int .i64 p) ∧ Below w3.heap.size w3 w') (by kernel_rfl) ⟨q0, Below.drew (Below.refl _ _)⟩ (fun hHeld => ?_)
        refine wpAnyH_take (i := 0) (oi := ⟨some 16, _, _, _, _, _⟩) (v := ?_) rfl (by kernel_rfl) (by kernel_rfl) (by kernel_rfl) (fun _ _ _ h => h) (Or.inl ⟨by rfl, ?_⟩) (by assumption) ?_
        rotate_left 1
        · intro w hSw; (try dsimp only at hSw); go_simp; try (with_reducible rfl)
        try simp only [Act.put, List.setIfInBounds_toArray, List.set_cons_zero, List.set_cons_succ]
        refine wpAnyH_take (i := 1) (oi := ⟨some 17, _, _, _, _, _⟩) (v := ?_) rfl (by kernel_rfl) (by kernel_rfl) (by kernel_rfl) (fun _ _ _ h => h) (Or.inl ⟨by rfl, ?_⟩) (by assumption) ?_
        rotate_left 1
        · intro w hSw; (try dsimp only at hSw); go_simp; try (with_reducible rfl)
        try simp only [Act.put, List.setIfInBounds_toArray, List.set_cons_zero, List.set_cons_succ]
        refine wpAnyH_take (i := 2) (oi := ⟨some 18, _, _, _, _, _⟩) (v := ?_) rfl (by kernel_rfl) (by kernel_rfl) (by kernel_rfl) (fun _ _ _ h => h) (Or.inl ⟨by rfl, ?_⟩) (by assumption) ?_
        rotate_left 1
        · intro w hSw; (try dsimp only at hSw); go_simp; try (with_reducible rfl)
        try simp only [Act.put, List.setIfInBounds_toArray, List.set_cons_zero, List.set_cons_succ]
        refine wpAnyH_take (i := 3) (oi := ⟨some 19, _, _, _, _, _⟩) (v := ?_) rfl (by kernel_rfl) (by kernel_rfl) (by kernel_rfl) (fun _ _ _ h => h) (Or.inl ⟨by rfl, ?_⟩) (by assumption) ?_
        rotate_left 1
        · intro w hSw; (try dsimp only at hSw); go_simp; try (with_reducible rfl)
        try simp only [Act.put, List.setIfInBounds_toArray, List.set_cons_zero, List.set_cons_succ]
        refine wpAnyH_take (i := 4) (oi := ⟨some 20, _, _, _, _, _⟩) (v := ?_) rfl (by kernel_rfl) (by kernel_rfl) (by kernel_rfl) (fun _ _ _ h => h) (Or.inl ⟨by rfl, ?_⟩) (by assumption) ?_
        rotate_left 1
        · intro w hSw; (try dsimp only at hSw); go_simp; try (with_reducible rfl)
        try simp only [Act.put, List.setIfInBounds_toArray, List.set_cons_zero, List.set_cons_succ]
        refine wpAnyH_take (i := 5) (oi := ⟨some 21, _, _, _, _, _⟩) (v := ?_) rfl (by kernel_rfl) (by kernel_rfl) (by kernel_rfl) (fun _ _ _ h => h) (Or.inl ⟨by rfl, ?_⟩) (by assumption) ?_
        rotate_left 1
        · intro w hSw; (try dsimp only at hSw); go_simp; try (with_reducible rfl)
        try simp only [Act.put, List.setIfInBounds_toArray, List.set_cons_zero, List.set_cons_succ]
        refine wpAnyH_take (i := 6) (oi := ⟨some 22, _, _, _, _, _⟩) (v := undef) rfl (by kernel_rfl) (by kernel_rfl) (by kernel_rfl) (fun _ _ _ h => h) (Or.inr ⟨by rfl, rfl⟩) (by assumption) ?_
        try simp only [Act.put, List.setIfInBounds_toArray, List.set_cons_zero, List.set_cons_succ]
        refine wpAnyH_take (i := 7) (oi := ⟨some 23, _, _, _, _, _⟩) (v := undef) rfl (by kernel_rfl) (by kernel_rfl) (by kernel_rfl) (fun _ _ _ h => h) (Or.inr ⟨by rfl, rfl⟩) (by assumption) ?_
        try simp only [Act.put, List.setIfInBounds_toArray, List.set_cons_zero, List.set_cons_succ]
        refine wpAnyH_take (i := 8) (oi := ⟨some 24, _, _, _, _, _⟩) (v := undef) rfl (by kernel_rfl) (by kernel_rfl) (by kernel_rfl) (fun _ _ _ h => h) (Or.inr ⟨by rfl, rfl⟩) (by assumption) ?_
        try simp only [Act.put, List.setIfInBounds_toArray, List.set_cons_zero, List.set_cons_succ]
        refine wpAnyH_take (i := 9) (oi := ⟨some 25, _, _, _, _, _⟩) (v := undef) rfl (by kernel_rfl) (by kernel_rfl) (by kernel_rfl) (fun _ _ _ h => h) (Or.inr ⟨by rfl, rfl⟩) (by assumption) ?_
        try simp only [Act.put, List.setIfInBounds_toArray, List.set_cons_zero, List.set_cons_succ]
        refine wpAnyH_take (i := 10) (oi := ⟨some 26, _, _, _, _, _⟩) (v := undef) rfl (by kernel_rfl) (by kernel_rfl) (by kernel_rfl) (fun _ _ _ h => h) (Or.inr ⟨by rfl, rfl⟩) (by assumption) ?_
        try simp only [Act.put, List.setIfInBounds_toArray, List.set_cons_zero, List.set_cons_succ]
        refine wpAnyH_take (i := 11) (oi := ⟨some 27, _, _, _, _, _⟩) (v := undef) rfl (by kernel_rfl) (by kernel_rfl) (by kernel_rfl) (fun _ _ _ h => h) (Or.inr ⟨by rfl, rfl⟩) (by assumption) ?_
        try simp only [Act.put, List.setIfInBounds_toArray, List.set_cons_zero, List.set_cons_succ]
        refine wpAnyH_take (i := 12) (oi := ⟨some 28, _, _, _, _, _⟩) (v := undef) rfl (by kernel_rfl) (by kernel_rfl) (by kernel_rfl) (fun _ _ _ h => h) (Or.inr ⟨by rfl, rfl⟩) (by assumption) ?_
        try simp only [Act.put, List.setIfInBounds_toArray, List.set_cons_zero, List.set_cons_succ]
        refine wpAnyH_take (i := 13) (oi := ⟨some 29, _, _, _, _, _⟩) (v := undef) rfl (by kernel_rfl) (by kernel_rfl) (by kernel_rfl) (fun _ _ _ h => h) (Or.inr ⟨by rfl, rfl⟩) (by assumption) ?_
        try simp only [Act.put, List.setIfInBounds_toArray, List.set_cons_zero, List.set_cons_succ]
        refine wpAnyH_take (i := 14) (oi := ⟨some 30, _, _, _, _, _⟩) (v := undef) rfl (by kernel_rfl) (by kernel_rfl) (by kernel_rfl) (fun _ _ _ h => h) (Or.inr ⟨by rfl, rfl⟩) (by assumption) ?_
        try simp only [Act.put, List.setIfInBounds_toArray, List.set_cons_zero, List.set_cons_succ]
        refine wpAnyH_take (i := 15) (oi := ⟨some 31, _, _, _, _, _⟩) (v := undef) rfl (by kernel_rfl) (by kernel_rfl) (by kernel_rfl) (fun _ _ _ h => h) (Or.inr ⟨by rfl, rfl⟩) (by assumption) ?_
        try simp only [Act.put, List.setIfInBounds_toArray, List.set_cons_zero, List.set_cons_succ]
        refine wpAnyH_take (i := 16) (oi := ⟨some 32, _, _, _, _, _⟩) (v := undef) rfl (by kernel_rfl) (by kernel_rfl) (by kernel_rfl) (fun _ _ _ h => h) (Or.inr ⟨by rfl, rfl⟩) (by assumption) ?_
        try simp only [Act.put, List.setIfInBounds_toArray, List.set_cons_zero, List.set_cons_succ]
        refine wpAnyH_take (i := 17) (oi := ⟨some 33, _, _, _, _, _⟩) (v := undef) rfl (by kernel_rfl) (by kernel_rfl) (by kernel_rfl) (fun _ _ _ h => h) (Or.inr ⟨by rfl, rfl⟩) (by assumption) ?_
        try simp only [Act.put, List.setIfInBounds_toArray, List.set_cons_zero, List.set_cons_succ]
        refine wpAnyH_take (i := 18) (oi := ⟨some 34, _, _, _, _, _⟩) (v := ?_) rfl (by kernel_rfl) (by kernel_rfl) (by kernel_rfl) (fun _ _ _ h => h) (Or.inl ⟨by rfl, ?_⟩) (by assumption) ?_
        rotate_left 1
        · intro w hSw; (try dsimp only at hSw); go_simp; try (with_reducible rfl)
        try simp only [Act.put, List.setIfInBounds_toArray, List.set_cons_zero, List.set_cons_succ]
        refine wpAnyH_done (by kernel_rfl) ?_ _
        try simp only [Act.put, List.setIfInBounds_toArray, List.set_cons_zero, List.set_cons_succ]
        replace hR := Lib.hid (hR.out.up hHeld.2)
        replace D := Lib.hid (bstep D.out hHeld.2)
        replace q0 := (hHeld.1)
        replace q1 := cell_later hHeld.2 q1
        clear hHeld
        go_wp2_with (at_builtin; refine wpList_append_own _ rfl _ _ 23 rfl w.heap.size 31 i0 (.agg #[.int .i64 0, .int .i64 0]) 2 16 Tryd.underlying23 hi hz0 hz1 hz2 rfl (by decide) _ _ _ rfl (hR.out.1.alloc _) ⟨w3.heap.size, 0, none⟩ 1 1 [.int .i64 p, .int .i64 r] rfl rfl ?c1 ?c2 ?c3 ?c4 ?c5 ?_)
        case c1 => exact two_cells _ _ _ _ _ (by simp)
        case c2 => intro u hu; simp at hu; rcases hu with rfl | rfl <;> rfl
        case c3 => unfold maxLen; omega
        case c4 => omega
        case c5 => have : w.heap.size ≤ w3.heap.size := D.out.size; simp; omega
        intro v' w4 hown' hgrow hnil
        have X := slat_next hR.out hown' hgrow (fun e => hnil e) D.out
        have hR' := Lib.hid X.1
        have hD' := Lib.hid X.2
        clear X hown' hgrow hnil hR D q0 q1
        go_wp2_with fail
        go_roundw
        case rel => exact ⟨k + 1, by omega, by go_num, _, hE2, hR', hD'⟩
        case measure => simp [intOf]; omega
      · have hei : ((k : Int) + 1 == (n : Int)) = false := by simp; omega
        obtain ⟨h0, h1⟩ := h.out (k + 1) (by rw [hn.out]; omega)
        have r0 := (D.out.cell (p := ⟨b, off + (k + 1) * 2, none⟩) hb).trans h0
        clear h0 h1
        obtain ⟨c', hc'⟩ : ∃ c', Hid (A.getD (k + 1) nop = c') := ⟨_, Lib.hid rfl⟩
        rw [hc'.out] at r0
        obtain ⟨p', r'⟩ := c'
        dsimp only at r0
        have i0' : (0 : Int) ≤ (k : Int) := by omega
        have i1 : (k : Int) < (n : Int) := by omega
        have i2 : (k : Int) ≤ (n : Int) := by omega
        have e0 : (0 : Int) ≤ (k : Int) + 1 := by omega
        have e1 : (k : Int) + 1 < (n : Int) := by omega
        have e2 : (k : Int) + 1 ≤ (n : Int) := by omega
        have c3 : ((k : Int) + 1).toNat = k + 1 := by omega
        by_cases hpp : p' = p
        · have hE2 := Lib.hid (last_skip (by rw [hn.out]; omega) hc.out hc'.out (show p' = p from hpp) hE.out)
          have hpn : (p' != p) = false := by simpa using hpp
          replace hpp := Lib.hid hpp
          clear hE s1
          go_upto_region 5 with fail
          refine wp_region_held_drew (S := fun w' => w'.cell? ⟨b, off + k * 2, none⟩ = some (.int .i64 p) ∧ w'.cell? ⟨b, off + (k + 1) * 2, none⟩ = some (.int .i64 p') ∧ Below w3.heap.size w3 w') (by kernel_rfl) ⟨q0, r0, Below.drew (Below.refl _ _)⟩ (fun hHeld => ?_)
          refine wpAnyH_take (i := 0) (oi := ⟨some 16, _, _, _, _, _⟩) (v := ?_) rfl (by kernel_rfl) (by kernel_rfl) (by kernel_rfl) (fun _ _ _ h => h) (Or.inl ⟨by rfl, ?_⟩) (by assumption) ?_
          rotate_left 1
          · intro w hSw; (try dsimp only at hSw); go_simp; try (with_reducible rfl)
          try simp only [Act.put, List.setIfInBounds_toArray, List.set_cons_zero, List.set_cons_succ]
          refine wpAnyH_take (i := 1) (oi := ⟨some 17, _, _, _, _, _⟩) (v := ?_) rfl (by kernel_rfl) (by kernel_rfl) (by kernel_rfl) (fun _ _ _ h => h) (Or.inl ⟨by rfl, ?_⟩) (by assumption) ?_
          rotate_left 1
          · intro w hSw; (try dsimp only at hSw); go_simp; try (with_reducible rfl)
          try simp only [Act.put, List.setIfInBounds_toArray, List.set_cons_zero, List.set_cons_succ]
          refine wpAnyH_take (i := 2) (oi := ⟨some 18, _, _, _, _, _⟩) (v := ?_) rfl (by kernel_rfl) (by kernel_rfl) (by kernel_rfl) (fun _ _ _ h => h) (Or.inl ⟨by rfl, ?_⟩) (by assumption) ?_
          rotate_left 1
          · intro w hSw; (try dsimp only at hSw); go_simp; try (with_reducible rfl)
          try simp only [Act.put, List.setIfInBounds_toArray, List.set_cons_zero, List.set_cons_succ]
          refine wpAnyH_take (i := 3) (oi := ⟨some 19, _, _, _, _, _⟩) (v := ?_) rfl (by kernel_rfl) (by kernel_rfl) (by kernel_rfl) (fun _ _ _ h => h) (Or.inl ⟨by rfl, ?_⟩) (by assumption) ?_
          rotate_left 1
          · intro w hSw; (try dsimp only at hSw); go_simp; try (with_reducible rfl)
          try simp only [Act.put, List.setIfInBounds_toArray, List.set_cons_zero, List.set_cons_succ]
          refine wpAnyH_take (i := 4) (oi := ⟨some 20, _, _, _, _, _⟩) (v := ?_) rfl (by kernel_rfl) (by kernel_rfl) (by kernel_rfl) (fun _ _ _ h => h) (Or.inl ⟨by rfl, ?_⟩) (by assumption) ?_
          rotate_left 1
          · intro w hSw; (try dsimp only at hSw); go_simp; try (with_reducible rfl)
          try simp only [Act.put, List.setIfInBounds_toArray, List.set_cons_zero, List.set_cons_succ]
          refine wpAnyH_take (i := 5) (oi := ⟨some 21, _, _, _, _, _⟩) (v := ?_) rfl (by kernel_rfl) (by kernel_rfl) (by kernel_rfl) (fun _ _ _ h => h) (Or.inl ⟨by rfl, ?_⟩) (by assumption) ?_
          rotate_left 1
          · intro w hSw; (try dsimp only at hSw); go_simp; try (with_reducible rfl)
          try simp only [Act.put, List.setIfInBounds_toArray, List.set_cons_zero, List.set_cons_succ]
          refine wpAnyH_take (i := 6) (oi := ⟨some 22, _, _, _, _, _⟩) (v := ?_) rfl (by kernel_rfl) (by kernel_rfl) (by kernel_rfl) (fun _ _ _ h => h) (Or.inl ⟨by rfl, ?_⟩) (by assumption) ?_
          rotate_left 1
          · intro w hSw; (try dsimp only at hSw); go_simp; try (with_reducible rfl)
          try simp only [Act.put, List.setIfInBounds_toArray, List.set_cons_zero, List.set_cons_succ]
          refine wpAnyH_take (i := 7) (oi := ⟨some 23, _, _, _, _, _⟩) (v := ?_) rfl (by kernel_rfl) (by kernel_rfl) (by kernel_rfl) (fun _ _ _ h => h) (Or.inl ⟨by rfl, ?_⟩) (by assumption) ?_
          rotate_left 1
          · intro w hSw; (try dsimp only at hSw); go_simp; try (with_reducible rfl)
          try simp only [Act.put, List.setIfInBounds_toArray, List.set_cons_zero, List.set_cons_succ]
          refine wpAnyH_take (i := 8) (oi := ⟨some 24, _, _, _, _, _⟩) (v := ?_) rfl (by kernel_rfl) (by kernel_rfl) (by kernel_rfl) (fun _ _ _ h => h) (Or.inl ⟨by rfl, ?_⟩) (by assumption) ?_
          rotate_left 1
          · intro w hSw; (try dsimp only at hSw); go_simp; try (with_reducible rfl)
          try simp only [Act.put, List.setIfInBounds_toArray, List.set_cons_zero, List.set_cons_succ]
          refine wpAnyH_take (i := 9) (oi := ⟨some 25, _, _, _, _, _⟩) (v := ?_) rfl (by kernel_rfl) (by kernel_rfl) (by kernel_rfl) (fun _ _ _ h => h) (Or.inl ⟨by rfl, ?_⟩) (by assumption) ?_
          rotate_left 1
          · intro w hSw; (try dsimp only at hSw); go_simp; try (with_reducible rfl)
          try simp only [Act.put, List.setIfInBounds_toArray, List.set_cons_zero, List.set_cons_succ]
          refine wpAnyH_take (i := 10) (oi := ⟨some 26, _, _, _, _, _⟩) (v := ?_) rfl (by kernel_rfl) (by kernel_rfl) (by kernel_rfl) (fun _ _ _ h => h) (Or.inl ⟨by rfl, ?_⟩) (by assumption) ?_
          rotate_left 1
          · intro w hSw; (try dsimp only at hSw); go_simp; try (with_reducible rfl)
          try simp only [Act.put, List.setIfInBounds_toArray, List.set_cons_zero, List.set_cons_succ]
          refine wpAnyH_take (i := 11) (oi := ⟨some 27, _, _, _, _, _⟩) (v := ?_) rfl (by kernel_rfl) (by kernel_rfl) (by kernel_rfl) (fun _ _ _ h => h) (Or.inl ⟨by rfl, ?_⟩) (by assumption) ?_
          rotate_left 1
          · intro w hSw; (try dsimp only at hSw); go_simp; try (with_reducible rfl)
          try simp only [Act.put, List.setIfInBounds_toArray, List.set_cons_zero, List.set_cons_succ]
          refine wpAnyH_take (i := 12) (oi := ⟨some 28, _, _, _, _, _⟩) (v := ?_) rfl (by kernel_rfl) (by kernel_rfl) (by kernel_rfl) (fun _ _ _ h => h) (Or.inl ⟨by rfl, ?_⟩) (by assumption) ?_
          rotate_left 1
          · intro w hSw; (try dsimp only at hSw); go_simp; try (with_reducible rfl)
          try simp only [Act.put, List.setIfInBounds_toArray, List.set_cons_zero, List.set_cons_succ]
          refine wpAnyH_take (i := 13) (oi := ⟨some 29, _, _, _, _, _⟩) (v := ?_) rfl (by kernel_rfl) (by kernel_rfl) (by kernel_rfl) (fun _ _ _ h => h) (Or.inl ⟨by rfl, ?_⟩) (by assumption) ?_
          rotate_left 1
          · intro w hSw; (try dsimp only at hSw); go_simp; try (with_reducible rfl)
          try simp only [Act.put, List.setIfInBounds_toArray, List.set_cons_zero, List.set_cons_succ]
          refine wpAnyH_take (i := 14) (oi := ⟨some 30, _, _, _, _, _⟩) (v := ?_) rfl (by kernel_rfl) (by kernel_rfl) (by kernel_rfl) (fun _ _ _ h => h) (Or.inl ⟨by rfl, ?_⟩) (by assumption) ?_
          rotate_left 1
          · intro w hSw; (try dsimp only at hSw); go_simp; try (with_reducible rfl)
          try simp only [Act.put, List.setIfInBounds_toArray, List.set_cons_zero, List.set_cons_succ]
          refine wpAnyH_take (i := 15) (oi := ⟨some 31, _, _, _, _, _⟩) (v := ?_) rfl (by kernel_rfl) (by kernel_rfl) (by kernel_rfl) (fun _ _ _ h => h) (Or.inl ⟨by rfl, ?_⟩) (by assumption) ?_
          rotate_left 1
          · intro w hSw; (try dsimp only at hSw); go_simp; try (with_reducible rfl)
          try simp only [Act.put, List.setIfInBounds_toArray, List.set_cons_zero, List.set_cons_succ]
          refine wpAnyH_take (i := 16) (oi := ⟨some 32, _, _, _, _, _⟩) (v := ?_) rfl (by kernel_rfl) (by kernel_rfl) (by kernel_rfl) (fun _ _ _ h => h) (Or.inl ⟨by rfl, ?_⟩) (by assumption) ?_
          rotate_left 1
          · intro w hSw; (try dsimp only at hSw); go_simp; try (with_reducible rfl)
          try simp only [Act.put, List.setIfInBounds_toArray, List.set_cons_zero, List.set_cons_succ]
          refine wpAnyH_take (i := 17) (oi := ⟨some 33, _, _, _, _, _⟩) (v := ?_) rfl (by kernel_rfl) (by kernel_rfl) (by kernel_rfl) (fun _ _ _ h => h) (Or.inl ⟨by rfl, ?_⟩) (by assumption) ?_
          rotate_left 1
          · intro w hSw; (try dsimp only at hSw); go_simp; try (with_reducible rfl)
          try simp only [Act.put, List.setIfInBounds_toArray, List.set_cons_zero, List.set_cons_succ]
          refine wpAnyH_take (i := 18) (oi := ⟨some 34, _, _, _, _, _⟩) (v := ?_) rfl (by kernel_rfl) (by kernel_rfl) (by kernel_rfl) (fun _ _ _ h => h) (Or.inl ⟨by rfl, ?_⟩) (by assumption) ?_
          rotate_left 1
          · intro w hSw; (try dsimp only at hSw); go_simp; try (with_reducible rfl)
          try simp only [Act.put, List.setIfInBounds_toArray, List.set_cons_zero, List.set_cons_succ]
          refine wpAnyH_done (by kernel_rfl) ?_ _
          try simp only [Act.put, List.setIfInBounds_toArray, List.set_cons_zero, List.set_cons_succ]
          replace hR := Lib.hid (hR.out.up hHeld.2.2)
          replace D := Lib.hid (bstep D.out hHeld.2.2)
          clear hHeld q0 q1 r0
          go_wp2_with fail
          go_roundw
          case rel => exact ⟨k + 1, by omega, by go_num, O, hE2, hR, D⟩
          case measure => simp [intOf]; omega
        · have hE2 := Lib.hid (last_go (by rw [hn.out]; omega) hc.out hc'.out (show ¬ p' = p from hpp) hE.out)
          have hpp' : (p' == p) = false := by simpa using hpp
          have hpn : (p' != p) = true := by simpa using hpp
          clear hE s1
          go_upto_region 5 with fail
          refine wp_region_held_drew (S := fun w' => w'.cell? ⟨b, off + k * 2, none⟩ = some (.int .i64 p) ∧ w'.cell? ⟨b, off + (k + 1) * 2, none⟩ = some (.int .i64 p') ∧ Below w3.heap.size w3 w') (by kernel_rfl) ⟨q0, r0, Below.drew (Below.refl _ _)⟩ (fun hHeld => ?_)
          refine wpAnyH_take (i := 0) (oi := ⟨some 16, _, _, _, _, _⟩) (v := ?_) rfl (by kernel_rfl) (by kernel_rfl) (by kernel_rfl) (fun _ _ _ h => h) (Or.inl ⟨by rfl, ?_⟩) (by assumption) ?_
          rotate_left 1
          · intro w hSw; (try dsimp only at hSw); go_simp; try (with_reducible rfl)
          try simp only [Act.put, List.setIfInBounds_toArray, List.set_cons_zero, List.set_cons_succ]
          refine wpAnyH_take (i := 1) (oi := ⟨some 17, _, _, _, _, _⟩) (v := ?_) rfl (by kernel_rfl) (by kernel_rfl) (by kernel_rfl) (fun _ _ _ h => h) (Or.inl ⟨by rfl, ?_⟩) (by assumption) ?_
          rotate_left 1
          · intro w hSw; (try dsimp only at hSw); go_simp; try (with_reducible rfl)
          try simp only [Act.put, List.setIfInBounds_toArray, List.set_cons_zero, List.set_cons_succ]
          refine wpAnyH_take (i := 2) (oi := ⟨some 18, _, _, _, _, _⟩) (v := ?_) rfl (by kernel_rfl) (by kernel_rfl) (by kernel_rfl) (fun _ _ _ h => h) (Or.inl ⟨by rfl, ?_⟩) (by assumption) ?_
          rotate_left 1
          · intro w hSw; (try dsimp only at hSw); go_simp; try (with_reducible rfl)
          try simp only [Act.put, List.setIfInBounds_toArray, List.set_cons_zero, List.set_cons_succ]
          refine wpAnyH_take (i := 3) (oi := ⟨some 19, _, _, _, _, _⟩) (v := ?_) rfl (by kernel_rfl) (by kernel_rfl) (by kernel_rfl) (fun _ _ _ h => h) (Or.inl ⟨by rfl, ?_⟩) (by assumption) ?_
          rotate_left 1
          · intro w hSw; (try dsimp only at hSw); go_simp; try (with_reducible rfl)
          try simp only [Act.put, List.setIfInBounds_toArray, List.set_cons_zero, List.set_cons_succ]
          refine wpAnyH_take (i := 4) (oi := ⟨some 20, _, _, _, _, _⟩) (v := ?_) rfl (by kernel_rfl) (by kernel_rfl) (by kernel_rfl) (fun _ _ _ h => h) (Or.inl ⟨by rfl, ?_⟩) (by assumption) ?_
          rotate_left 1
          · intro w hSw; (try dsimp only at hSw); go_simp; try (with_reducible rfl)
          try simp only [Act.put, List.setIfInBounds_toArray, List.set_cons_zero, List.set_cons_succ]
          refine wpAnyH_take (i := 5) (oi := ⟨some 21, _, _, _, _, _⟩) (v := ?_) rfl (by kernel_rfl) (by kernel_rfl) (by kernel_rfl) (fun _ _ _ h => h) (Or.inl ⟨by rfl, ?_⟩) (by assumption) ?_
          rotate_left 1
          · intro w hSw; (try dsimp only at hSw); go_simp; try (with_reducible rfl)
          try simp only [Act.put, List.setIfInBounds_toArray, List.set_cons_zero, List.set_cons_succ]
          refine wpAnyH_take (i := 6) (oi := ⟨some 22, _, _, _, _, _⟩) (v := ?_) rfl (by kernel_rfl) (by kernel_rfl) (by kernel_rfl) (fun _ _ _ h => h) (Or.inl ⟨by rfl, ?_⟩) (by assumption) ?_
          rotate_left 1
          · intro w hSw; (try dsimp only at hSw); go_simp; try (with_reducible rfl)
          try simp only [Act.put, List.setIfInBounds_toArray, List.set_cons_zero, List.set_cons_succ]
          refine wpAnyH_take (i := 7) (oi := ⟨some 23, _, _, _, _, _⟩) (v := ?_) rfl (by kernel_rfl) (by kernel_rfl) (by kernel_rfl) (fun _ _ _ h => h) (Or.inl ⟨by rfl, ?_⟩) (by assumption) ?_
          rotate_left 1
          · intro w hSw; (try dsimp only at hSw); go_simp; try (with_reducible rfl)
          try simp only [Act.put, List.setIfInBounds_toArray, List.set_cons_zero, List.set_cons_succ]
          refine wpAnyH_take (i := 8) (oi := ⟨some 24, _, _, _, _, _⟩) (v := ?_) rfl (by kernel_rfl) (by kernel_rfl) (by kernel_rfl) (fun _ _ _ h => h) (Or.inl ⟨by rfl, ?_⟩) (by assumption) ?_
          rotate_left 1
          · intro w hSw; (try dsimp only at hSw); go_simp; try (with_reducible rfl)
          try simp only [Act.put, List.setIfInBounds_toArray, List.set_cons_zero, List.set_cons_succ]
          refine wpAnyH_take (i := 9) (oi := ⟨some 25, _, _, _, _, _⟩) (v := ?_) rfl (by kernel_rfl) (by kernel_rfl) (by kernel_rfl) (fun _ _ _ h => h) (Or.inl ⟨by rfl, ?_⟩) (by assumption) ?_
          rotate_left 1
          · intro w hSw; (try dsimp only at hSw); go_simp; try (with_reducible rfl)
          try simp only [Act.put, List.setIfInBounds_toArray, List.set_cons_zero, List.set_cons_succ]
          refine wpAnyH_take (i := 10) (oi := ⟨some 26, _, _, _, _, _⟩) (v := ?_) rfl (by kernel_rfl) (by kernel_rfl) (by kernel_rfl) (fun _ _ _ h => h) (Or.inl ⟨by rfl, ?_⟩) (by assumption) ?_
          rotate_left 1
          · intro w hSw; (try dsimp only at hSw); go_simp; try (with_reducible rfl)
          try simp only [Act.put, List.setIfInBounds_toArray, List.set_cons_zero, List.set_cons_succ]
          refine wpAnyH_take (i := 11) (oi := ⟨some 27, _, _, _, _, _⟩) (v := ?_) rfl (by kernel_rfl) (by kernel_rfl) (by kernel_rfl) (fun _ _ _ h => h) (Or.inl ⟨by rfl, ?_⟩) (by assumption) ?_
          rotate_left 1
          · intro w hSw; (try dsimp only at hSw); go_simp; try (with_reducible rfl)
          try simp only [Act.put, List.setIfInBounds_toArray, List.set_cons_zero, List.set_cons_succ]
          refine wpAnyH_take (i := 12) (oi := ⟨some 28, _, _, _, _, _⟩) (v := ?_) rfl (by kernel_rfl) (by kernel_rfl) (by kernel_rfl) (fun _ _ _ h => h) (Or.inl ⟨by rfl, ?_⟩) (by assumption) ?_
          rotate_left 1
          · intro w hSw; (try dsimp only at hSw); go_simp; try (with_reducible rfl)
          try simp only [Act.put, List.setIfInBounds_toArray, List.set_cons_zero, List.set_cons_succ]
          refine wpAnyH_take (i := 13) (oi := ⟨some 29, _, _, _, _, _⟩) (v := ?_) rfl (by kernel_rfl) (by kernel_rfl) (by kernel_rfl) (fun _ _ _ h => h) (Or.inl ⟨by rfl, ?_⟩) (by assumption) ?_
          rotate_left 1
          · intro w hSw; (try dsimp only at hSw); go_simp; try (with_reducible rfl)
          try simp only [Act.put, List.setIfInBounds_toArray, List.set_cons_zero, List.set_cons_succ]
          refine wpAnyH_take (i := 14) (oi := ⟨some 30, _, _, _, _, _⟩) (v := ?_) rfl (by kernel_rfl) (by kernel_rfl) (by kernel_rfl) (fun _ _ _ h => h) (Or.inl ⟨by rfl, ?_⟩) (by assumption) ?_
          rotate_left 1
          · intro w hSw; (try dsimp only at hSw); go_simp; try (with_reducible rfl)
          try simp only [Act.put, List.setIfInBounds_toArray, List.set_cons_zero, List.set_cons_succ]
          refine wpAnyH_take (i := 15) (oi := ⟨some 31, _, _, _, _, _⟩) (v := ?_) rfl (by kernel_rfl) (by kernel_rfl) (by kernel_rfl) (fun _ _ _ h => h) (Or.inl ⟨by rfl, ?_⟩) (by assumption) ?_
          rotate_left 1
          · intro w hSw; (try dsimp only at hSw); go_simp; try (with_reducible rfl)
          try simp only [Act.put, List.setIfInBounds_toArray, List.set_cons_zero, List.set_cons_succ]
          refine wpAnyH_take (i := 16) (oi := ⟨some 32, _, _, _, _, _⟩) (v := ?_) rfl (by kernel_rfl) (by kernel_rfl) (by kernel_rfl) (fun _ _ _ h => h) (Or.inl ⟨by rfl, ?_⟩) (by assumption) ?_
          rotate_left 1
          · intro w hSw; (try dsimp only at hSw); go_simp; try (with_reducible rfl)
          try simp only [Act.put, List.setIfInBounds_toArray, List.set_cons_zero, List.set_cons_succ]
          refine wpAnyH_take (i := 17) (oi := ⟨some 33, _, _, _, _, _⟩) (v := ?_) rfl (by kernel_rfl) (by kernel_rfl) (by kernel_rfl) (fun _ _ _ h => h) (Or.inl ⟨by rfl, ?_⟩) (by assumption) ?_
          rotate_left 1
          · intro w hSw; (try dsimp only at hSw); go_simp; try (with_reducible rfl)
          try simp only [Act.put, List.setIfInBounds_toArray, List.set_cons_zero, List.set_cons_succ]
          refine wpAnyH_take (i := 18) (oi := ⟨some 34, _, _, _, _, _⟩) (v := ?_) rfl (by kernel_rfl) (by kernel_rfl) (by kernel_rfl) (fun _ _ _ h => h) (Or.inl ⟨by rfl, ?_⟩) (by assumption) ?_
          rotate_left 1
          · intro w hSw; (try dsimp only at hSw); go_simp; try (with_reducible rfl)
          try simp only [Act.put, List.setIfInBounds_toArray, List.set_cons_zero, List.set_cons_succ]
          refine wpAnyH_done (by kernel_rfl) ?_ _
          try simp only [Act.put, List.setIfInBounds_toArray, List.set_cons_zero, List.set_cons_succ]
          replace hR := Lib.hid (hR.out.up hHeld.2.2)
          replace D := Lib.hid (bstep D.out hHeld.2.2)
          replace q0 := (hHeld.1)
          replace q1 := cell_later hHeld.2.2 q1
          clear hHeld r0
          go_wp2_with (at_builtin; refine wpList_append_own _ rfl _ _ 23 rfl w.heap.size 31 i0 (.agg #[.int .i64 0, .int .i64 0]) 2 16 Tryd.underlying23 hi hz0 hz1 hz2 rfl (by decide) _ _ _ rfl (hR.out.1.alloc _) ⟨w3.heap.size, 0, none⟩ 1 1 [.int .i64 p, .int .i64 r] rfl rfl ?c1 ?c2 ?c3 ?c4 ?c5 ?_)
          case c1 => exact two_cells _ _ _ _ _ (by simp)
          case c2 => intro u hu; simp at hu; rcases hu with rfl | rfl <;> rfl
          case c3 => unfold maxLen; omega
          case c4 => omega
          case c5 => have : w.heap.size ≤ w3.heap.size := D.out.size; simp; omega
          intro v' w4 hown' hgrow hnil
          have X := slat_next hR.out hown' hgrow (fun e => hnil e) D.out
          have hR' := Lib.hid X.1
          have hD' := Lib.hid X.2
          clear X hown' hgrow hnil hR D q0 q1
          go_wp2_with fail
          go_roundw
          case rel => exact ⟨k + 1, by omega, by go_num, _, hE2, hR', hD'⟩
          case measure => simp [intOf]; omega
    · obtain rfl : k = n := by omega
      have hdr : A.drop k = [] := List.drop_eq_nil_of_le (by rw [hn.out]; exact Nat.le_refl _)
      have hE2 := hE.out
      rw [hdr, lastP, List.append_nil] at hE2
      obtain ⟨o, ho, hown⟩ := hR.out.own (by omega)
      rw [hE2] at hown
      have hown := Lib.hid hown
      clear hR hE2 hdr s1
      go_wp2_with fail
      go_ret
      exact ⟨o, _, ho, rfl, hown.out, D.out⟩

theorem slat_nil (a : Option Addr) (ca : Nat) (w : World) :
    Calls Tryd.prog 22 #[.slice a 0 ca] w (SlatPost [] w) := by
  have R0 := Lib.hid (ownP_nil w 31)
  go_enter Tryd.func22, Tryd.ntmps22
  go_wp2_with fail
  refine wp_loop_rounds 1 ?_
  rw [rounds_succ]
  go_wp2_with fail
  go_ret
  exact ⟨w.heap.size, _, Nat.le_refl _, rfl, R0.out, (Below.refl _ _).alloc (Nat.le_refl _) _⟩

theorem slat_any (u : Value) (A : List Pid) (w : World) (h : Ids w u A) :
    Calls Tryd.prog 22 #[u] w (SlatPost (latR A) w) := by
  have hI := h
  obtain ⟨a, cap, rfl, h1, h2, h3⟩ := h
  cases hq : srtB A
  · rw [latR_f hq]; exact slat_bad a _ cap A w hI rfl h2 hq
  · rw [latR_t hq]
    rcases h3 with h3 | ⟨b, off, rfl, h4, h5⟩
    · obtain rfl : A = [] := List.length_eq_zero_iff.1 h3
      exact slat_nil a cap w
    · exact slat_at b off cap A w h4 hq h5 hI
end Go.Proofs.YtigaepbhbfpijaaDoor

/- Draws of sorted ids: l91Deps. -/
namespace Go.Proofs.YtigaepbhbfpijaaDoor
open Go.RowKit
set_option linter.unusedVariables false

theorem OwnP.stay {w w' : World} {b r : Nat} {v : Value} {C : List Pid} (h : OwnP w b v C) (hk : Keep w.heap.size r w w') (hr : b ≠ r) : OwnP w' b v C := h.same (hk.block b h.lt hr)

/-- What l91Deps leaves. -/
def DepPost (r n : Nat) (w : World) (e : Ending) (w' : World) : Prop :=
  ∃ b u C, w.heap.size ≤ b ∧ e = .returned u ∧ OwnP w' b u C ∧ C.length ≤ 13 ∧ Rd w' r (n + 40) ∧ Keep w.heap.size r w w'

set_option maxRecDepth 100000 in
set_option maxHeartbeats 2000000 in
theorem ddep_any (r n : Nat) (w : World) (hrd : Rd w r n) (hn : n ≤ 800000000) :
    Calls Tryd.prog 30 #[.pointer (some ⟨r, 0, none⟩)] w (DepPost r n w) := by
  have hrl := hrd.lt
  have hrd := Lib.hid hrd
  go_enter Tryd.func30, Tryd.ntmps30
  go_wp2_with fail
  refine (ids_anyN r n _ hrd.out hn).mono ?_
  rintro e w1 ⟨u, C, rfl, hI, hl, hr1, hk1⟩
  have s1 := hk1.size
  have hI := Lib.hid hI
  have hr1 := Lib.hid hr1
  have K1 := Lib.hid hk1
  clear hk1 hrd
  go_wp2_with fail
  refine (ssort_any u C _ hI.out (by omega)).mono ?_
  rintro e w2 ⟨b, v, hb, rfl, hO, hb2⟩
  have s2 := hb2.size
  have hr2 := Lib.hid (hr1.out.kept (hb2.mono (Nat.succ_le_of_lt hr1.out.lt)))
  have K2 := Lib.hid (K1.out.trans (Keep.of_below (hb2.mono s1)))
  have hL := sortR_len C
  have hO := Lib.hid hO
  clear hb2 K1 hr1 hI
  generalize sortR C = R at hO hL ⊢
  obtain ⟨S, f⟩ := R
  dsimp only at hO hL ⊢
  cases f
  · have A3 := heap_alloc_new w2 (.cells #[.int .i64 1, .int .i64 1, .int .i64 0, .int .i64 1] 31)
    have A3 := Lib.hid A3
    have hr3 := Lib.hid (hr2.out.alloc (.cells #[.int .i64 1, .int .i64 1, .int .i64 0, .int .i64 1] 31))
    have K3 := Lib.hid (K2.out.alloc (by omega) (.cells #[.int .i64 1, .int .i64 1, .int .i64 0, .int .i64 1] 31))
    have hI3 : Hid (OwnP (w2.alloc (.cells #[.int .i64 1, .int .i64 1, .int .i64 0, .int .i64 1] 31)) w2.heap.size (.slice (some ⟨w2.heap.size, 0, none⟩) 2 2) [(1, 1), (0, 1)]) := Lib.hid ⟨2, _, _, rfl, A3.out, by simp, by simp, fun i hi => by
      have hi' : i < 2 := by simpa using hi
      rcases (show i = 0 ∨ i = 1 by omega) with rfl | rfl <;> exact ⟨rfl, rfl⟩⟩
    go_wp2_with fail
    go_ret
    exact ⟨w2.heap.size, _, _, by omega, rfl, hI3.out, by simp, hr3.out, K3.out⟩
  · go_wp2_with fail
    go_ret
    exact ⟨b, _, _, by omega, rfl, hO.out, by omega, hr2.out, K2.out⟩
end Go.Proofs.YtigaepbhbfpijaaDoor

/- DrawDepsLatest. -/
namespace Go.Proofs.YtigaepbhbfpijaaDoor
open Go.RowKit
set_option linter.unusedVariables false

/-- What a draw of a list leaves. -/
def DlPost (w : World) (e : Ending) (w' : World) : Prop := ∃ u C, e = .returned u ∧ Ids w' u C ∧ C.length ≤ 13 ∧ Below w.heap.size w w'

set_option maxRecDepth 100000 in
set_option maxHeartbeats 2000000 in
theorem ddl_any (a : Option Addr) (len cap : Nat) (w : World) (hc : CodeIn w a len cap) (hcap : cap ≤ maxLen) :
    Calls Tryd.prog 20 #[.slice a len cap] w (DlPost w) := by
  have hc := Lib.hid hc
  have hcap := Lib.hid hcap
  go_enter Tryd.func20, Tryd.ntmps20
  go_wp2_with fail
  refine (open_any a len cap _ hc.out hcap.out).mono ?_
  rintro e w1 ⟨r, rfl, hr0, hr', hb'⟩
  have s1 := hb'.size
  have D1 : Hid (Below w.heap.size w w1) := Lib.hid hb'
  have hr1 := Lib.hid hr'
  clear hr' hb' hc hcap
  go_wp2_with fail
  refine (ddep_any r 0 _ hr1.out (by omega)).mono ?_
  rintro e w2 ⟨b, u, C, hb, rfl, hO, hCl, hr2, hk2⟩
  have D2 : Hid (Below w.heap.size w w2) := Lib.hid (D1.out.trans ((hk2.mono s1).below hr0))
  have hI := Lib.hid hO.read
  clear hk2 D1 hr1 hr2 hO
  go_wp2_with fail
  go_ret
  exact ⟨u, C, rfl, hI.out, hCl, D2.out⟩
end Go.Proofs.YtigaepbhbfpijaaDoor

/- The model's l4Join, DepsJoin. -/
namespace Go.Proofs.YtigaepbhbfpijaaDoor
open Go.RowKit
set_option linter.unusedVariables false

/-- What l4Join leaves. -/
def L4Post (R : List Pid) (w : World) (e : Ending) (w' : World) : Prop :=
  ∃ b u, w.heap.size ≤ b ∧ e = .returned u ∧ OwnP w' b u R ∧ Below w.heap.size w w'

theorem flat_cells {W : World} {ad : Addr} {C : List Pid} (h : C.length = 0 ∨ ∃ b off, ad = ⟨b, off, none⟩ ∧ ∀ i, i < C.length → W.cell? ⟨b, off + i * 2, none⟩ = some (.int .i64 (C.getD i nop).1) ∧ W.cell? ⟨b, off + i * 2 + 1, none⟩ = some (.int .i64 (C.getD i nop).2)) :
    ∀ j u, (flatP C)[j]? = some u → W.cell? (ad.add j) = some u := by
  intro j u hj
  have hl : j < (flatP C).length := by
    rcases Nat.lt_or_ge j (flatP C).length with h' | h'
    · exact h'
    · rw [List.getElem?_eq_none h'] at hj; cases hj
  rw [flatP_len] at hl
  rcases h with h | ⟨b, off, rfl, h⟩
  · omega
  · obtain ⟨f0, f1⟩ := flatP_get C (j / 2) (by omega)
    obtain ⟨c0, c1⟩ := h (j / 2) (by omega)
    have ha : (⟨b, off, none⟩ : Addr).add j = ⟨b, off + j, none⟩ := by simp [Addr.add]
    rw [ha]
    rcases (show j % 2 = 0 ∨ j % 2 = 1 by omega) with e | e
    · have e2 : j / 2 * 2 = j := by omega
      rw [e2, hj] at f0
      rw [show off + j = off + j / 2 * 2 by omega, f0, c0]
    · have e2 : j / 2 * 2 + 1 = j := by omega
      rw [e2, hj] at f1
      rw [show off + j = off + j / 2 * 2 + 1 by omega, f1, c1]

set_option maxRecDepth 100000 in
set_option maxHeartbeats 4000000 in
theorem l4_any (u v : Value) (A B : List Pid) (w : World) (h : Ids w u A) (g : Ids w v B) (ha : A.length ≤ 12) (hb : B.length ≤ 12) :
    Calls Tryd.prog 35 #[u, v] w (L4Post (joinP A B) w) := by
  obtain ⟨i0, hi, hz0, hz1, hz2⟩ := info_parts infoP
  obtain ⟨a, cap, rfl, h1, h2, h3⟩ := h
  obtain ⟨a', cap', hv, g1, g2, g3⟩ := g
  obtain ⟨n, hn⟩ : ∃ n, Hid (A.length = n) := ⟨_, Lib.hid rfl⟩
  obtain ⟨m, hm⟩ : ∃ n, Hid (B.length = n) := ⟨_, Lib.hid rfl⟩
  rw [hn.out] at h1 ha ⊢
  rw [hm.out] at hv g1 hb
  subst hv
  have h3 := Lib.hid h3
  have g3 := Lib.hid g3
  clear h2 g2
  have R0 := Lib.hid (row_new w w.heap.size (Nat.le_refl _))
  have B0 : Hid (Below w.heap.size w (w.alloc (.cells #[] 31))) := Lib.hid ((Below.refl _ _).alloc (Nat.le_refl _) _)
  obtain ⟨K, hK⟩ : ∃ K : World → Value → Nat → World → Prop, K = fun w v n w' => ∃ b, w.heap.size ≤ b ∧ OwnP w' b v (joinP A (B.take n)) ∧ Below w.heap.size w w' := ⟨_, rfl⟩
  have hstart : ∀ v' w1, Row w1 w.heap.size v' A → Below w.heap.size w w1 → Hid (K w v' 0 w1) := fun v' w1 hR hD => Lib.hid (by
    rw [hK]
    obtain ⟨b, hb1, hb2⟩ := hR.own (by rw [hn.out]; omega)
    exact ⟨b, hb1, by rw [List.take_zero]; exact hb2, hD⟩)
  have hK := Lib.hid hK
  go_enter Tryd.func35, Tryd.ntmps35
  rcases a with _ | ad
  · have hA0 : n = 0 := by
      rcases h3.out with h | ⟨b, off, h, _⟩
      · exact hn.out.symm.trans h
      · cases h
    subst hA0
    have hA : A = [] := List.length_eq_zero_iff.1 hn.out
    have hst := hstart _ _ (by rw [hA]; exact R0.out) B0.out
    clear h3 R0 B0 hstart
    -- LOOP A
    go_wp2_with fail
    go_loopw [5, 6] (fun v i wr => ∃ k : Nat, k ≤ m ∧ i = .int .i64 k ∧ Hid (K w v k wr)) (fun _ i _ => m - (intOf i).toNat)
    case atStart => exact ⟨0, Nat.zero_le _, rfl, hst⟩
    case round =>
      obtain ⟨k, hk, rfl, hKr⟩ := hrel
      clear hst
      have hKo := hKr.out
      rw [hK.out] at hKo
      obtain ⟨gb, hgb, hO, hD⟩ := hKo
      obtain ⟨cp, hv, hcp⟩ := hO.shape
      have hjl : (joinP A (B.take k)).length ≤ 24 := by
        have := joinP_len A (B.take k)
        rw [List.length_take, hn.out] at this; omega
      clear hKr
      by_cases hlt : k < m
      · rcases g3.out with h | ⟨b, off, hab, hb1, hb2⟩
        · have := hm.out; omega
        · subst hab
          obtain ⟨h0, h1⟩ := hb2 k (by rw [hm.out]; exact hlt)
          have q0 := (hD.cell (p := ⟨b, off + k * 2, none⟩) hb1).trans h0
          have q1 := (hD.cell (p := ⟨b, off + k * 2 + 1, none⟩) hb1).trans h1
          clear h0 h1 hb2 g3
          obtain ⟨c, hc⟩ : ∃ c, Hid (B.getD k nop = c) := ⟨_, Lib.hid rfl⟩
          have hnx := Lib.hid (joinP_take (a := A) (k := k) (by rw [hm.out]; exact hlt))
          rw [hc.out] at q0 q1 hnx
          obtain ⟨p, r⟩ := c
          dsimp only at q0 q1
          have hKn : ∀ b' u w', w.heap.size ≤ b' → OwnP w' b' u (joinP A (B.take (k + 1))) → Below w.heap.size w w' → Hid (K w u (k + 1) w') := fun b' u w' x1 x2 x3 => Lib.hid (by rw [hK.out]; exact ⟨b', x1, x2, x3⟩)
          have hKn := Lib.hid hKn
          generalize joinP A (B.take k) = S at hO hv hcp hjl hnx
          subst hv
          have hgl := hO.lt
          have sp := sput_at gb 0 cp S p r wr hgl (by omega) hO.at0
          have hD := Lib.hid hD
          clear hO
          go_wp2_with fail
          refine sp.mono ?_
          rintro e w3 ⟨b', u, hb', rfl, hO2, hbl⟩
          have hb'2 := Nat.le_trans hD.out.size hb'
          have hK' := hKn.out b' u w3 hb'2 (by rw [hnx.out]; exact hO2) (bstep hD.out hbl)
          clear hbl hO2 sp q0 q1 hD
          go_wp2_with fail
          go_roundw
          case rel => exact ⟨k + 1, by omega, by go_num, hK'⟩
          case measure => simp [intOf]; omega
      · obtain rfl : k = m := by omega
        have ht : B.take k = B := List.take_of_length_le (by rw [hm.out]; exact Nat.le_refl _)
        rw [ht] at hO hv hcp hjl
        have hO := Lib.hid hO
        have hD := Lib.hid hD
        clear g3 ht hv hcp hjl
        go_wp2_with fail
        go_ret
        exact ⟨gb, _, hgb, rfl, hO.out, hD.out⟩
  · have hsrc : Hid (∀ j u, (flatP A)[j]? = some u → (w.alloc (.cells #[] 31)).cell? (ad.add j) = some u) := Lib.hid (flat_cells (by
      rcases h3.out with h | ⟨b, off, hab, hb1, hb2⟩
      · exact .inl h
      · injection hab with hab
        exact .inr ⟨b, off, hab, fun i hi' => by rw [B0.out.cell (p := ⟨b, off + i * 2, none⟩) hb1, B0.out.cell (p := ⟨b, off + i * 2 + 1, none⟩) hb1]; exact hb2 i hi'⟩))
    go_wp2_with (at_builtin; refine wpList_append_own _ rfl _ _ 23 rfl w.heap.size 31 i0 (.agg #[.int .i64 0, .int .i64 0]) 2 16 Tryd.underlying23 hi hz0 hz1 hz2 rfl (by decide) _ 0 [] rfl R0.out.1 ad n cap (flatP A) rfl ?c0 ?c1 ?c2 ?c3 ?c4 ?c5 ?_)
    case c0 => rw [flatP_len, hn.out]
    case c1 => exact hsrc.out
    case c2 => exact flatP_one A
    case c3 => unfold maxLen; omega
    case c4 => omega
    case c5 => simp
    intro v' w1 hown hgrow hnil
    have hR1 : Row w1 w.heap.size v' ([] ++ A) := ⟨by rw [List.nil_append, hn.out]; simpa using hown, fun e => hnil e⟩
    have hst := hstart v' w1 (by simpa using hR1) (B0.out.trans (grown_below R0.out hgrow (by simp)))
    clear hown hgrow hnil hR1 hsrc h3 R0 B0 hstart
    go_wp2_with fail
    go_loopw [5, 6] (fun v i wr => ∃ k : Nat, k ≤ m ∧ i = .int .i64 k ∧ Hid (K w v k wr)) (fun _ i _ => m - (intOf i).toNat)
    case atStart => exact ⟨0, Nat.zero_le _, rfl, hst⟩
    case round =>
      obtain ⟨k, hk, rfl, hKr⟩ := hrel
      clear hst
      have hKo := hKr.out
      rw [hK.out] at hKo
      obtain ⟨gb, hgb, hO, hD⟩ := hKo
      obtain ⟨cp, hv, hcp⟩ := hO.shape
      have hjl : (joinP A (B.take k)).length ≤ 24 := by
        have := joinP_len A (B.take k)
        rw [List.length_take, hn.out] at this; omega
      clear hKr
      by_cases hlt : k < m
      · rcases g3.out with h | ⟨b, off, hab, hb1, hb2⟩
        · have := hm.out; omega
        · subst hab
          obtain ⟨h0, h1⟩ := hb2 k (by rw [hm.out]; exact hlt)
          have q0 := (hD.cell (p := ⟨b, off + k * 2, none⟩) hb1).trans h0
          have q1 := (hD.cell (p := ⟨b, off + k * 2 + 1, none⟩) hb1).trans h1
          clear h0 h1 hb2 g3
          obtain ⟨c, hc⟩ : ∃ c, Hid (B.getD k nop = c) := ⟨_, Lib.hid rfl⟩
          have hnx := Lib.hid (joinP_take (a := A) (k := k) (by rw [hm.out]; exact hlt))
          rw [hc.out] at q0 q1 hnx
          obtain ⟨p, r⟩ := c
          dsimp only at q0 q1
          have hKn : ∀ b' u w', w.heap.size ≤ b' → OwnP w' b' u (joinP A (B.take (k + 1))) → Below w.heap.size w w' → Hid (K w u (k + 1) w') := fun b' u w' x1 x2 x3 => Lib.hid (by rw [hK.out]; exact ⟨b', x1, x2, x3⟩)
          have hKn := Lib.hid hKn
          generalize joinP A (B.take k) = S at hO hv hcp hjl hnx
          subst hv
          have hgl := hO.lt
          have sp := sput_at gb 0 cp S p r wr hgl (by omega) hO.at0
          have hD := Lib.hid hD
          clear hO
          go_wp2_with fail
          refine sp.mono ?_
          rintro e w3 ⟨b', u, hb', rfl, hO2, hbl⟩
          have hb'2 := Nat.le_trans hD.out.size hb'
          have hK' := hKn.out b' u w3 hb'2 (by rw [hnx.out]; exact hO2) (bstep hD.out hbl)
          clear hbl hO2 sp q0 q1 hD
          go_wp2_with fail
          go_roundw
          case rel => exact ⟨k + 1, by omega, by go_num, hK'⟩
          case measure => simp [intOf]; omega
      · obtain rfl : k = m := by omega
        have ht : B.take k = B := List.take_of_length_le (by rw [hm.out]; exact Nat.le_refl _)
        rw [ht] at hO hv hcp hjl
        have hO := Lib.hid hO
        have hD := Lib.hid hD
        clear g3 ht hv hcp hjl
        go_wp2_with fail
        go_ret
        exact ⟨gb, _, hgb, rfl, hO.out, hD.out⟩
end Go.Proofs.YtigaepbhbfpijaaDoor

/- The program's DepsJoin. -/
namespace Go.Proofs.YtigaepbhbfpijaaDoor
open Go.RowKit
set_option linter.unusedVariables false

/-- What a join leaves. -/
def JoinPost (R : List Pid × Bool) (w : World) (e : Ending) (w' : World) : Prop :=
  ∃ b u, w.heap.size ≤ b ∧ e = .returned (.tuple #[u, .bool R.2]) ∧ OwnP w' b u R.1 ∧ Below w.heap.size w w'

theorem joinF_lt {f g : Nat → Nat} (hf : ∀ r, f r < 2251799813685248) (hg : ∀ r, g r < 2251799813685248) (r : Nat) : joinF f g r < 2251799813685248 :=
  Nat.or_lt_two_pow (n := 51) (hf r) (hg r)

set_option maxRecDepth 100000 in
set_option maxHeartbeats 4000000 in
theorem djoin_any (u v : Value) (A B : List Pid) (w : World) (h : Ids w u A) (g : Ids w v B) (hT : TabIn w) :
    Calls Tryd.prog 12 #[u, v] w (JoinPost (joinR A B) w) := by
  have h := Lib.hid h
  have g := Lib.hid g
  have hT := Lib.hid hT
  have sj := fun w => join_any (setF A) (setF B) w (setF_lt A) (setF_lt B)
  have sm := fun w => many_any (joinF (setF A) (setF B)) w (joinF_lt (setF_lt A) (setF_lt B))
  have si := fun w h => idso_any (joinF (setF A) (setF B)) w (joinF_lt (setF_lt A) (setF_lt B)) h
  have hval : Hid (srtB A = true → srtB B = true → idsO (joinF (setF A) (setF B)) = joinP A B) := Lib.hid idsO_join
  have hlen := idsO_len (joinF (setF A) (setF B))
  obtain ⟨f, hf⟩ : ∃ f, Hid (setF A = f) := ⟨_, Lib.hid rfl⟩
  obtain ⟨f', hf'⟩ : ∃ f', Hid (setF B = f') := ⟨_, Lib.hid rfl⟩
  rw [hf.out, hf'.out] at sj sm si hval hlen
  obtain ⟨j, hj⟩ : ∃ j, Hid (joinF f f' = j) := ⟨_, Lib.hid rfl⟩
  rw [hj.out] at sj sm si hval hlen
  obtain ⟨mn, hmn⟩ : ∃ n, Hid (manyN j = n) := ⟨_, Lib.hid rfl⟩
  rw [hmn.out] at sm hlen
  clear hmn
  have hlen := Lib.hid hlen
  obtain ⟨qa, hqa⟩ : ∃ q, Hid (srtB A = q) := ⟨_, Lib.hid rfl⟩
  obtain ⟨qb, hqb⟩ : ∃ q, Hid (srtB B = q) := ⟨_, Lib.hid rfl⟩
  obtain ⟨S, fl, hR⟩ : ∃ S fl, Hid (joinR A B = (S, fl)) := ⟨_, _, Lib.hid rfl⟩
  rw [hR.out]
  unfold setV at sj sm si
  go_enter Tryd.func12, Tryd.ntmps12
  go_wp2_with fail
  refine (iset_any u A _ h.out).mono ?_
  rintro e w1 ⟨rfl, hb⟩
  rw [hf.out, hqa.out]
  have D1 := Lib.hid (hb.alloc hb.size (.cells #[.int .u64 (f 0), .int .u64 (f 1), .int .u64 (f 2), .int .u64 (f 3), .int .u64 (f 4)] 47))
  have A1 : Hid (Set5 (w1.alloc (.cells #[.int .u64 (f 0), .int .u64 (f 1), .int .u64 (f 2), .int .u64 (f 3), .int .u64 (f 4)] 47)) w1.heap.size f) := Lib.hid (heap_alloc_new w1 _)
  have g1 := Lib.hid (g.out.up D1.out (Nat.le_refl _))
  clear hb h g
  unfold setV
  go_wp2_with fail
  refine (iset_any v B _ g1.out).mono ?_
  rintro e w2 ⟨rfl, hb⟩
  rw [hf'.out, hqb.out]
  unfold setV
  have hs1 : w1.heap.size < w2.heap.size := Nat.lt_of_lt_of_le (by simp) hb.size
  have A2 := A1.out.up hb (by simp)
  have A3 := A2.up ((Below.refl _ _).alloc (Nat.le_refl _) (.cells #[.int .u64 (f' 0), .int .u64 (f' 1), .int .u64 (f' 2), .int .u64 (f' 3), .int .u64 (f' 4)] 47)) hs1
  have B3 : Set5 (w2.alloc (.cells #[.int .u64 (f' 0), .int .u64 (f' 1), .int .u64 (f' 2), .int .u64 (f' 3), .int .u64 (f' 4)] 47)) w2.heap.size f' := heap_alloc_new w2 _
  have D2 := bstep D1.out hb
  have D2 := Lib.hid (D2.alloc D2.size (.cells #[.int .u64 (f' 0), .int .u64 (f' 1), .int .u64 (f' 2), .int .u64 (f' 3), .int .u64 (f' 4)] 47))
  obtain ⟨x0, x1, x2, x3, x4⟩ := A2.five
  clear hb A1 A2 A3 B3 D1 g1
  go_wp2_with fail
  refine (sj _).mono ?_
  rintro e w3 ⟨rfl, hb⟩
  have D3 := bstep D2.out hb
  have C3 : Hid (Set5 (w3.alloc (.cells #[.int .u64 (j 0), .int .u64 (j 1), .int .u64 (j 2), .int .u64 (j 3), .int .u64 (j 4)] 47)) w3.heap.size j) := Lib.hid (heap_alloc_new w3 _)
  have N3 := Lib.hid (ownP_nil (w3.alloc (.cells #[.int .u64 (j 0), .int .u64 (j 1), .int .u64 (j 2), .int .u64 (j 3), .int .u64 (j 4)] 47)) 31)
  have hs3 := D3.size
  have D3 := Lib.hid (D3.alloc D3.size (.cells #[.int .u64 (j 0), .int .u64 (j 1), .int .u64 (j 2), .int .u64 (j 3), .int .u64 (j 4)] 47))
  clear hb D2 sj x0 x1 x2 x3 x4
  cases qa
  · have hR2 := hR.out
    rw [joinR_1 hqa.out] at hR2
    injection hR2 with hS hfl
    subst hS hfl
    clear sm si hval hlen
    go_wp2_with fail
    go_ret2
    exact ⟨w3.heap.size + 1, _, by omega, rfl, by simpa using N3.out, D3.out.alloc D3.out.size _⟩
  · cases qb
    · have hR2 := hR.out
      rw [joinR_2 hqb.out] at hR2
      injection hR2 with hS hfl
      subst hS hfl
      clear sm si hval hlen
      go_wp2_with fail
      go_ret2
      exact ⟨w3.heap.size + 1, _, by omega, rfl, by simpa using N3.out, D3.out.alloc D3.out.size _⟩
    · have hv := hval.out hqa.out hqb.out
      have hl := hlen.out
      rw [hv] at hl
      by_cases h12 : mn ≤ 12
      · have hR2 := hR.out
        rw [joinR_t hqa.out hqb.out (by rw [hl]; exact h12)] at hR2
        injection hR2 with hS hfl
        subst hfl
        have hS := Lib.hid hS
        have hv := Lib.hid hv
        have h12' : ¬ 12 < mn := by omega
        clear hlen hval hl N3
        go_wp2_with fail
        refine (sm _).mono ?_
        rintro e w4 ⟨rfl, hb⟩
        have D4 := Lib.hid (bstep D3.out hb)
        have C4 := C3.out.up hb (by simp)
        obtain ⟨x0, x1, x2, x3, x4⟩ := C4.five
        clear hb D3 C3 C4 sm
        go_wp2_with fail
        refine (si _ (hT.out.up D4.out (Nat.le_refl _))).mono ?_
        rintro e w5 ⟨bb, uu, hbb, rfl, hO, hb⟩
        have D5 := Lib.hid (bstep D4.out hb)
        have hbb2 := Nat.le_trans D4.out.size hbb
        rw [hv.out, hS.out] at hO
        have hO := Lib.hid hO
        clear hb D4 si x0 x1 x2 x3 x4
        go_wp2_with fail
        go_ret2
        exact ⟨bb, _, hbb2, rfl, hO.out, D5.out⟩
      · have hR2 := hR.out
        rw [joinR_3 (by rw [hl]; exact h12)] at hR2
        injection hR2 with hS hfl
        subst hS hfl
        have h12' : 12 < mn := by omega
        clear hlen hval hl hv si N3
        go_wp2_with fail
        refine (sm _).mono ?_
        rintro e w4 ⟨rfl, hb⟩
        have D4 := Lib.hid (bstep D3.out hb)
        have N4 := Lib.hid (ownP_nil w4 31)
        have s4 := D4.out.size
        clear hb D3 C3 sm
        go_wp2_with fail
        go_ret2
        exact ⟨w4.heap.size, _, s4, rfl, N4.out, D4.out.alloc D4.out.size _⟩
end Go.Proofs.YtigaepbhbfpijaaDoor

/- The model's DepsJoin. -/
namespace Go.Proofs.YtigaepbhbfpijaaDoor
open Go.RowKit
set_option linter.unusedVariables false

set_option maxRecDepth 100000 in
set_option maxHeartbeats 4000000 in
theorem sdj_any (u v : Value) (A B : List Pid) (w : World) (h : Ids w u A) (g : Ids w v B) :
    Calls Tryd.prog 13 #[u, v] w (JoinPost (joinR A B) w) := by
  have h := Lib.hid h
  have g := Lib.hid g
  obtain ⟨qa, hqa⟩ : ∃ q, Hid (srtB A = q) := ⟨_, Lib.hid rfl⟩
  obtain ⟨qb, hqb⟩ : ∃ q, Hid (srtB B = q) := ⟨_, Lib.hid rfl⟩
  obtain ⟨S, fl, hR⟩ : ∃ S fl, Hid (joinR A B = (S, fl)) := ⟨_, _, Lib.hid rfl⟩
  rw [hR.out]
  have s1 := fun w h => sval_any u A w h
  rw [hqa.out] at s1
  cases qa
  · have hR2 := hR.out
    rw [joinR_1 hqa.out] at hR2
    injection hR2 with hS hfl
    subst hS hfl
    go_enter Tryd.func13, Tryd.ntmps13
    go_wp2_with fail
    refine (s1 _ h.out).mono ?_
    rintro e w1 ⟨rfl, hb⟩
    have D1 := Lib.hid hb
    have s4 := hb.size
    have N1 := Lib.hid (ownP_nil w1 31)
    clear hb h g
    go_wp2_with fail
    go_ret2
    exact ⟨w1.heap.size, _, s4, rfl, N1.out, D1.out.alloc D1.out.size _⟩
  · have s2 := fun w h => sval_any v B w h
    rw [hqb.out] at s2
    cases qb
    · have hR2 := hR.out
      rw [joinR_2 hqb.out] at hR2
      injection hR2 with hS hfl
      subst hS hfl
      go_enter Tryd.func13, Tryd.ntmps13
      go_wp2_with fail
      refine (s1 _ h.out).mono ?_
      rintro e w1 ⟨rfl, hb⟩
      replace g := Lib.hid (g.out.up hb (Nat.le_refl _))
      have D := Lib.hid hb
      clear hb h
      go_wp2_with fail
      refine (s2 _ g.out).mono ?_
      rintro e w2 ⟨rfl, hb⟩
      replace D := Lib.hid (bstep D.out hb)
      have s4 := D.out.size
      have N1 := Lib.hid (ownP_nil w2 31)
      clear hb g
      go_wp2_with fail
      go_ret2
      exact ⟨w2.heap.size, _, s4, rfl, N1.out, D.out.alloc D.out.size _⟩
    · have hla : A.length ≤ 12 := (srt_of hqa.out).1
      have hlb : B.length ≤ 12 := (srt_of hqb.out).1
      have hla := Lib.hid hla
      have hlb := Lib.hid hlb
      go_enter Tryd.func13, Tryd.ntmps13
      go_wp2_with fail
      refine (s1 _ h.out).mono ?_
      rintro e w1 ⟨rfl, hb⟩
      replace h := Lib.hid (h.out.up hb (Nat.le_refl _))
      replace g := Lib.hid (g.out.up hb (Nat.le_refl _))
      have D := Lib.hid hb
      clear hb
      go_wp2_with fail
      refine (s2 _ g.out).mono ?_
      rintro e w2 ⟨rfl, hb⟩
      replace h := Lib.hid (h.out.up hb (Nat.le_refl _))
      replace g := Lib.hid (g.out.up hb (Nat.le_refl _))
      replace D := Lib.hid (bstep D.out hb)
      clear hb
      go_wp2_with fail
      refine (l4_any u v A B _ h.out g.out hla.out hlb.out).mono ?_
      rintro e w3 ⟨bb, uu, hbb, rfl, hO, hb⟩
      have hbb2 := Nat.le_trans D.out.size hbb
      replace D := Lib.hid (bstep D.out hb)
      obtain ⟨cp, hv, hcp⟩ := hO.shape
      have hjl : (joinP A B).length ≤ 24 := by
        have := joinP_len A B
        have := hla.out; have := hlb.out; omega
      have h3 := fun hl => joinR_t (a := A) (b := B) hqa.out hqb.out hl
      have h4 := fun hl => joinR_3 (a := A) (b := B) hl
      rw [hR.out] at h3 h4
      have h3 := Lib.hid h3
      have h4 := Lib.hid h4
      generalize joinP A B = J at hO hv hcp hjl h3 h4
      subst hv
      have hO := Lib.hid hO
      clear hb h g
      by_cases h12 : J.length ≤ 12
      · have hR2 := h3.out h12
        injection hR2 with hS hfl
        subst hfl hS
        have h12' : ¬ 12 < S.length := by omega
        clear h3 h4
        go_wp2_with fail
        go_ret2
        exact ⟨bb, _, hbb2, rfl, hO.out, D.out⟩
      · have hR2 := h4.out h12
        injection hR2 with hS hfl
        subst hS hfl
        have h12' : 12 < J.length := by omega
        have s4 := D.out.size
        have N1 := Lib.hid (ownP_nil w3 31)
        clear h3 h4
        go_wp2_with fail
        go_ret2
        exact ⟨w3.heap.size, _, s4, rfl, N1.out, D.out.alloc D.out.size _⟩
end Go.Proofs.YtigaepbhbfpijaaDoor
