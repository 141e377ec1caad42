/- Texts laid together. -/
import Derived.Test.YtfcjhojkfchccaaDoorCards
import Derived.Test.YtfcjhojkfchccaaDoorTie
import Derived.Test.YtfcjhojkfchccaaDoorC21
import Derived.Test.YtfcjhojkfchccaaDoorC06
import Derived.ProofKit
import Derived.OpenShut
import Derived.ChangeOld
import Derived.Stop.LaidErr
import Derived.Deep.DeepHandedRow
import Derived.Deep.DeepWitnessRowRef
import Derived.LaidMore
import Derived.Lib.LaidTab
import Derived.Lib.SmallJoins
import Derived.Test.YtfcjhojkfchccaaDoorC10
import Derived.Test.YtfcjhojkfchccaaDoorC27
import Derived.Test.YtfcjhojkfchccaaDoorC23
import Derived.Test.YtfcjhojkfchccaaDoorC30
import Derived.Test.YtfcjhojkfchccaaDoorC32
import Derived.Test.YtfcjhojkfchccaaDoorC33
/- (FrameT without ids.) What the frames of the door seat of sets use: what the listed variable (math/bits' table) gives. (doorLaid's number: as the seat's Tie has it.) -/
namespace Go.Proofs.YtfcjhojkfchccaaDoor
open Go.ChangeShapes Go.WideShapes Go.ChangeAt Go.RowKit
set_option linter.unusedVariables false
set_option maxRecDepth 100000

theorem g_tab : Tryd.prog.globalNamed "math/bits.deBruijn64tab" = some 0 := by kernel_rfl
theorem gt_tab : (Tryd.prog.globals[0]?).map (·.type) = some 127 := by kernel_rfl
theorem c_tab : Tryd.prog.cellsOf 127 = 64 := by kernel_rfl
theorem c_u8 : Tryd.prog.cellsOf 5 = 1 := by kernel_rfl

/-- The table's numbers. -/
def tabZ : List Int := Lib.deBruijn64tab.map fun n : Nat => (n : Int)
/-- The rows' list. -/
def listed : List (String × DataW Unit) := [("math/bits.deBruijn64tab", Lib.tabData .u8 tabZ)]

theorem gl_of {W : World} (h : laidMetH Tryd.prog listed W) (hs : W.ShapedOpen Tryd.prog) : TabIn W := by
  have h : laidMet Tryd.prog listed W := by
    rw [MakeChecks.laidMetH_plain _ _ _ (by kernel_rfl)] at h; exact h
  have ht := Lib.tabIs_of_head (zs := tabZ) g_tab gt_tab Tryd.underlying127 Tryd.underlying5 c_u8 c_tab h
  intro j hj
  have hc := World.var?_cell g_tab ht j
  rw [hc, List.getElem?_toArray, List.getElem?_map]
  unfold tabZ
  rw [List.getElem?_map, List.getElem?_eq_getElem hj, List.getD_eq_getElem?_getD, List.getElem?_eq_getElem hj]
  rfl

/-- A world for the witness: as the door leaves it. -/
noncomputable def laidWorld (os : Os) : World := World.doorLaid Tryd.prog 14 os
theorem laid_met (os : Os) (args : Array Value) : laidMet Tryd.prog listed ((laidWorld os).forCall (fun _ _ => 0) ⟨#[], args, []⟩).memory :=
  laidMet_of_run' 8 (by kernel_rfl) (by kernel_rfl)
end Go.Proofs.YtfcjhojkfchccaaDoor

/- The draw of an entry and answers: DrawAnswersJoin. -/
namespace Go.Proofs.YtfcjhojkfchccaaDoor
open Go.RowKit
set_option linter.unusedVariables false

/-- What a draw of an entry and of answers leaves. -/
def DajP (w : World) (e : Ending) (w' : World) : Prop :=
  ∃ X u E v, e = .returned (.tuple #[env X u, v]) ∧ Ids w' u X.deps ∧ X.deps.length ≤ 3 ∧ Ens w' v E ∧ E.length ≤ 4 ∧ Below w.heap.size w w'
theorem en_resDj (tm : Array Value) (w : World) (b : Nat) (v x0 x1 x2 x3 x4 x5 x6 x7 x8 : Value) (t : TypeId) (h1 : tm[2]? = some (.pointer (some ⟨b, 0, none⟩))) (h2 : tm[3]? = some v) (h : w.heap[b]? = some (.cells #[x0, x1, x2, x3, x4, x5, x6, x7, x8] t (0, 0))) :
    (results Tryd.f8 tm).run Tryd.prog w = .ok (.tuple #[.agg #[x0, x1, x2, x3, x4, x5, x6, x7, x8], v]) w := by
  obtain ⟨t0, t1, t2, t3, t4, t5, t6, t7, t8⟩ := nine_cells h
  simp [results, Tryd.results8, go_sem, h1, h2, t0, t1, t2, t3, t4, t5, t6, t7, t8]
set_option maxRecDepth 100000 in
set_option maxHeartbeats 8000000 in
theorem daj_any (a : Option Addr) (len cap : Nat) (w : World) (hc : CodeIn w a len cap) (hcap : cap ≤ maxLen) :
    Calls Tryd.prog 8 #[.slice a len cap] w (DajP w) := by
  have al := (Below.refl w.heap.size w).alloc (Nat.le_refl _) (.cells #[.int .i64 0, .int .i64 0, .int .i64 0, .int .i64 0, .int .i64 0, .int .i64 0, .int .i64 0, .int .i64 0, .slice none 0 0] 29)
  have hc := Lib.hid (hc.up al)
  replace al := Lib.hid al
  have Z := Lib.hid (heap_alloc_new w (.cells #[.int .i64 0, .int .i64 0, .int .i64 0, .int .i64 0, .int .i64 0, .int .i64 0, .int .i64 0, .int .i64 0, .slice none 0 0] 29))
  go_enter Tryd.func8, Tryd.ntmps8
  go_wp2_with fail
  refine (open_any a len cap _ hc.out hcap).mono ?_
  rintro e w1 ⟨r, rfl, hr0, hr', hb'⟩
  have s1 : w.heap.size + 1 ≤ w1.heap.size := by simpa using hb'.size
  have hr0' : w.heap.size + 1 ≤ r := by simpa using hr0
  replace Z := Lib.hid ((hb'.block w.heap.size (by simp)).trans Z.out)
  have D1 : Hid (Below w.heap.size w w1) := Lib.hid (al.out.trans (hb'.mono (by simp)))
  have hr1 := Lib.hid hr'
  have hrl := hr'.lt
  clear hr' hb' hc al hr0
  go_wp2_with fail
  refine (dan_any r 0 _ hr1.out (by omega)).mono ?_
  rintro e w2 ⟨X, u, ib, E, v, B, rfl, hib, hO, hd, hB, hE, hEl, hr', hk'⟩
  obtain ⟨ua, un, uc, rfl⟩ : ∃ ua un uc, u = .slice ua un uc := by obtain ⟨c, e, _⟩ := hO.shape; exact ⟨_, _, _, e⟩
  obtain ⟨vg, vc, rfl⟩ : ∃ g c, v = .slice (some ⟨g, 0, none⟩) E.length c := by obtain ⟨g, c, _, _, e, _⟩ := hE; exact ⟨g, c, e⟩
  have s2 := hk'.size
  replace Z := Lib.hid ((hk'.block w.heap.size (by omega) (by omega)).trans Z.out)
  have D2 := Lib.hid (D1.out.trans ((hk'.mono (by omega)).below (B := w.heap.size) (by omega)))
  have hO2 := Lib.hid (hO.same (put9_other (w := w2) (b := w.heap.size) (c := ib) (.int .i64 X.id.1) (.int .i64 X.id.2) (.int .i64 X.bal) (.int .i64 X.st) (.int .i64 X.k) (.int .i64 X.key) (.int .i64 X.v) (.int .i64 X.seq) (.slice ua un uc) (by omega)))
  have hE2 := Lib.hid (hE.hold1 (w' := (((((((((w2.setCell ⟨w.heap.size, 0, none⟩ (.int .i64 X.id.1)).setCell ⟨w.heap.size, 1, none⟩ (.int .i64 X.id.2)).setCell ⟨w.heap.size, 2, none⟩ (.int .i64 X.bal)).setCell ⟨w.heap.size, 3, none⟩ (.int .i64 X.st)).setCell ⟨w.heap.size, 4, none⟩ (.int .i64 X.k)).setCell ⟨w.heap.size, 5, none⟩ (.int .i64 X.key)).setCell ⟨w.heap.size, 6, none⟩ (.int .i64 X.v)).setCell ⟨w.heap.size, 7, none⟩ (.int .i64 X.seq)).setCell ⟨w.heap.size, 8, none⟩ (.slice ua un uc))) (fun b hb => put9_other _ _ _ _ _ _ _ _ _ (by omega)))
  clear hO hE hr' hk' hr1 D1
  unfold env
  obtain ⟨⟨z0, z1, z2, z3, z4, z5, z6, z7, z8⟩, ⟨g0, g1, g2, g3, g4, g5, g6, g7, g8⟩, zl⟩ := nine_all Z.out
  go_wp2_with fail
  exact bodyPost_ret (en_resDj _ _ _ _ _ _ _ _ _ _ _ _ _ _ rfl rfl (put9_at (.int .i64 X.id.1) (.int .i64 X.id.2) (.int .i64 X.bal) (.int .i64 X.st) (.int .i64 X.k) (.int .i64 X.key) (.int .i64 X.v) (.int .i64 X.seq) (.slice ua un uc) Z.out)) rfl ⟨X, _, E, _, rfl, hO2.out.read, hd, hE2.out.read, hEl, D2.out.trans (put9_below _ _ _ _ _ _ _ _ _ (Nat.le_refl _))⟩
end Go.Proofs.YtfcjhojkfchccaaDoor

/- The walk of FnAnswersJoin. -/
namespace Go.Proofs.YtfcjhojkfchccaaDoor
open Go.RowKit
set_option linter.unusedVariables false

set_option maxRecDepth 100000 in
set_option maxHeartbeats 16000000 in
theorem answersJoin_any (a : Option Addr) (len cap : Nat) (w : World) (hc : CodeIn w a len cap) (hcap : cap ≤ maxLen) (hT : TabIn w) :
    Calls Tryd.prog 3 #[.slice a len cap] w fun e w' => e = .returned (.bool true) ∧ Below w.heap.size w w' := by
  have dn := daj_any a len cap w hc hcap
  by_cases hlen : 1048576 < len
  · go_enter Tryd.func3, Tryd.ntmps3
    go_wp2_with fail
    go_ret
    exact ⟨rfl, Below.refl _ _⟩
  · replace hT := Lib.hid hT
    go_enter Tryd.func3, Tryd.ntmps3
    go_wp2_with fail
    refine dn.mono ?_
    rintro e w1 ⟨X, u, E, v, rfl, hI, hd, hE, hl4, B⟩
    obtain ⟨ua, un, uc, rfl⟩ : ∃ ua un uc, u = .slice ua un uc := by obtain ⟨a, c, e, _⟩ := hI; exact ⟨a, _, c, e⟩
    obtain ⟨va, vc, rfl⟩ : ∃ a c, v = .slice a E.length c := by obtain ⟨a, c, e, _⟩ := hE; exact ⟨a, c, e⟩
    obtain ⟨l, hl⟩ : ∃ l, Hid (E.length = l) := ⟨_, Lib.hid rfl⟩
    have BA := (Below.refl w1.heap.size w1).alloc (Nat.le_refl _) (.cells #[.int .i64 X.id.1, .int .i64 X.id.2, .int .i64 X.bal, .int .i64 X.st, .int .i64 X.k, .int .i64 X.key, .int .i64 X.v, .int .i64 X.seq, .slice ua un uc] 29)
    have A := Lib.hid (heap_alloc_new w1 (.cells #[.int .i64 X.id.1, .int .i64 X.id.2, .int .i64 X.bal, .int .i64 X.st, .int .i64 X.k, .int .i64 X.key, .int .i64 X.v, .int .i64 X.seq, .slice ua un uc] 29))
    have D := Lib.hid (bstep B BA)
    have I2 := Lib.hid (hI.up BA (Nat.le_refl _))
    have E2 := Lib.hid (hE.up BA (Nat.le_refl _))
    have T2 := Lib.hid (TabIn.up hT.out D.out (Nat.le_refl _))
    clear B BA hI hE dn hT
    rw [hl.out] at E2 hl4 ⊢
    unfold env
    go_upto_region 4 with fail
    generalize w1.heap.size = ob at A ⊢
    generalize w1.alloc (.cells #[.int .i64 X.id.1, .int .i64 X.id.2, .int .i64 X.bal, .int .i64 X.st, .int .i64 X.k, .int .i64 X.key, .int .i64 X.v, .int .i64 X.seq, .slice ua un uc] 29) = w2 at A D I2 E2 T2 ⊢
    have ia := iaj_any X (.slice ua un uc) (.slice va l vc) E w2 T2.out I2.out E2.out
    have sa := fun W (hb : Below w2.heap.size w2 W) => saj_any X (.slice ua un uc) (.slice va l vc) E W (I2.out.up hb (Nat.le_refl _)) (E2.out.up hb (Nat.le_refl _))
    unfold AjP at ia
    unfold SjP at sa
    obtain ⟨⟨Y, q⟩, hR⟩ : ∃ r, Hid (ansR X E = r) := ⟨_, Lib.hid rfl⟩
    simp only [hR.out] at sa
    rw [hR.out] at ia
    dsimp only at ia sa
    unfold env at ia sa
    obtain ⟨⟨y0, y1, y2, y3, y4, y5, y6, y7, y8⟩, _, yl⟩ := nine_all A.out
    go_wp2_with fail
    refine ia.mono ?_
    rintro e w3 ⟨u5, rfl, O5, B⟩
    obtain ⟨va5, vn5, vc5, rfl⟩ : ∃ ua un uc, u5 = .slice ua un uc := by obtain ⟨a, c, e, _⟩ := O5.read; exact ⟨a, _, c, e⟩
    have BA := (Below.refl w3.heap.size w3).alloc (Nat.le_refl _) (.cells #[.int .i64 Y.id.1, .int .i64 Y.id.2, .int .i64 Y.bal, .int .i64 Y.st, .int .i64 Y.k, .int .i64 Y.key, .int .i64 Y.v, .int .i64 Y.seq, .slice va5 vn5 vc5] 29)
    have G5 := Lib.hid (heap_alloc_new w3 (.cells #[.int .i64 Y.id.1, .int .i64 Y.id.2, .int .i64 Y.bal, .int .i64 Y.st, .int .i64 Y.k, .int .i64 Y.key, .int .i64 Y.v, .int .i64 Y.seq, .slice va5 vn5 vc5] 29))
    have F := Lib.hid (bstep B BA)
    have A4 := Lib.hid (bblk F.out (lt_of_heap A.out) A.out)
    have I5 := Lib.hid (O5.read.up BA (Nat.le_refl _))
    clear ia B BA O5 y0 y1 y2 y3 y4 y5 y6 y7 y8 yl
    go_upto_region 5 with fail
    generalize w3.heap.size = xb5 at G5 ⊢
    generalize w3.alloc (.cells #[.int .i64 Y.id.1, .int .i64 Y.id.2, .int .i64 Y.bal, .int .i64 Y.st, .int .i64 Y.k, .int .i64 Y.key, .int .i64 Y.v, .int .i64 Y.seq, .slice va5 vn5 vc5] 29) = w4 at G5 F A4 I5 ⊢
    obtain ⟨⟨y0, y1, y2, y3, y4, y5, y6, y7, y8⟩, _, yl⟩ := nine_all A4.out
    go_wp2_with fail
    refine (sa _ F.out).mono ?_
    rintro e w5 ⟨u6, rfl, O6, B⟩
    obtain ⟨va6, vn6, vc6, rfl⟩ : ∃ ua un uc, u6 = .slice ua un uc := by obtain ⟨a, c, e, _⟩ := O6; exact ⟨a, _, c, e⟩
    have BA := (Below.refl w5.heap.size w5).alloc (Nat.le_refl _) (.cells #[.int .i64 Y.id.1, .int .i64 Y.id.2, .int .i64 Y.bal, .int .i64 Y.st, .int .i64 Y.k, .int .i64 Y.key, .int .i64 Y.v, .int .i64 Y.seq, .slice va6 vn6 vc6] 29)
    have G6 := Lib.hid (heap_alloc_new w5 (.cells #[.int .i64 Y.id.1, .int .i64 Y.id.2, .int .i64 Y.bal, .int .i64 Y.st, .int .i64 Y.k, .int .i64 Y.key, .int .i64 Y.v, .int .i64 Y.seq, .slice va6 vn6 vc6] 29))
    have B2 := bstep B BA
    replace F := Lib.hid (bstep F.out B2)
    replace A4 := Lib.hid (bblk B2 (lt_of_heap A4.out) A4.out)
    replace G5 := Lib.hid (bblk B2 (lt_of_heap G5.out) G5.out)
    replace I5 := Lib.hid (I5.out.up B2 (Nat.le_refl _))
    have I6 := Lib.hid (O6.up BA (Nat.le_refl _))
    clear sa B BA B2 O6 y0 y1 y2 y3 y4 y5 y6 y7 y8 yl A
    go_upto_region 6 with fail
    generalize w5.heap.size = xb6 at G6 ⊢
    generalize w5.alloc (.cells #[.int .i64 Y.id.1, .int .i64 Y.id.2, .int .i64 Y.bal, .int .i64 Y.st, .int .i64 Y.k, .int .i64 Y.key, .int .i64 Y.v, .int .i64 Y.seq, .slice va6 vn6 vc6] 29) = w6 at G5 G6 F A4 I5 I6 ⊢
    have se := fun W (hb : Below w6.heap.size w6 W) => sameE_one Y (.slice va5 vn5 vc5) (.slice va6 vn6 vc6) W (I5.out.up hb (Nat.le_refl _)) (I6.out.up hb (Nat.le_refl _))
    unfold env at se
    obtain ⟨⟨p0, p1, p2, p3, p4, p5, p6, p7, p8⟩, _, pl⟩ := nine_all G5.out
    obtain ⟨⟨r0, r1, r2, r3, r4, r5, r6, r7, r8⟩, _, rl⟩ := nine_all G6.out
    go_wp2_with fail
    refine (se _ (Below.refl _ _)).mono ?_
    rintro e w7 ⟨rfl, B⟩
    have K7 := Lib.hid B
    clear B p0 p1 p2 p3 p4 p5 p6 p7 p8 pl r0 r1 r2 r3 r4 r5 r6 r7 r8 rl
    cases q
    · have G5b := bblk K7.out (lt_of_heap G5.out) G5.out
      have G6b := bblk K7.out (lt_of_heap G6.out) G6.out
      obtain ⟨⟨p0, p1, p2, p3, p4, p5, p6, p7, p8⟩, _, pl⟩ := nine_all G5b
      obtain ⟨⟨r0, r1, r2, r3, r4, r5, r6, r7, r8⟩, _, rl⟩ := nine_all G6b
      clear G5b G6b
      go_wp2_with fail
      refine (se _ K7.out).mono ?_
      rintro e w8 ⟨rfl, B⟩
      have D9 := Lib.hid (bstep D.out (bstep F.out (bstep K7.out B)))
      clear B
      go_wp2_with fail
      go_ret
      exact ⟨rfl, D9.out⟩
    · clear se
      have hP := ans_is (own := X) (A := E) (by rw [hR.out])
      rw [hR.out] at hP
      obtain ⟨hAw, hEn, hYe⟩ := hP
      have hY : Y = ansE X E := congrArg Prod.fst hYe
      have hW := ans_within (own := X) (A := E) (by rw [hR.out])
      rw [← hY] at hEn hW
      replace F := Lib.hid (bstep F.out K7.out)
      replace A4 := Lib.hid (bblk K7.out (lt_of_heap A4.out) A4.out)
      replace G5 := Lib.hid (bblk K7.out (lt_of_heap G5.out) G5.out)
      replace I5 := Lib.hid (I5.out.up K7.out (Nat.le_refl _))
      have I4 := Lib.hid (I2.out.up F.out (Nat.le_refl _))
      have E4 := Lib.hid (E2.out.up F.out (Nat.le_refl _))
      have T4 := Lib.hid (TabIn.up T2.out F.out (Nat.le_refl _))
      have D4 := Lib.hid (bstep D.out F.out)
      clear I2 E2 T2 D F G6 I6 K7 hYe
      replace hAw := Lib.hid hAw
      replace hEn := Lib.hid hEn
      replace hY := Lib.hid hY
      replace hW := Lib.hid hW
      have hkp := ansE_keep E X
      rw [← hY.out] at hkp
      have hsq := ansE_seq E X
      rw [← hY.out] at hsq
      replace hkp := Lib.hid hkp
      replace hsq := Lib.hid hsq
      clear hAw hEn hY hR
      obtain ⟨⟨y0, y1, y2, y3, y4, y5, y6, y7, y8⟩, _, yl⟩ := nine_all A4.out
      go_upto_region 10 with fail
      clear y0 y1 y2 y3 y4 y5 y6 y7 y8 yl
      go_loopw [9, 10] (fun s i wr => ∃ k : Nat, k ≤ l ∧ i = .int .i64 k ∧ s = .int .i64 (mostS X.seq (E.take k)) ∧ Hid (Below w7.heap.size w7 wr)) (fun _ i _ => l - (intOf i).toNat)
      case atStart => exact ⟨0, Nat.zero_le _, rfl, rfl, Lib.hid (Below.refl _ _)⟩
      case round =>
        obtain ⟨k, hk, rfl, rfl, hnx⟩ := hrel
        have G := Lib.hid (bblk hnx.out (lt_of_heap G5.out) G5.out)
        by_cases hkl : k < l
        · have hkE : k < E.length := by rw [hl.out]; exact hkl
          obtain ⟨b, off, U, ha, hE⟩ : ∃ b off U, va = some ⟨b, off, none⟩ ∧ EnsAt w7 b off E U := by
            obtain ⟨a9, ca9, he9, _, _, h3⟩ := E4.out
            injection he9 with e1 _ _
            rcases h3 with h3 | ⟨b, off, U, ha, hE⟩
            · have := hl.out; omega
            · exact ⟨b, off, U, e1.trans ha, hE⟩
          subst ha
          have hA := hE.up hnx.out (Nat.le_refl _)
          have hbl := hA.lt
          have hP := hA.at_ k hkE
          have hPI := (hE.at_ k hkE).ids
          obtain ⟨ya, yn, yc, hy⟩ : ∃ ua un uc, U k = .slice ua un uc := by obtain ⟨a, c, e, _⟩ := hP.ids; exact ⟨a, _, c, e⟩
          have hwk := hW.out.1 _ (enD_mem hkE)
          have hmn := mostS_next (s := X.seq) hkE
          have q7 := hP.c7
          have q8 := hP.c8
          rw [hy] at q8 hPI
          have wn := fun W (hb : Below wr.heap.size wr W) => iwin_any (.slice ya yn yc) (.slice va5 vn5 vc5) (E.getD k en0).deps Y.deps W (hPI.up (bstep hnx.out hb) (Nat.le_refl _)) (I5.out.up (bstep hnx.out hb) (Nat.le_refl _))
          simp only [hwk] at wn
          clear hA hE hP hPI hy hwk
          obtain ⟨x, hx⟩ : ∃ x, Hid ((E.getD k en0).seq = x) := ⟨_, Lib.hid rfl⟩
          obtain ⟨s, hs⟩ : ∃ s, Hid (mostS X.seq (E.take k) = s) := ⟨_, Lib.hid rfl⟩
          rw [hx.out] at q7 hmn
          rw [hs.out] at hmn ⊢
          rcases (show (x ≤ s ∧ max s x = s) ∨ (¬ x ≤ s ∧ max s x = x) by omega) with ⟨hm, e⟩ | ⟨hm, e⟩
          all_goals
            rw [e] at hmn
            replace hmn := Lib.hid hmn
            clear e
            obtain ⟨⟨p0, p1, p2, p3, p4, p5, p6, p7, p8⟩, _, pl⟩ := nine_all G.out
            go_upto_region 13 with fail
            refine wp_region_held_drew (S := fun w' => w'.cell? ⟨xb5, 8, none⟩ = some (.slice va5 vn5 vc5) ∧ w'.cell? ⟨b, off + k * 9 + 8, none⟩ = some (.slice ya yn yc) ∧ Below wr.heap.size wr w') (by kernel_rfl) ⟨p8, q8, Below.drew (Below.refl _ _)⟩ (fun hHeld => ?_)
            refine wpAnyH_take (i := 0) (oi := ⟨some 67, _, _, _, _, _⟩) (v := ?_) rfl (by kernel_rfl) (by kernel_rfl) (by kernel_rfl) (fun _ _ _ h => h) (Or.inl ⟨by rfl, ?_⟩) (by assumption) ?_
            rotate_left 1
            · intro w hSw; (try dsimp only at hSw); go_simp; try (with_reducible rfl)
            try simp only [Act.put, List.setIfInBounds_toArray, List.set_cons_zero, List.set_cons_succ]
            refine wpAnyH_take (i := 1) (oi := ⟨some 68, _, _, _, _, _⟩) (v := ?_) rfl (by kernel_rfl) (by kernel_rfl) (by kernel_rfl) (fun _ _ _ h => h) (Or.inl ⟨by rfl, ?_⟩) (by assumption) ?_
            rotate_left 1
            · intro w hSw; (try dsimp only at hSw); go_simp; try (with_reducible rfl)
            try simp only [Act.put, List.setIfInBounds_toArray, List.set_cons_zero, List.set_cons_succ]
            refine wpAnyH_take (i := 2) (oi := ⟨some 69, _, _, _, _, _⟩) (v := ?_) rfl (by kernel_rfl) (by kernel_rfl) (by kernel_rfl) (fun _ _ _ h => h) (Or.inl ⟨by rfl, ?_⟩) (by assumption) ?_
            rotate_left 1
            · intro w hSw; (try dsimp only at hSw); go_simp; try (with_reducible rfl)
            try simp only [Act.put, List.setIfInBounds_toArray, List.set_cons_zero, List.set_cons_succ]
            refine wpAnyH_take (i := 3) (oi := ⟨some 70, _, _, _, _, _⟩) (v := ?_) rfl (by kernel_rfl) (by kernel_rfl) (by kernel_rfl) (fun _ _ _ h => h) (Or.inl ⟨by rfl, ?_⟩) (by assumption) ?_
            rotate_left 1
            · intro w hSw; (try dsimp only at hSw); go_simp; try (with_reducible rfl)
            try simp only [Act.put, List.setIfInBounds_toArray, List.set_cons_zero, List.set_cons_succ]
            refine wpAnyH_take (i := 4) (oi := ⟨some 71, _, _, _, _, _⟩) (v := ?_) rfl (by kernel_rfl) (by kernel_rfl) (by kernel_rfl) (fun _ _ _ h => h) (Or.inl ⟨by rfl, ?_⟩) (by assumption) ?_
            rotate_left 1
            · intro w hSw; (try dsimp only at hSw); go_simp; try (with_reducible rfl)
            try simp only [Act.put, List.setIfInBounds_toArray, List.set_cons_zero, List.set_cons_succ]
            refine wpAnyH_take (i := 5) (oi := ⟨some 72, _, _, _, _, _⟩) (v := ?_) rfl (by kernel_rfl) (by kernel_rfl) (by kernel_rfl) (fun _ _ _ h => h) (Or.inl ⟨by rfl, ?_⟩) (by assumption) ?_
            rotate_left 1
            · intro w hSw; (try dsimp only at hSw); go_simp; try (with_reducible rfl)
            try simp only [Act.put, List.setIfInBounds_toArray, List.set_cons_zero, List.set_cons_succ]
            refine wpAnyH_take (i := 6) (oi := ⟨some 73, _, _, _, _, _⟩) (v := ?_) rfl (by kernel_rfl) (by kernel_rfl) (by kernel_rfl) (fun _ _ _ h => h) (Or.inl ⟨by rfl, ?_⟩) (by assumption) ?_
            rotate_left 1
            · intro w hSw; (try dsimp only at hSw); go_simp; try (with_reducible rfl)
            try simp only [Act.put, List.setIfInBounds_toArray, List.set_cons_zero, List.set_cons_succ]
            refine wpAnyH_ready (rs := [7]) (by kernel_rfl) (by simp) ?_
            refine AllReadyH.cons (o := ⟨some 74, _, _, _, _, _⟩) rfl (fun K hK => ?_) AllReadyH.nil
            go_simp
            with_reducible refine (wn _ hHeld.2.2).mono ?_
            rintro e wq ⟨rfl, hb⟩
            go_wp2_with fail
            refine hK.out _ _ ?_ (fun hHeld2 => ?_)
            · exact ⟨cell_later hb hHeld.1, cell_later hb hHeld.2.1, hHeld.2.2.trans (hb.mono hHeld.2.2.size)⟩
            clear hK K hHeld hb
            have hHeld := hHeld2
            clear hHeld2
            try simp only [Act.put, List.setIfInBounds_toArray, List.set_cons_zero, List.set_cons_succ]
            refine wpAnyH_take (i := 8) (oi := ⟨some 75, _, _, _, _, _⟩) (v := ?_) rfl (by kernel_rfl) (by kernel_rfl) (by kernel_rfl) (fun _ _ _ h => h) (Or.inl ⟨by rfl, ?_⟩) (by assumption) ?_
            rotate_left 1
            · intro w hSw; (try dsimp only at hSw); go_simp; try (with_reducible rfl)
            try simp only [Act.put, List.setIfInBounds_toArray, List.set_cons_zero, List.set_cons_succ]
            refine wpAnyH_done (by kernel_rfl) ?_ _
            try simp only [Act.put, List.setIfInBounds_toArray, List.set_cons_zero, List.set_cons_succ]
            have H5 := Lib.hid hHeld.2.2
            clear hHeld
            go_wp2_with fail
            go_roundw
            case rel => exact ⟨k + 1, by omega, by go_num, by rw [hmn.out], Lib.hid (bstep hnx.out H5.out)⟩
            case measure => simp [intOf]; omega
        · obtain rfl : k = l := by omega
          have ht : E.take k = E := List.take_of_length_le (by rw [hl.out]; exact Nat.le_refl _)
          rw [ht, ← hsq.out]
          have A9 := Lib.hid (bblk hnx.out (lt_of_heap A4.out) A4.out)
          have wn := fun W (hb : Below wr.heap.size wr W) => iwin_any (.slice ua un uc) (.slice va5 vn5 vc5) X.deps Y.deps W (I4.out.up (bstep hnx.out hb) (Nat.le_refl _)) (I5.out.up (bstep hnx.out hb) (Nat.le_refl _))
          simp only [hW.out.2] at wn
          obtain ⟨e1, _, _, e4, e5, e6⟩ := hkp.out
          have e11 : Y.id.1 = X.id.1 := by rw [e1]
          have e12 : Y.id.2 = X.id.2 := by rw [e1]
          clear ht e1
          have G1 := G.out
          rw [e11, e12, e4, e5, e6] at G1
          replace G := Lib.hid G1
          clear e11 e12 e4 e5 e6 hkp G1 G5
          obtain ⟨⟨p0, p1, p2, p3, p4, p5, p6, p7, p8⟩, _, pl⟩ := nine_all G.out
          obtain ⟨⟨y0, y1, y2, y3, y4, y5, y6, y7, y8⟩, _, yl⟩ := nine_all A9.out
          go_wp2_with fail
          refine (wn _ (Below.refl _ _)).mono ?_
          rintro e w9 ⟨rfl, B⟩
          have D9 := Lib.hid (bstep D4.out (bstep hnx.out B))
          have G9 := bblk B (lt_of_heap G.out) G.out
          have A8 := bblk B (lt_of_heap A9.out) A9.out
          clear p0 p1 p2 p3 p4 p5 p6 p7 p8 pl y0 y1 y2 y3 y4 y5 y6 y7 y8 yl B wn
          obtain ⟨⟨p0, p1, p2, p3, p4, p5, p6, p7, p8⟩, _, pl⟩ := nine_all G9
          obtain ⟨⟨y0, y1, y2, y3, y4, y5, y6, y7, y8⟩, _, yl⟩ := nine_all A8
          go_wp2_with fail
          go_ret
          exact ⟨rfl, D9.out⟩
end Go.Proofs.YtfcjhojkfchccaaDoor

/- The walk of FnAnswersJoinOnly. -/
namespace Go.Proofs.YtfcjhojkfchccaaDoor
open Go.RowKit
set_option linter.unusedVariables false

theorem any_take {E : List En} {c : Pid} {k : Nat} (hk : k < E.length) : (E.take (k + 1)).any (fun x => hasP x.deps c) = ((E.take k).any (fun x => hasP x.deps c) || hasP (E.getD k en0).deps c) := by
  rw [take_nextE hk, List.any_append]; simp
theorem has_mem {C : List Pid} {a : Pid} : hasP C a = true ↔ a ∈ C := by unfold hasP; simp
theorem ans_has {X : En} {E : List En} {c : Pid} (h : c ∈ (ansE X E).deps) : (hasP X.deps c || E.any (fun x => hasP x.deps c)) = true := by
  rw [Bool.or_eq_true]
  rcases (ansE_mem E X c).1 h with h | ⟨x, hx, h⟩
  · exact .inl (has_mem.2 h)
  · exact .inr (List.any_eq_true.2 ⟨x, hx, has_mem.2 h⟩)
set_option maxRecDepth 100000 in
set_option maxHeartbeats 16000000 in
theorem answersJoinOnly_any (a : Option Addr) (len cap : Nat) (w : World) (hc : CodeIn w a len cap) (hcap : cap ≤ maxLen) (hT : TabIn w) :
    Calls Tryd.prog 4 #[.slice a len cap] w fun e w' => e = .returned (.bool true) ∧ Below w.heap.size w w' := by
  have dn := daj_any a len cap w hc hcap
  by_cases hlen : 1048576 < len
  · go_enter Tryd.func4, Tryd.ntmps4
    go_wp2_with fail
    go_ret
    exact ⟨rfl, Below.refl _ _⟩
  · replace hT := Lib.hid hT
    go_enter Tryd.func4, Tryd.ntmps4
    go_wp2_with fail
    refine dn.mono ?_
    rintro e w1 ⟨X, u, E, v, rfl, hI, hd, hE, hl4, B⟩
    obtain ⟨ua, un, uc, rfl⟩ : ∃ ua un uc, u = .slice ua un uc := by obtain ⟨a, c, e, _⟩ := hI; exact ⟨a, _, c, e⟩
    obtain ⟨va, vc, rfl⟩ : ∃ a c, v = .slice a E.length c := by obtain ⟨a, c, e, _⟩ := hE; exact ⟨a, c, e⟩
    obtain ⟨l, hl⟩ : ∃ l, Hid (E.length = l) := ⟨_, Lib.hid rfl⟩
    have BA := (Below.refl w1.heap.size w1).alloc (Nat.le_refl _) (.cells #[.int .i64 X.id.1, .int .i64 X.id.2, .int .i64 X.bal, .int .i64 X.st, .int .i64 X.k, .int .i64 X.key, .int .i64 X.v, .int .i64 X.seq, .slice ua un uc] 29)
    have A := Lib.hid (heap_alloc_new w1 (.cells #[.int .i64 X.id.1, .int .i64 X.id.2, .int .i64 X.bal, .int .i64 X.st, .int .i64 X.k, .int .i64 X.key, .int .i64 X.v, .int .i64 X.seq, .slice ua un uc] 29))
    have D := Lib.hid (bstep B BA)
    have I2 := Lib.hid (hI.up BA (Nat.le_refl _))
    have E2 := Lib.hid (hE.up BA (Nat.le_refl _))
    have T2 := Lib.hid (TabIn.up hT.out D.out (Nat.le_refl _))
    clear B BA hI hE dn hT
    rw [hl.out] at E2 hl4 ⊢
    unfold env
    go_upto_region 4 with fail
    generalize w1.heap.size = ob at A ⊢
    generalize w1.alloc (.cells #[.int .i64 X.id.1, .int .i64 X.id.2, .int .i64 X.bal, .int .i64 X.st, .int .i64 X.k, .int .i64 X.key, .int .i64 X.v, .int .i64 X.seq, .slice ua un uc] 29) = w2 at A D I2 E2 T2 ⊢
    have ia := iaj_any X (.slice ua un uc) (.slice va l vc) E w2 T2.out I2.out E2.out
    have sa := fun W (hb : Below w2.heap.size w2 W) => saj_any X (.slice ua un uc) (.slice va l vc) E W (I2.out.up hb (Nat.le_refl _)) (E2.out.up hb (Nat.le_refl _))
    unfold AjP at ia
    unfold SjP at sa
    obtain ⟨⟨Y, q⟩, hR⟩ : ∃ r, Hid (ansR X E = r) := ⟨_, Lib.hid rfl⟩
    simp only [hR.out] at sa
    rw [hR.out] at ia
    dsimp only at ia sa
    unfold env at ia sa
    obtain ⟨⟨y0, y1, y2, y3, y4, y5, y6, y7, y8⟩, _, yl⟩ := nine_all A.out
    go_wp2_with fail
    refine ia.mono ?_
    rintro e w3 ⟨u5, rfl, O5, B⟩
    obtain ⟨va5, vn5, vc5, rfl⟩ : ∃ ua un uc, u5 = .slice ua un uc := by obtain ⟨a, c, e, _⟩ := O5.read; exact ⟨a, _, c, e⟩
    have BA := (Below.refl w3.heap.size w3).alloc (Nat.le_refl _) (.cells #[.int .i64 Y.id.1, .int .i64 Y.id.2, .int .i64 Y.bal, .int .i64 Y.st, .int .i64 Y.k, .int .i64 Y.key, .int .i64 Y.v, .int .i64 Y.seq, .slice va5 vn5 vc5] 29)
    have G5 := Lib.hid (heap_alloc_new w3 (.cells #[.int .i64 Y.id.1, .int .i64 Y.id.2, .int .i64 Y.bal, .int .i64 Y.st, .int .i64 Y.k, .int .i64 Y.key, .int .i64 Y.v, .int .i64 Y.seq, .slice va5 vn5 vc5] 29))
    have F := Lib.hid (bstep B BA)
    have A4 := Lib.hid (bblk F.out (lt_of_heap A.out) A.out)
    have I5 := Lib.hid (O5.read.up BA (Nat.le_refl _))
    clear ia B BA O5 y0 y1 y2 y3 y4 y5 y6 y7 y8 yl
    go_upto_region 5 with fail
    generalize w3.heap.size = xb5 at G5 ⊢
    generalize w3.alloc (.cells #[.int .i64 Y.id.1, .int .i64 Y.id.2, .int .i64 Y.bal, .int .i64 Y.st, .int .i64 Y.k, .int .i64 Y.key, .int .i64 Y.v, .int .i64 Y.seq, .slice va5 vn5 vc5] 29) = w4 at G5 F A4 I5 ⊢
    obtain ⟨⟨y0, y1, y2, y3, y4, y5, y6, y7, y8⟩, _, yl⟩ := nine_all A4.out
    go_wp2_with fail
    refine (sa _ F.out).mono ?_
    rintro e w5 ⟨u6, rfl, O6, B⟩
    obtain ⟨va6, vn6, vc6, rfl⟩ : ∃ ua un uc, u6 = .slice ua un uc := by obtain ⟨a, c, e, _⟩ := O6; exact ⟨a, _, c, e⟩
    have BA := (Below.refl w5.heap.size w5).alloc (Nat.le_refl _) (.cells #[.int .i64 Y.id.1, .int .i64 Y.id.2, .int .i64 Y.bal, .int .i64 Y.st, .int .i64 Y.k, .int .i64 Y.key, .int .i64 Y.v, .int .i64 Y.seq, .slice va6 vn6 vc6] 29)
    have G6 := Lib.hid (heap_alloc_new w5 (.cells #[.int .i64 Y.id.1, .int .i64 Y.id.2, .int .i64 Y.bal, .int .i64 Y.st, .int .i64 Y.k, .int .i64 Y.key, .int .i64 Y.v, .int .i64 Y.seq, .slice va6 vn6 vc6] 29))
    have B2 := bstep B BA
    replace F := Lib.hid (bstep F.out B2)
    replace A4 := Lib.hid (bblk B2 (lt_of_heap A4.out) A4.out)
    replace G5 := Lib.hid (bblk B2 (lt_of_heap G5.out) G5.out)
    replace I5 := Lib.hid (I5.out.up B2 (Nat.le_refl _))
    have I6 := Lib.hid (O6.up BA (Nat.le_refl _))
    clear sa B BA B2 O6 y0 y1 y2 y3 y4 y5 y6 y7 y8 yl A
    go_upto_region 6 with fail
    generalize w5.heap.size = xb6 at G6 ⊢
    generalize w5.alloc (.cells #[.int .i64 Y.id.1, .int .i64 Y.id.2, .int .i64 Y.bal, .int .i64 Y.st, .int .i64 Y.k, .int .i64 Y.key, .int .i64 Y.v, .int .i64 Y.seq, .slice va6 vn6 vc6] 29) = w6 at G5 G6 F A4 I5 I6 ⊢
    have se := fun W (hb : Below w6.heap.size w6 W) => sameE_one Y (.slice va5 vn5 vc5) (.slice va6 vn6 vc6) W (I5.out.up hb (Nat.le_refl _)) (I6.out.up hb (Nat.le_refl _))
    unfold env at se
    obtain ⟨⟨p0, p1, p2, p3, p4, p5, p6, p7, p8⟩, _, pl⟩ := nine_all G5.out
    obtain ⟨⟨r0, r1, r2, r3, r4, r5, r6, r7, r8⟩, _, rl⟩ := nine_all G6.out
    go_wp2_with fail
    refine (se _ (Below.refl _ _)).mono ?_
    rintro e w7 ⟨rfl, B⟩
    have K7 := Lib.hid B
    clear B p0 p1 p2 p3 p4 p5 p6 p7 p8 pl r0 r1 r2 r3 r4 r5 r6 r7 r8 rl
    cases q
    · have G5b := bblk K7.out (lt_of_heap G5.out) G5.out
      have G6b := bblk K7.out (lt_of_heap G6.out) G6.out
      obtain ⟨⟨p0, p1, p2, p3, p4, p5, p6, p7, p8⟩, _, pl⟩ := nine_all G5b
      obtain ⟨⟨r0, r1, r2, r3, r4, r5, r6, r7, r8⟩, _, rl⟩ := nine_all G6b
      clear G5b G6b
      go_wp2_with fail
      refine (se _ K7.out).mono ?_
      rintro e w8 ⟨rfl, B⟩
      have D9 := Lib.hid (bstep D.out (bstep F.out (bstep K7.out B)))
      clear B
      go_wp2_with fail
      go_ret
      exact ⟨rfl, D9.out⟩
    · clear se
      have hP := ans_is (own := X) (A := E) (by rw [hR.out])
      rw [hR.out] at hP
      obtain ⟨hAw, hEn, hYe⟩ := hP
      have hY : Y = ansE X E := congrArg Prod.fst hYe
      have hW := ans_within (own := X) (A := E) (by rw [hR.out])
      rw [← hY] at hEn hW
      replace F := Lib.hid (bstep F.out K7.out)
      replace A4 := Lib.hid (bblk K7.out (lt_of_heap A4.out) A4.out)
      replace G5 := Lib.hid (bblk K7.out (lt_of_heap G5.out) G5.out)
      replace I5 := Lib.hid (I5.out.up K7.out (Nat.le_refl _))
      have I4 := Lib.hid (I2.out.up F.out (Nat.le_refl _))
      have E4 := Lib.hid (E2.out.up F.out (Nat.le_refl _))
      have T4 := Lib.hid (TabIn.up T2.out F.out (Nat.le_refl _))
      have D4 := Lib.hid (bstep D.out F.out)
      clear I2 E2 T2 D F G6 I6 K7 hYe
      replace hAw := Lib.hid hAw
      replace hEn := Lib.hid hEn
      replace hY := Lib.hid hY
      replace hW := Lib.hid hW
      obtain ⟨vm, hm⟩ : ∃ m, Hid (Y.deps.length = m) := ⟨_, Lib.hid rfl⟩
      obtain rfl : vm = vn5 := by obtain ⟨a, c, e, _⟩ := I5.out; injection e with _ e2 _; rw [e2, hm.out]
      have hvm : vm ≤ 2000000 := by obtain ⟨a, c, e, _, h2, _⟩ := I5.out; rw [hm.out] at h2; exact h2
      clear hAw hR hW
      obtain ⟨⟨p0, p1, p2, p3, p4, p5, p6, p7, p8⟩, _, pl⟩ := nine_all G5.out
      go_upto_region 9 with fail
      clear p0 p1 p2 p3 p4 p5 p6 p7 p8 pl
      go_loopw [9] (fun i wr => ∃ k : Nat, k ≤ vm ∧ i = .int .i64 k ∧ Hid (Below w7.heap.size w7 wr)) (fun i _ => vm - (intOf i).toNat)
      case atStart => exact ⟨0, Nat.zero_le _, rfl, Lib.hid (Below.refl _ _)⟩
      case round =>
        obtain ⟨k, hk, rfl, hnx⟩ := hrel
        have G := Lib.hid (bblk hnx.out (lt_of_heap G5.out) G5.out)
        have A9 := Lib.hid (bblk hnx.out (lt_of_heap A4.out) A4.out)
        by_cases hkm : k < vm
        · obtain ⟨yb, yoff, hy0, hy1, hy2⟩ : ∃ yb yoff, va5 = some ⟨yb, yoff, none⟩ ∧ yb < w7.heap.size ∧ ∀ i, i < Y.deps.length → w7.cell? ⟨yb, yoff + i * 2, none⟩ = some (.int .i64 (Y.deps.getD i nop).1) ∧ w7.cell? ⟨yb, yoff + i * 2 + 1, none⟩ = some (.int .i64 (Y.deps.getD i nop).2) := by
            obtain ⟨a9, c9, e9, _, _, h3⟩ := I5.out
            injection e9 with e1 _ _
            rcases h3 with h3 | ⟨b, off, ha, hb, hE⟩
            · have := hm.out; omega
            · exact ⟨b, off, e1.trans ha, hb, hE⟩
          subst hy0
          have hcm : Y.deps.getD k nop ∈ (ansE X E).deps := by
            rw [← hY.out, List.getD_eq_getElem?_getD, List.getElem?_eq_getElem (by rw [hm.out]; exact hkm)]
            exact List.getElem_mem _
          have hah := Lib.hid (ans_has hcm)
          have hq := Lib.hid (hy2 k (by rw [hm.out]; exact hkm))
          clear hcm hy2
          obtain ⟨c, hce⟩ : ∃ c, Hid (Y.deps.getD k nop = c) := ⟨_, Lib.hid rfl⟩
          rw [hce.out] at hq hah
          obtain ⟨c1, c2⟩ := c
          have q0 := (hnx.out.cell (p := ⟨yb, yoff + k * 2, none⟩) hy1).trans hq.out.1
          have q1 := (hnx.out.cell (p := ⟨yb, yoff + k * 2 + 1, none⟩) hy1).trans hq.out.2
          dsimp only at q0 q1
          have hyl := Nat.lt_of_lt_of_le hy1 hnx.out.size
          have hx := fun W (hb : Below wr.heap.size wr W) => lhas_any (.slice ua un uc) X.deps c1 c2 W (I4.out.up (bstep hnx.out hb) (Nat.le_refl _))
          obtain ⟨s0, hs0⟩ : ∃ s, Hid (hasP X.deps (c1, c2) = s) := ⟨_, Lib.hid rfl⟩
          simp only [hs0.out] at hx
          rw [hs0.out] at hah
          clear hce
          obtain ⟨⟨p0, p1, p2, p3, p4, p5, p6, p7, p8⟩, _, pl⟩ := nine_all G.out
          obtain ⟨⟨y0, y1, y2, y3, y4, y5, y6, y7, y8⟩, _, yl⟩ := nine_all A9.out
          go_upto_region 11 with fail
          refine wp_region_held_drew (S := fun w' => w'.cell? ⟨ob, 8, none⟩ = some (.slice ua un uc) ∧ w'.cell? ⟨xb5, 8, none⟩ = some (.slice (some ⟨yb, yoff, none⟩) vm vc5) ∧ w'.cell? ⟨yb, yoff + k * 2, none⟩ = some (.int .i64 c1) ∧ w'.cell? ⟨yb, yoff + k * 2 + 1, none⟩ = some (.int .i64 c2) ∧ Below wr.heap.size wr w') (by kernel_rfl) ⟨y8, p8, q0, q1, Below.drew (Below.refl _ _)⟩ (fun hHeld => ?_)
          refine wpAnyH_take (i := 0) (oi := ⟨some 60, _, _, _, _, _⟩) (v := ?_) rfl (by kernel_rfl) (by kernel_rfl) (by kernel_rfl) (fun _ _ _ h => h) (Or.inl ⟨by rfl, ?_⟩) (by assumption) ?_
          rotate_left 1
          · intro w hSw; (try dsimp only at hSw); go_simp; try (with_reducible rfl)
          try simp only [Act.put, List.setIfInBounds_toArray, List.set_cons_zero, List.set_cons_succ]
          refine wpAnyH_take (i := 1) (oi := ⟨some 61, _, _, _, _, _⟩) (v := ?_) rfl (by kernel_rfl) (by kernel_rfl) (by kernel_rfl) (fun _ _ _ h => h) (Or.inl ⟨by rfl, ?_⟩) (by assumption) ?_
          rotate_left 1
          · intro w hSw; (try dsimp only at hSw); go_simp; try (with_reducible rfl)
          try simp only [Act.put, List.setIfInBounds_toArray, List.set_cons_zero, List.set_cons_succ]
          refine wpAnyH_take (i := 2) (oi := ⟨some 62, _, _, _, _, _⟩) (v := ?_) rfl (by kernel_rfl) (by kernel_rfl) (by kernel_rfl) (fun _ _ _ h => h) (Or.inl ⟨by rfl, ?_⟩) (by assumption) ?_
          rotate_left 1
          · intro w hSw; (try dsimp only at hSw); go_simp; try (with_reducible rfl)
          try simp only [Act.put, List.setIfInBounds_toArray, List.set_cons_zero, List.set_cons_succ]
          refine wpAnyH_take (i := 3) (oi := ⟨some 63, _, _, _, _, _⟩) (v := ?_) rfl (by kernel_rfl) (by kernel_rfl) (by kernel_rfl) (fun _ _ _ h => h) (Or.inl ⟨by rfl, ?_⟩) (by assumption) ?_
          rotate_left 1
          · intro w hSw; (try dsimp only at hSw); go_simp; try (with_reducible rfl)
          try simp only [Act.put, List.setIfInBounds_toArray, List.set_cons_zero, List.set_cons_succ]
          refine wpAnyH_take (i := 4) (oi := ⟨some 64, _, _, _, _, _⟩) (v := ?_) rfl (by kernel_rfl) (by kernel_rfl) (by kernel_rfl) (fun _ _ _ h => h) (Or.inl ⟨by rfl, ?_⟩) (by assumption) ?_
          rotate_left 1
          · intro w hSw; (try dsimp only at hSw); go_simp; try (with_reducible rfl)
          try simp only [Act.put, List.setIfInBounds_toArray, List.set_cons_zero, List.set_cons_succ]
          refine wpAnyH_take (i := 5) (oi := ⟨some 65, _, _, _, _, _⟩) (v := ?_) rfl (by kernel_rfl) (by kernel_rfl) (by kernel_rfl) (fun _ _ _ h => h) (Or.inl ⟨by rfl, ?_⟩) (by assumption) ?_
          rotate_left 1
          · intro w hSw; (try dsimp only at hSw); go_simp; try (with_reducible rfl)
          try simp only [Act.put, List.setIfInBounds_toArray, List.set_cons_zero, List.set_cons_succ]
          refine wpAnyH_take (i := 6) (oi := ⟨some 66, _, _, _, _, _⟩) (v := ?_) rfl (by kernel_rfl) (by kernel_rfl) (by kernel_rfl) (fun _ _ _ h => h) (Or.inl ⟨by rfl, ?_⟩) (by assumption) ?_
          rotate_left 1
          · intro w hSw; (try dsimp only at hSw); go_simp; try (with_reducible rfl)
          try simp only [Act.put, List.setIfInBounds_toArray, List.set_cons_zero, List.set_cons_succ]
          refine wpAnyH_ready (rs := [7]) (by kernel_rfl) (by simp) ?_
          refine AllReadyH.cons (o := ⟨some 67, _, _, _, _, _⟩) rfl (fun K hK => ?_) AllReadyH.nil
          go_simp
          with_reducible refine (hx _ hHeld.2.2.2.2).mono ?_
          rintro e wq ⟨rfl, hb⟩
          go_wp2_with fail
          refine hK.out _ _ ?_ (fun hHeld2 => ?_)
          · exact ⟨cell_later hb hHeld.1, cell_later hb hHeld.2.1, cell_later hb hHeld.2.2.1, cell_later hb hHeld.2.2.2.1, hHeld.2.2.2.2.trans (hb.mono hHeld.2.2.2.2.size)⟩
          clear hK K hHeld hb
          have hHeld := hHeld2
          clear hHeld2
          try simp only [Act.put, List.setIfInBounds_toArray, List.set_cons_zero, List.set_cons_succ]
          refine wpAnyH_take (i := 8) (oi := ⟨some 10, _, _, _, _, _⟩) (v := ?_) rfl (by kernel_rfl) (by kernel_rfl) (by kernel_rfl) (fun _ _ _ h => h) (Or.inl ⟨by rfl, ?_⟩) (by assumption) ?_
          rotate_left 1
          · intro w hSw; (try dsimp only at hSw); go_simp; try (with_reducible rfl)
          try simp only [Act.put, List.setIfInBounds_toArray, List.set_cons_zero, List.set_cons_succ]
          refine wpAnyH_done (by kernel_rfl) ?_ _
          try simp only [Act.put, List.setIfInBounds_toArray, List.set_cons_zero, List.set_cons_succ]
          have H5 := Lib.hid (bstep hnx.out hHeld.2.2.2.2)
          clear hHeld hx q0 q1 hyl p0 p1 p2 p3 p4 p5 p6 p7 p8 pl y0 y1 y2 y3 y4 y5 y6 y7 y8 yl G A9 hnx hs0
          go_upto_region 13 with fail
          go_loopw [10, 11] (fun s i wr => ∃ (j : Nat) (t : Bool), j ≤ l ∧ i = .int .i64 j ∧ s = .bool t ∧ Hid (t = (s0 || (E.take j).any (fun x => hasP x.deps (c1, c2)))) ∧ Hid (Below w7.heap.size w7 wr)) (fun _ i _ => l - (intOf i).toNat)
          case atStart => exact ⟨0, s0, Nat.zero_le _, rfl, rfl, Lib.hid (by simp), H5⟩
          case round =>
            obtain ⟨j, t, hj, rfl, rfl, htt, hnx⟩ := hrel
            by_cases hjl : j < l
            · have hjE : j < E.length := by rw [hl.out]; exact hjl
              obtain ⟨b, off, U, ha, hE⟩ : ∃ b off U, va = some ⟨b, off, none⟩ ∧ EnsAt w7 b off E U := by
                obtain ⟨a9, ca9, he9, _, _, h3⟩ := E4.out
                injection he9 with e1 _ _
                rcases h3 with h3 | ⟨b, off, U, ha, hE⟩
                · have := hl.out; omega
                · exact ⟨b, off, U, e1.trans ha, hE⟩
              subst ha
              have hA := hE.up hnx.out (Nat.le_refl _)
              have hbl := hA.lt
              have hP := hA.at_ j hjE
              have hPI := (hE.at_ j hjE).ids
              obtain ⟨ya, yn, yc, hy⟩ : ∃ ua un uc, U j = .slice ua un uc := by obtain ⟨a, c, e, _⟩ := hP.ids; exact ⟨a, _, c, e⟩
              have hat := Lib.hid (any_take (c := (c1, c2)) hjE)
              have q8 := hP.c8
              rw [hy] at q8 hPI
              have hx := fun W (hb : Below wr.heap.size wr W) => lhas_any (.slice ya yn yc) (E.getD j en0).deps c1 c2 W (hPI.up (bstep hnx.out hb) (Nat.le_refl _))
              obtain ⟨s3, hs3⟩ : ∃ s, Hid (hasP (E.getD j en0).deps (c1, c2) = s) := ⟨_, Lib.hid rfl⟩
              simp only [hs3.out] at hx
              rw [hs3.out] at hat
              clear hA hE hP hPI hy hs3
              have q0 := (hnx.out.cell (p := ⟨yb, yoff + k * 2, none⟩) hy1).trans hq.out.1
              have q1 := (hnx.out.cell (p := ⟨yb, yoff + k * 2 + 1, none⟩) hy1).trans hq.out.2
              have hyl := Nat.lt_of_lt_of_le hy1 hnx.out.size
              have G := bblk hnx.out (lt_of_heap G5.out) G5.out
              obtain ⟨⟨p0, p1, p2, p3, p4, p5, p6, p7, p8⟩, _, pl⟩ := nine_all G
              clear G
              go_upto_region 15 with fail
              cases t
              · refine wp_region_held_drew (S := fun w' => w'.cell? ⟨b, off + j * 9 + 8, none⟩ = some (.slice ya yn yc) ∧ w'.cell? ⟨xb5, 8, none⟩ = some (.slice (some ⟨yb, yoff, none⟩) vm vc5) ∧ w'.cell? ⟨yb, yoff + k * 2, none⟩ = some (.int .i64 c1) ∧ w'.cell? ⟨yb, yoff + k * 2 + 1, none⟩ = some (.int .i64 c2) ∧ Below wr.heap.size wr w') (by kernel_rfl) ⟨q8, p8, q0, q1, Below.drew (Below.refl _ _)⟩ (fun hHeld => ?_)
                refine wpAnyH_take (i := 0) (oi := ⟨some 74, _, _, _, _, _⟩) (v := ?_) rfl (by kernel_rfl) (by kernel_rfl) (by kernel_rfl) (fun _ _ _ h => h) (Or.inl ⟨by rfl, ?_⟩) (by assumption) ?_
                rotate_left 1
                · intro w hSw; (try dsimp only at hSw); go_simp; try (with_reducible rfl)
                try simp only [Act.put, List.setIfInBounds_toArray, List.set_cons_zero, List.set_cons_succ]
                refine wpAnyH_take (i := 1) (oi := ⟨some 75, _, _, _, _, _⟩) (v := ?_) rfl (by kernel_rfl) (by kernel_rfl) (by kernel_rfl) (fun _ _ _ h => h) (Or.inl ⟨by rfl, ?_⟩) (by assumption) ?_
                rotate_left 1
                · intro w hSw; (try dsimp only at hSw); go_simp; try (with_reducible rfl)
                try simp only [Act.put, List.setIfInBounds_toArray, List.set_cons_zero, List.set_cons_succ]
                refine wpAnyH_take (i := 2) (oi := ⟨some 76, _, _, _, _, _⟩) (v := ?_) rfl (by kernel_rfl) (by kernel_rfl) (by kernel_rfl) (fun _ _ _ h => h) (Or.inl ⟨by rfl, ?_⟩) (by assumption) ?_
                rotate_left 1
                · intro w hSw; (try dsimp only at hSw); go_simp; try (with_reducible rfl)
                try simp only [Act.put, List.setIfInBounds_toArray, List.set_cons_zero, List.set_cons_succ]
                refine wpAnyH_take (i := 3) (oi := ⟨some 77, _, _, _, _, _⟩) (v := ?_) rfl (by kernel_rfl) (by kernel_rfl) (by kernel_rfl) (fun _ _ _ h => h) (Or.inl ⟨by rfl, ?_⟩) (by assumption) ?_
                rotate_left 1
                · intro w hSw; (try dsimp only at hSw); go_simp; try (with_reducible rfl)
                try simp only [Act.put, List.setIfInBounds_toArray, List.set_cons_zero, List.set_cons_succ]
                refine wpAnyH_take (i := 4) (oi := ⟨some 78, _, _, _, _, _⟩) (v := ?_) rfl (by kernel_rfl) (by kernel_rfl) (by kernel_rfl) (fun _ _ _ h => h) (Or.inl ⟨by rfl, ?_⟩) (by assumption) ?_
                rotate_left 1
                · intro w hSw; (try dsimp only at hSw); go_simp; try (with_reducible rfl)
                try simp only [Act.put, List.setIfInBounds_toArray, List.set_cons_zero, List.set_cons_succ]
                refine wpAnyH_take (i := 5) (oi := ⟨some 79, _, _, _, _, _⟩) (v := ?_) rfl (by kernel_rfl) (by kernel_rfl) (by kernel_rfl) (fun _ _ _ h => h) (Or.inl ⟨by rfl, ?_⟩) (by assumption) ?_
                rotate_left 1
                · intro w hSw; (try dsimp only at hSw); go_simp; try (with_reducible rfl)
                try simp only [Act.put, List.setIfInBounds_toArray, List.set_cons_zero, List.set_cons_succ]
                refine wpAnyH_take (i := 6) (oi := ⟨some 80, _, _, _, _, _⟩) (v := ?_) rfl (by kernel_rfl) (by kernel_rfl) (by kernel_rfl) (fun _ _ _ h => h) (Or.inl ⟨by rfl, ?_⟩) (by assumption) ?_
                rotate_left 1
                · intro w hSw; (try dsimp only at hSw); go_simp; try (with_reducible rfl)
                try simp only [Act.put, List.setIfInBounds_toArray, List.set_cons_zero, List.set_cons_succ]
                refine wpAnyH_take (i := 7) (oi := ⟨some 81, _, _, _, _, _⟩) (v := ?_) rfl (by kernel_rfl) (by kernel_rfl) (by kernel_rfl) (fun _ _ _ h => h) (Or.inl ⟨by rfl, ?_⟩) (by assumption) ?_
                rotate_left 1
                · intro w hSw; (try dsimp only at hSw); go_simp; try (with_reducible rfl)
                try simp only [Act.put, List.setIfInBounds_toArray, List.set_cons_zero, List.set_cons_succ]
                refine wpAnyH_take (i := 8) (oi := ⟨some 82, _, _, _, _, _⟩) (v := ?_) rfl (by kernel_rfl) (by kernel_rfl) (by kernel_rfl) (fun _ _ _ h => h) (Or.inl ⟨by rfl, ?_⟩) (by assumption) ?_
                rotate_left 1
                · intro w hSw; (try dsimp only at hSw); go_simp; try (with_reducible rfl)
                try simp only [Act.put, List.setIfInBounds_toArray, List.set_cons_zero, List.set_cons_succ]
                refine wpAnyH_take (i := 9) (oi := ⟨some 83, _, _, _, _, _⟩) (v := ?_) rfl (by kernel_rfl) (by kernel_rfl) (by kernel_rfl) (fun _ _ _ h => h) (Or.inl ⟨by rfl, ?_⟩) (by assumption) ?_
                rotate_left 1
                · intro w hSw; (try dsimp only at hSw); go_simp; try (with_reducible rfl)
                try simp only [Act.put, List.setIfInBounds_toArray, List.set_cons_zero, List.set_cons_succ]
                refine wpAnyH_take (i := 10) (oi := ⟨some 84, _, _, _, _, _⟩) (v := ?_) rfl (by kernel_rfl) (by kernel_rfl) (by kernel_rfl) (fun _ _ _ h => h) (Or.inl ⟨by rfl, ?_⟩) (by assumption) ?_
                rotate_left 1
                · intro w hSw; (try dsimp only at hSw); go_simp; try (with_reducible rfl)
                try simp only [Act.put, List.setIfInBounds_toArray, List.set_cons_zero, List.set_cons_succ]
                refine wpAnyH_take (i := 11) (oi := ⟨some 85, _, _, _, _, _⟩) (v := ?_) rfl (by kernel_rfl) (by kernel_rfl) (by kernel_rfl) (fun _ _ _ h => h) (Or.inl ⟨by rfl, ?_⟩) (by assumption) ?_
                rotate_left 1
                · intro w hSw; (try dsimp only at hSw); go_simp; try (with_reducible rfl)
                try simp only [Act.put, List.setIfInBounds_toArray, List.set_cons_zero, List.set_cons_succ]
                refine wpAnyH_ready (rs := [12]) (by kernel_rfl) (by simp) ?_
                refine AllReadyH.cons (o := ⟨some 86, _, _, _, _, _⟩) rfl (fun K hK => ?_) AllReadyH.nil
                go_simp
                with_reducible refine (hx _ hHeld.2.2.2.2).mono ?_
                rintro e wq ⟨rfl, hb⟩
                go_wp2_with fail
                refine hK.out _ _ ?_ (fun hHeld2 => ?_)
                · exact ⟨cell_later hb hHeld.1, cell_later hb hHeld.2.1, cell_later hb hHeld.2.2.1, cell_later hb hHeld.2.2.2.1, hHeld.2.2.2.2.trans (hb.mono hHeld.2.2.2.2.size)⟩
                clear hK K hHeld hb
                have hHeld := hHeld2
                clear hHeld2
                try simp only [Act.put, List.setIfInBounds_toArray, List.set_cons_zero, List.set_cons_succ]
                refine wpAnyH_take (i := 13) (oi := ⟨some 87, _, _, _, _, _⟩) (v := ?_) rfl (by kernel_rfl) (by kernel_rfl) (by kernel_rfl) (fun _ _ _ h => h) (Or.inl ⟨by rfl, ?_⟩) (by assumption) ?_
                rotate_left 1
                · intro w hSw; (try dsimp only at hSw); go_simp; try (with_reducible rfl)
                try simp only [Act.put, List.setIfInBounds_toArray, List.set_cons_zero, List.set_cons_succ]
                refine wpAnyH_take (i := 14) (oi := ⟨some 10, _, _, _, _, _⟩) (v := ?_) rfl (by kernel_rfl) (by kernel_rfl) (by kernel_rfl) (fun _ _ _ h => h) (Or.inl ⟨by rfl, ?_⟩) (by assumption) ?_
                rotate_left 1
                · intro w hSw; (try dsimp only at hSw); go_simp; try (with_reducible rfl)
                try simp only [Act.put, List.setIfInBounds_toArray, List.set_cons_zero, List.set_cons_succ]
                refine wpAnyH_done (by kernel_rfl) ?_ _
                try simp only [Act.put, List.setIfInBounds_toArray, List.set_cons_zero, List.set_cons_succ]
                have H6 := Lib.hid hHeld.2.2.2.2
                clear hHeld
                go_wp2_with fail
                go_roundw
                case rel => exact ⟨j + 1, s3, by omega, by go_num, rfl, Lib.hid (by rw [hat.out, ← Bool.or_assoc, ← htt.out]; rfl), Lib.hid (bstep hnx.out H6.out)⟩
                case measure => simp [intOf]; omega
              · refine wp_region_held_drew (S := fun w' => w'.cell? ⟨b, off + j * 9 + 8, none⟩ = some (.slice ya yn yc) ∧ w'.cell? ⟨xb5, 8, none⟩ = some (.slice (some ⟨yb, yoff, none⟩) vm vc5) ∧ w'.cell? ⟨yb, yoff + k * 2, none⟩ = some (.int .i64 c1) ∧ w'.cell? ⟨yb, yoff + k * 2 + 1, none⟩ = some (.int .i64 c2) ∧ Below wr.heap.size wr w') (by kernel_rfl) ⟨q8, p8, q0, q1, Below.drew (Below.refl _ _)⟩ (fun hHeld => ?_)
                refine wpAnyH_take (i := 0) (oi := ⟨some 74, _, _, _, _, _⟩) (v := ?_) rfl (by kernel_rfl) (by kernel_rfl) (by kernel_rfl) (fun _ _ _ h => h) (Or.inl ⟨by rfl, ?_⟩) (by assumption) ?_
                rotate_left 1
                · intro w hSw; (try dsimp only at hSw); go_simp; try (with_reducible rfl)
                try simp only [Act.put, List.setIfInBounds_toArray, List.set_cons_zero, List.set_cons_succ]
                refine wpAnyH_take (i := 1) (oi := ⟨some 75, _, _, _, _, _⟩) (v := ?_) rfl (by kernel_rfl) (by kernel_rfl) (by kernel_rfl) (fun _ _ _ h => h) (Or.inl ⟨by rfl, ?_⟩) (by assumption) ?_
                rotate_left 1
                · intro w hSw; (try dsimp only at hSw); go_simp; try (with_reducible rfl)
                try simp only [Act.put, List.setIfInBounds_toArray, List.set_cons_zero, List.set_cons_succ]
                refine wpAnyH_take (i := 2) (oi := ⟨some 76, _, _, _, _, _⟩) (v := undef) rfl (by kernel_rfl) (by kernel_rfl) (by kernel_rfl) (fun _ _ _ h => h) (Or.inr ⟨by rfl, rfl⟩) (by assumption) ?_
                try simp only [Act.put, List.setIfInBounds_toArray, List.set_cons_zero, List.set_cons_succ]
                refine wpAnyH_take (i := 3) (oi := ⟨some 77, _, _, _, _, _⟩) (v := undef) rfl (by kernel_rfl) (by kernel_rfl) (by kernel_rfl) (fun _ _ _ h => h) (Or.inr ⟨by rfl, rfl⟩) (by assumption) ?_
                try simp only [Act.put, List.setIfInBounds_toArray, List.set_cons_zero, List.set_cons_succ]
                refine wpAnyH_take (i := 4) (oi := ⟨some 78, _, _, _, _, _⟩) (v := undef) rfl (by kernel_rfl) (by kernel_rfl) (by kernel_rfl) (fun _ _ _ h => h) (Or.inr ⟨by rfl, rfl⟩) (by assumption) ?_
                try simp only [Act.put, List.setIfInBounds_toArray, List.set_cons_zero, List.set_cons_succ]
                refine wpAnyH_take (i := 5) (oi := ⟨some 79, _, _, _, _, _⟩) (v := undef) rfl (by kernel_rfl) (by kernel_rfl) (by kernel_rfl) (fun _ _ _ h => h) (Or.inr ⟨by rfl, rfl⟩) (by assumption) ?_
                try simp only [Act.put, List.setIfInBounds_toArray, List.set_cons_zero, List.set_cons_succ]
                refine wpAnyH_take (i := 6) (oi := ⟨some 80, _, _, _, _, _⟩) (v := undef) rfl (by kernel_rfl) (by kernel_rfl) (by kernel_rfl) (fun _ _ _ h => h) (Or.inr ⟨by rfl, rfl⟩) (by assumption) ?_
                try simp only [Act.put, List.setIfInBounds_toArray, List.set_cons_zero, List.set_cons_succ]
                refine wpAnyH_take (i := 7) (oi := ⟨some 81, _, _, _, _, _⟩) (v := undef) rfl (by kernel_rfl) (by kernel_rfl) (by kernel_rfl) (fun _ _ _ h => h) (Or.inr ⟨by rfl, rfl⟩) (by assumption) ?_
                try simp only [Act.put, List.setIfInBounds_toArray, List.set_cons_zero, List.set_cons_succ]
                refine wpAnyH_take (i := 8) (oi := ⟨some 82, _, _, _, _, _⟩) (v := undef) rfl (by kernel_rfl) (by kernel_rfl) (by kernel_rfl) (fun _ _ _ h => h) (Or.inr ⟨by rfl, rfl⟩) (by assumption) ?_
                try simp only [Act.put, List.setIfInBounds_toArray, List.set_cons_zero, List.set_cons_succ]
                refine wpAnyH_take (i := 9) (oi := ⟨some 83, _, _, _, _, _⟩) (v := undef) rfl (by kernel_rfl) (by kernel_rfl) (by kernel_rfl) (fun _ _ _ h => h) (Or.inr ⟨by rfl, rfl⟩) (by assumption) ?_
                try simp only [Act.put, List.setIfInBounds_toArray, List.set_cons_zero, List.set_cons_succ]
                refine wpAnyH_take (i := 10) (oi := ⟨some 84, _, _, _, _, _⟩) (v := undef) rfl (by kernel_rfl) (by kernel_rfl) (by kernel_rfl) (fun _ _ _ h => h) (Or.inr ⟨by rfl, rfl⟩) (by assumption) ?_
                try simp only [Act.put, List.setIfInBounds_toArray, List.set_cons_zero, List.set_cons_succ]
                refine wpAnyH_take (i := 11) (oi := ⟨some 85, _, _, _, _, _⟩) (v := undef) rfl (by kernel_rfl) (by kernel_rfl) (by kernel_rfl) (fun _ _ _ h => h) (Or.inr ⟨by rfl, rfl⟩) (by assumption) ?_
                try simp only [Act.put, List.setIfInBounds_toArray, List.set_cons_zero, List.set_cons_succ]
                refine wpAnyH_take (i := 12) (oi := ⟨some 86, _, _, _, _, _⟩) (v := undef) rfl (by kernel_rfl) (by kernel_rfl) (by kernel_rfl) (fun _ _ _ h => h) (Or.inr ⟨by rfl, rfl⟩) (by assumption) ?_
                try simp only [Act.put, List.setIfInBounds_toArray, List.set_cons_zero, List.set_cons_succ]
                refine wpAnyH_take (i := 13) (oi := ⟨some 87, _, _, _, _, _⟩) (v := ?_) rfl (by kernel_rfl) (by kernel_rfl) (by kernel_rfl) (fun _ _ _ h => h) (Or.inl ⟨by rfl, ?_⟩) (by assumption) ?_
                rotate_left 1
                · intro w hSw; (try dsimp only at hSw); go_simp; try (with_reducible rfl)
                try simp only [Act.put, List.setIfInBounds_toArray, List.set_cons_zero, List.set_cons_succ]
                refine wpAnyH_take (i := 14) (oi := ⟨some 10, _, _, _, _, _⟩) (v := ?_) rfl (by kernel_rfl) (by kernel_rfl) (by kernel_rfl) (fun _ _ _ h => h) (Or.inl ⟨by rfl, ?_⟩) (by assumption) ?_
                rotate_left 1
                · intro w hSw; (try dsimp only at hSw); go_simp; try (with_reducible rfl)
                try simp only [Act.put, List.setIfInBounds_toArray, List.set_cons_zero, List.set_cons_succ]
                refine wpAnyH_done (by kernel_rfl) ?_ _
                try simp only [Act.put, List.setIfInBounds_toArray, List.set_cons_zero, List.set_cons_succ]
                have H6 := Lib.hid hHeld.2.2.2.2
                clear hHeld
                go_wp2_with fail
                go_roundw
                case rel => exact ⟨j + 1, true, by omega, by go_num, rfl, Lib.hid (by rw [hat.out, ← Bool.or_assoc, ← htt.out]; rfl), Lib.hid (bstep hnx.out H6.out)⟩
                case measure => simp [intOf]; omega
            · obtain rfl : j = l := by omega
              have ht : E.take j = E := List.take_of_length_le (by rw [hl.out]; exact Nat.le_refl _)
              obtain rfl : t = true := by rw [htt.out, ht]; exact hah.out
              clear ht htt hah
              go_wp2_with fail
              go_roundw
              case rel => exact ⟨k + 1, by omega, by go_num, hnx⟩
              case measure => simp [intOf]; omega
        · obtain rfl : k = vm := by omega
          have ev := ientry_any Y (.slice va5 k vc5) wr (I5.out.up hnx.out (Nat.le_refl _))
          rw [hEn.out] at ev
          unfold env at ev
          obtain ⟨⟨p0, p1, p2, p3, p4, p5, p6, p7, p8⟩, _, pl⟩ := nine_all G.out
          go_wp2_with fail
          refine ev.mono ?_
          rintro e w9 ⟨rfl, B⟩
          have D9 := Lib.hid (bstep D4.out (bstep hnx.out B))
          clear B ev
          go_wp2_with fail
          go_ret
          exact ⟨rfl, D9.out⟩
end Go.Proofs.YtfcjhojkfchccaaDoor
