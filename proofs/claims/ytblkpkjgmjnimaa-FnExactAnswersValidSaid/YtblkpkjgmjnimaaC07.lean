/- Texts laid together. -/
import Derived.Test.YtblkpkjgmjnimaaC06
import Derived.Test.YtblkpkjgmjnimaaC01
import Derived.Deep.DeepCutAuto
import Derived.OwnWalk
import Derived.Test.YtblkpkjgmjnimaaC03
import Derived.Test.YtblkpkjgmjnimaaRows
import Derived.ProofKit
import Derived.OpenShut
import Derived.ChangeOld
import Derived.Lib.SmallJoins
/- A reader is opened; codes that came in. -/
namespace Go.Proofs.Ytblkpkjgmjnimaa
open Go.RowKit
set_option linter.unusedVariables false

/-- A code that came in: its bytes lie in old memory. -/
def CodeIn (w : World) (a : Option Addr) (len cap : Nat) : Prop := len ≤ cap ∧ Bytes w w.heap.size a len

/-- What l6Open leaves. -/
def OpenPost (w : World) (e : Ending) (w' : World) : Prop :=
  ∃ r : Nat, e = .returned (.pointer (some ⟨r, 0, none⟩)) ∧ w.heap.size ≤ r ∧ Rd w' r 0 ∧ Below w.heap.size w w'

theorem rd_new (w : World) (a : Option Addr) (len cap : Nat) (hl : len ≤ 2000) (hb : Bytes w w.heap.size a len) (t : TypeId) : Rd (w.alloc (.cells #[.slice a len cap, .int .i64 0] t)) w.heap.size 0 :=
  ⟨a, len, cap, 0, by go_simp, by go_simp, by go_simp, Int.le_refl _, by omega, hl, by simp, hb.kept (fun k hk => Below.heap_alloc _ _ _ hk)⟩

theorem open_any (a : Option Addr) (len cap : Nat) (w : World) (hc : CodeIn w a len cap) (hcap : cap ≤ maxLen) :
    Calls Try.prog 13 #[.slice a len cap] w (OpenPost w) := by
  unfold maxLen at hcap
  obtain ⟨hlc, hb⟩ := hc
  by_cases hl : 2000 < len
  · have hb2 : Bytes w w.heap.size a 2000 := by
      rcases hb with rfl | ⟨b, off, e, hb, hc⟩
      · omega
      · exact .inr ⟨b, off, e, hb, fun i hi => hc i (by omega)⟩
    obtain ⟨b, off, rfl, _⟩ : ∃ b off, a = some ⟨b, off, none⟩ ∧ True := by
      rcases hb with rfl | ⟨b, off, e, hb, hc⟩
      · omega
      · exact ⟨b, off, e, trivial⟩
    have hn := Lib.hid (rd_new w (some ⟨b, off, none⟩) 2000 cap (Nat.le_refl _) hb2 69)
    clear hb hb2
    go_enter Try.func13, Try.ntmps13
    go_wp2_with fail
    go_ret
    exact ⟨_, rfl, Nat.le_refl _, hn.out, (Below.refl _ _).alloc (Nat.le_refl _) _⟩
  · have hn := Lib.hid (rd_new w a len cap (by omega) hb 69)
    clear hb
    go_enter Try.func13, Try.ntmps13
    go_wp2_with fail
    go_ret
    exact ⟨_, rfl, Nat.le_refl _, hn.out, (Below.refl _ _).alloc (Nat.le_refl _) _⟩

theorem Bytes.up {w w' : World} {r r' : Nat} {a : Option Addr} {len : Nat} (h : Bytes w r a len) (hr : r ≤ r') (hb : Below r w w') : Bytes w' r' a len := by
  rcases h.kept (w' := w') (fun k hk => hb.block k hk) with h | ⟨b, off, e, hb, hc⟩
  · exact .inl h
  · exact .inr ⟨b, off, e, by omega, hc⟩

/-- A code is a code still where elder memory is as it was. -/
theorem CodeIn.up {w w' : World} {a : Option Addr} {len cap : Nat} (h : CodeIn w a len cap) (hb : Below w.heap.size w w') : CodeIn w' a len cap :=
  ⟨h.1, h.2.up hb.size hb⟩
theorem row_keep {w w' : World} {r base n size : Nat} {t : TypeId} {v : Value} {xs : List Value} (h : w.ownsRow base t size v n xs) (hk : Keep w.heap.size r w w') (hr : r < base) : w'.ownsRow base t size v n xs :=
  h.kept (row := some r) ⟨hk.os, hk.tape, hk.output, hk.size, fun k h1 h2 => hk.block k h1 (fun e => h2 (by rw [e]))⟩ (by
    cases hv : v.ownBlock with
    | none => exact .inl rfl
    | some k =>
      have := (h.lt k hv).1
      exact .inr (by intro e; injection e with e; omega))
end Go.Proofs.Ytblkpkjgmjnimaa

/- Draws: a reader is opened, a command is drawn, two commands are drawn. -/
namespace Go.Proofs.Ytblkpkjgmjnimaa
open Go.RowKit
set_option linter.unusedVariables false

/-- What l91Command leaves: some command; the reader up to six places further. -/
def CmdPost (r n : Nat) (w : World) (e : Ending) (w' : World) : Prop :=
  ∃ k key v : Int, e = .returned (.agg #[.int .i64 k, .int .i64 key, .int .i64 v]) ∧ (-1 ≤ k ∧ k ≤ 4) ∧ (-1 ≤ key ∧ key ≤ 6) ∧ (-1 ≤ v ∧ v ≤ 100) ∧ Rd w' r (n + 6) ∧ Keep w.heap.size r w w'

/-- Where the ways meet: the command in block C, the result's place in block A. -/
def CmdCut (r n A C : Nat) (x1 x2 : Int) (w wx : World) : Prop :=
  ∃ v : Int, 0 ≤ v ∧ v < 100 ∧ Rd wx r (n + 4) ∧ Keep w.heap.size r w wx ∧ C < wx.heap.size ∧ wx.heap[A]? = some (.cells #[.int .i64 0, .int .i64 0, .int .i64 0] 43 (0, 0)) ∧ wx.heap[C]? = some (.cells #[.int .i64 x1, .int .i64 x2, .int .i64 v] 43 (0, 0))

set_option maxRecDepth 100000 in
set_option maxHeartbeats 2000000 in
theorem cmd_any (r n : Nat) (w : World) (hrd : Rd w r n) (hn : n ≤ 900000000) :
    Calls Try.prog 36 #[.pointer (some ⟨r, 0, none⟩)] w (CmdPost r n w) := by
  have hlt := hrd.lt
  have hb1 := Lib.hid hrd
  clear hrd
  go_enter Try.func36, Try.ntmps36
  go_wp2_with fail
  refine (pick_any 3 r n _ (hb1.out.kept ((Below.refl _ _).alloc (by omega) _)) (by omega)).mono ?_
  rintro e w1 ⟨x1, rfl, a0, a1', hr1', hk1'⟩
  have a1 := a1' (by omega); have hc1 := kcell hk1'; have hs1 : w.heap.size + 1 ≤ w1.heap.size := by simpa using hk1'.size
  have hk1 := Lib.hid hk1'; have hr1 := Lib.hid hr1'; clear a1' hr1' hk1'
  go_wp2_with fail
  refine (pick_any 3 r (n + 1) _ hr1.out (by omega)).mono ?_
  rintro e w2 ⟨x2, rfl, b0, b1', hr2', hk2'⟩
  have b1 := b1' (by omega); have hc2 := kcell hk2'; have hs2 := hk2'.size
  have hk2 := Lib.hid hk2'; have hr2 := Lib.hid hr2'; clear b1' hr2' hk2'
  go_wp2_with fail
  refine (pick_any 10 r (n + 2) _ (hr2.out.alloc _) (by omega)).mono ?_
  rintro e w3 ⟨x3, rfl, d0, d1', hr3', hk3'⟩
  have d1 := d1' (by omega); have hs3 : w2.heap.size + 1 ≤ w3.heap.size := by simpa using hk3'.size
  have hrl2 := hr2.out.lt
  have hrl : r < w.heap.size := hlt
  have hAC : w.heap.size < w2.heap.size := by omega
  have A1 : w1.heap[w.heap.size]? = some (.cells #[.int .i64 0, .int .i64 0, .int .i64 0] 43 (0, 0)) := (hk1.out.block _ (by simp) (by omega)).trans (heap_alloc_new w _)
  have A2 := (hk2.out.block w.heap.size (by omega) (by omega)).trans A1
  have A3 := (hk3'.block w.heap.size (by simp; omega) (by omega)).trans ((Below.heap_alloc w2 _ _ (by omega)).trans A2)
  have C3 := (hk3'.block w2.heap.size (by simp) (by omega)).trans (heap_alloc_new w2 _)
  have K3 : Hid (Keep w.heap.size r w w3) := Lib.hid ((((Keep.refl _ _ _).alloc (Nat.le_refl _) _).trans (hk1.out.mono (by simp))).trans (hk2.out.mono (by omega)) |>.alloc (by omega) _ |>.trans (hk3'.mono (by simp; omega)))
  obtain ⟨a30, a31, a32, f30, f31, f32⟩ := blk3 A3
  obtain ⟨c30, c31, c32, g30, g31, g32⟩ := blk3 C3
  have A3 := Lib.hid A3
  have C3 := Lib.hid C3
  have hk3 := Lib.hid hk3'; have hr3 := Lib.hid hr3'; clear d1' hr3' hk3' hc1 hc2 A1 A2
  by_cases z3 : x3 = 0
  · subst z3
    go_wp2_with fail
    exact bodyPost_ret (v := .agg #[.int .i64 3, .int .i64 0, .int .i64 0]) (by simp [results, Try.results36, go_sem, a30, a31, a32]) rfl ⟨3, 0, 0, rfl, by omega, by omega, by omega, (((hr3.out.setCell hrl _).setCell hrl _).setCell hrl _).more (by omega), ((K3.out.setCell (Nat.le_refl _) _).setCell (Nat.le_refl _) _).setCell (Nat.le_refl _) _⟩
  · have z3' : (x3 == 0) = false := by simpa using z3
    clear z3
    go_upto_if 15 with (fail)
    go_cut [] (fun wx => CmdCut r n w.heap.size w2.heap.size x1 x2 w wx)
    case first =>
      by_cases z1 : x1 = 0
      · subst z1
        go_wp2_with fail
        go_meet
        exact ⟨0, by omega, by omega, hr3.out.more (by omega), K3.out, by omega, A3.out, C3.out⟩
      · have z1' : (x1 != 0) = true := by simpa using z1
        clear z1
        go_wp2_with fail
        refine (pick_any 100 r (n + 3) _ hr3.out (by omega)).mono ?_
        rintro e w4 ⟨x4, rfl, e0, e1', hr4, hk4⟩
        have e1 := e1' (by omega)
        have A4 := (hk4.block w.heap.size (by omega) (by omega)).trans A3.out
        have C4 := (hk4.block w2.heap.size (by omega) (by omega)).trans C3.out
        have hs4 := hk4.size
        obtain ⟨c40, c41, c42, g40, g41, g42⟩ := blk3 C4
        have A4 := Lib.hid A4
        have C4 := Lib.hid C4
        have hr4 := Lib.hid hr4
        have hk4 := Lib.hid hk4
        clear e1'
        go_wp2_with fail
        go_meet
        exact ⟨x4, by omega, by omega, (hr4.out.setCell hrl2 _).more (by omega), (K3.out.trans (hk4.out.mono (by omega))).setCell (by simp; omega) _, by simp; omega, (Below.heap_setCell _ _ _ _ (by simp; omega)).trans A4.out, (blk3_set C4.out _).2.2⟩
    case rest =>
      obtain ⟨v, v0, v1, hrc, kc, hsc, Ac, Cc⟩ := hcut
      clear c30 c31 c32 g30 g31 g32 a30 a31 a32 f30 f31 f32
      clear hr1 hr2 hr3 hk1 hk2 hk3 hs1 hs2 hs3 A3 C3 K3 d0 d1 z3' hb1
      have Ac := Lib.hid Ac
      have Cc := Lib.hid Cc
      have hrc := Lib.hid hrc
      have kc := Lib.hid kc
      go_wp2_with fail
      refine (pick_any 40 r (n + 4) _ hrc.out (by omega)).mono ?_
      rintro e w5 ⟨x5, rfl, e0, e1', hr5, hk5⟩
      have e1 := e1' (by omega)
      have hs5 := hk5.size
      have A5 := (hk5.block w.heap.size (by omega) (by omega)).trans Ac.out
      have C5 := (hk5.block w2.heap.size (by omega) (by omega)).trans Cc.out
      have K5 := Lib.hid (kc.out.trans (hk5.mono (by omega)))
      obtain ⟨a50, a51, a52, f50, f51, f52⟩ := blk3 A5
      obtain ⟨c50, c51, c52, g50, g51, g52⟩ := blk3 C5
      have A5 := Lib.hid A5
      have C5 := Lib.hid C5
      have hr5 := Lib.hid hr5
      clear e1' hk5 hrc kc Ac Cc
      by_cases q0 : x5 = 0
      · subst q0
        go_wp2_with fail
        refine (pick_any 3 r (n + 5) _ (hr5.out.alloc _) (by omega)).mono ?_
        rintro e w6 ⟨x6, rfl, y0, y1', hr6, hk6⟩
        have y1 := y1' (by omega)
        have hs6 : w5.heap.size + 1 ≤ w6.heap.size := by simpa using hk6.size
        have A6 := (hk6.block w.heap.size (by simp; omega) (by omega)).trans ((Below.heap_alloc w5 _ _ (by omega)).trans A5.out)
        have C6 := (hk6.block w2.heap.size (by simp; omega) (by omega)).trans ((Below.heap_alloc w5 _ _ (by omega)).trans C5.out)
        have L6 := (hk6.block w5.heap.size (by simp) (by omega)).trans (heap_alloc_new w5 _)
        have K6 := Lib.hid ((K5.out.alloc (by omega) _).trans (hk6.mono (by simp; omega)))
        obtain ⟨a60, a61, a62, f60, f61, f62⟩ := blk3 A6
        obtain ⟨c60, c61, c62, g60, g61, g62⟩ := blk3 C6
        obtain ⟨l60, l61, l62, _, _, _⟩ := blk3 L6
        have hr6 := Lib.hid hr6
        clear y1' hk6 A6 C6 L6 A5 C5 K5 a50 a51 a52 f50 f51 f52 c50 c51 c52 g50 g51 g52
        rcases (show x6 = 0 ∨ x6 = 1 ∨ x6 = 2 by omega) with rfl | rfl | rfl
        · go_wp2_with fail
          exact bodyPost_ret (v := .agg #[.int .i64 (-1), .int .i64 x2, .int .i64 v]) (by simp [results, Try.results36, go_sem, a60, a61, a62]) rfl ⟨-1, x2, v, rfl, by omega, by omega, by omega, ((((hr6.out.setCell hrl2 _).setCell hrl _).setCell hrl _).setCell hrl _).more (by omega), (((K6.out.setCell (Nat.le_of_lt hAC) _).setCell (Nat.le_refl _) _).setCell (Nat.le_refl _) _).setCell (Nat.le_refl _) _⟩
        · go_wp2_with fail
          exact bodyPost_ret (v := .agg #[.int .i64 4, .int .i64 x2, .int .i64 v]) (by simp [results, Try.results36, go_sem, a60, a61, a62]) rfl ⟨4, x2, v, rfl, by omega, by omega, by omega, ((((hr6.out.setCell hrl2 _).setCell hrl _).setCell hrl _).setCell hrl _).more (by omega), (((K6.out.setCell (Nat.le_of_lt hAC) _).setCell (Nat.le_refl _) _).setCell (Nat.le_refl _) _).setCell (Nat.le_refl _) _⟩
        · go_wp2_with fail
          exact bodyPost_ret (v := .agg #[.int .i64 3, .int .i64 x2, .int .i64 v]) (by simp [results, Try.results36, go_sem, a60, a61, a62]) rfl ⟨3, x2, v, rfl, by omega, by omega, by omega, ((((hr6.out.setCell hrl2 _).setCell hrl _).setCell hrl _).setCell hrl _).more (by omega), (((K6.out.setCell (Nat.le_of_lt hAC) _).setCell (Nat.le_refl _) _).setCell (Nat.le_refl _) _).setCell (Nat.le_refl _) _⟩
      · have q0' : (x5 == 0) = false := by simpa using q0
        clear q0
        by_cases q1 : x5 = 1
        · subst q1
          go_wp2_with fail
          refine (pick_any 3 r (n + 5) _ (hr5.out.alloc _) (by omega)).mono ?_
          rintro e w6 ⟨x6, rfl, y0, y1', hr6, hk6⟩
          have y1 := y1' (by omega)
          have hs6 : w5.heap.size + 1 ≤ w6.heap.size := by simpa using hk6.size
          have A6 := (hk6.block w.heap.size (by simp; omega) (by omega)).trans ((Below.heap_alloc w5 _ _ (by omega)).trans A5.out)
          have C6 := (hk6.block w2.heap.size (by simp; omega) (by omega)).trans ((Below.heap_alloc w5 _ _ (by omega)).trans C5.out)
          have L6 := (hk6.block w5.heap.size (by simp) (by omega)).trans (heap_alloc_new w5 _)
          have K6 := Lib.hid ((K5.out.alloc (by omega) _).trans (hk6.mono (by simp; omega)))
          obtain ⟨a60, a61, a62, f60, f61, f62⟩ := blk3 A6
          obtain ⟨c60, c61, c62, g60, g61, g62⟩ := blk3 C6
          obtain ⟨l60, l61, l62, _, _, _⟩ := blk3 L6
          have hr6 := Lib.hid hr6
          clear y1' hk6 A6 C6 L6 A5 C5 K5 a50 a51 a52 f50 f51 f52 c50 c51 c52 g50 g51 g52
          rcases (show x6 = 0 ∨ x6 = 1 ∨ x6 = 2 by omega) with rfl | rfl | rfl
          · go_wp2_with fail
            exact bodyPost_ret (v := .agg #[.int .i64 x1, .int .i64 (-1), .int .i64 v]) (by simp [results, Try.results36, go_sem, a60, a61, a62]) rfl ⟨x1, -1, v, rfl, by omega, by omega, by omega, ((((hr6.out.setCell hrl2 _).setCell hrl _).setCell hrl _).setCell hrl _).more (by omega), (((K6.out.setCell (Nat.le_of_lt hAC) _).setCell (Nat.le_refl _) _).setCell (Nat.le_refl _) _).setCell (Nat.le_refl _) _⟩
          · go_wp2_with fail
            exact bodyPost_ret (v := .agg #[.int .i64 x1, .int .i64 5, .int .i64 v]) (by simp [results, Try.results36, go_sem, a60, a61, a62]) rfl ⟨x1, 5, v, rfl, by omega, by omega, by omega, ((((hr6.out.setCell hrl2 _).setCell hrl _).setCell hrl _).setCell hrl _).more (by omega), (((K6.out.setCell (Nat.le_of_lt hAC) _).setCell (Nat.le_refl _) _).setCell (Nat.le_refl _) _).setCell (Nat.le_refl _) _⟩
          · go_wp2_with fail
            exact bodyPost_ret (v := .agg #[.int .i64 x1, .int .i64 6, .int .i64 v]) (by simp [results, Try.results36, go_sem, a60, a61, a62]) rfl ⟨x1, 6, v, rfl, by omega, by omega, by omega, ((((hr6.out.setCell hrl2 _).setCell hrl _).setCell hrl _).setCell hrl _).more (by omega), (((K6.out.setCell (Nat.le_of_lt hAC) _).setCell (Nat.le_refl _) _).setCell (Nat.le_refl _) _).setCell (Nat.le_refl _) _⟩
        · have q1' : (x5 == 1) = false := by simpa using q1
          clear q1
          by_cases q2 : x5 = 2
          · subst q2
            go_wp2_with fail
            refine (pick_any 3 r (n + 5) _ (hr5.out.alloc _) (by omega)).mono ?_
            rintro e w6 ⟨x6, rfl, y0, y1', hr6, hk6⟩
            have y1 := y1' (by omega)
            have hs6 : w5.heap.size + 1 ≤ w6.heap.size := by simpa using hk6.size
            have A6 := (hk6.block w.heap.size (by simp; omega) (by omega)).trans ((Below.heap_alloc w5 _ _ (by omega)).trans A5.out)
            have C6 := (hk6.block w2.heap.size (by simp; omega) (by omega)).trans ((Below.heap_alloc w5 _ _ (by omega)).trans C5.out)
            have L6 := (hk6.block w5.heap.size (by simp) (by omega)).trans (heap_alloc_new w5 _)
            have K6 := Lib.hid ((K5.out.alloc (by omega) _).trans (hk6.mono (by simp; omega)))
            obtain ⟨a60, a61, a62, f60, f61, f62⟩ := blk3 A6
            obtain ⟨c60, c61, c62, g60, g61, g62⟩ := blk3 C6
            obtain ⟨l60, l61, l62, _, _, _⟩ := blk3 L6
            have hr6 := Lib.hid hr6
            clear y1' hk6 A6 C6 L6 A5 C5 K5 a50 a51 a52 f50 f51 f52 c50 c51 c52 g50 g51 g52
            rcases (show x6 = 0 ∨ x6 = 1 ∨ x6 = 2 by omega) with rfl | rfl | rfl
            · go_wp2_with fail
              exact bodyPost_ret (v := .agg #[.int .i64 x1, .int .i64 x2, .int .i64 (-1)]) (by simp [results, Try.results36, go_sem, a60, a61, a62]) rfl ⟨x1, x2, -1, rfl, by omega, by omega, by omega, ((((hr6.out.setCell hrl2 _).setCell hrl _).setCell hrl _).setCell hrl _).more (by omega), (((K6.out.setCell (Nat.le_of_lt hAC) _).setCell (Nat.le_refl _) _).setCell (Nat.le_refl _) _).setCell (Nat.le_refl _) _⟩
            · go_wp2_with fail
              exact bodyPost_ret (v := .agg #[.int .i64 x1, .int .i64 x2, .int .i64 99]) (by simp [results, Try.results36, go_sem, a60, a61, a62]) rfl ⟨x1, x2, 99, rfl, by omega, by omega, by omega, ((((hr6.out.setCell hrl2 _).setCell hrl _).setCell hrl _).setCell hrl _).more (by omega), (((K6.out.setCell (Nat.le_of_lt hAC) _).setCell (Nat.le_refl _) _).setCell (Nat.le_refl _) _).setCell (Nat.le_refl _) _⟩
            · go_wp2_with fail
              exact bodyPost_ret (v := .agg #[.int .i64 x1, .int .i64 x2, .int .i64 100]) (by simp [results, Try.results36, go_sem, a60, a61, a62]) rfl ⟨x1, x2, 100, rfl, by omega, by omega, by omega, ((((hr6.out.setCell hrl2 _).setCell hrl _).setCell hrl _).setCell hrl _).more (by omega), (((K6.out.setCell (Nat.le_of_lt hAC) _).setCell (Nat.le_refl _) _).setCell (Nat.le_refl _) _).setCell (Nat.le_refl _) _⟩
          · have q2' : (x5 == 2) = false := by simpa using q2
            clear q2
            go_wp2_with fail
            exact bodyPost_ret (v := .agg #[.int .i64 x1, .int .i64 x2, .int .i64 v]) (by simp [results, Try.results36, go_sem, a50, a51, a52]) rfl ⟨x1, x2, v, rfl, by omega, by omega, by omega, (((hr5.out.setCell hrl _).setCell hrl _).setCell hrl _).more (by omega), ((K5.out.setCell (Nat.le_refl _) _).setCell (Nat.le_refl _) _).setCell (Nat.le_refl _) _⟩

end Go.Proofs.Ytblkpkjgmjnimaa

/- What the frames of all proofs use: the program's own knob, the layout, a code that came in. -/
namespace Go.Proofs.Ytblkpkjgmjnimaa
open Go.ChangeShapes Go.WideShapes Go.ChangeAt Go.RowKit Go.Joins
set_option linter.unusedVariables false

theorem own : ownKnob Try.prog.godebug = none := by kernel_rfl
theorem laidOut : laidOutB Try.prog = true := by kernel_rfl
theorem cells_lawsId : Try.prog.cellsOf 30 = 2 := by kernel_rfl
theorem cells_lawsCommand : Try.prog.cellsOf 56 = 3 := by kernel_rfl

theorem code_of_row {w : World} {x : Addr} {len cap : Nat} {zs : List Int} (hl : len ≤ cap) (hz : zs.length = cap) (hcell : ∀ i, i < zs.length → w.cell? (x.add i) = some (.int .u8 (zs.getD i 0))) (hwz : ∀ n ∈ zs, (Lit.int .u8 n).wf = true) :
    CodeIn w (some x) len cap := by
  refine ⟨hl, ?_⟩
  by_cases h0 : len = 0
  · exact .inl h0
  · obtain ⟨b, off, spot⟩ := x
    have hc := hcell 0 (by omega)
    have hspot : spot = none := by simpa [Addr.add] using World.cell?_spot hc
    subst hspot
    refine .inr ⟨b, off, rfl, ?_, fun i hi => ?_⟩
    · have := World.block_lt_of_cell? w _ hc
      simpa [Addr.add] using this
    · have h1 := hcell i (by omega)
      have h2 : (Lit.int .u8 (zs.getD i 0)).wf = true := by
        rw [List.getD_eq_getElem?_getD, List.getElem?_eq_getElem (by omega)]
        exact hwz _ (List.getElem_mem _)
      have h3 : 0 ≤ zs.getD i 0 ∧ zs.getD i 0 ≤ 255 := by simpa [Lit.wf, IntKind.min, IntKind.max, IntKind.signed, IntKind.bits] using h2
      exact ⟨zs.getD i 0, h3.1, h3.2, by
        have e : (⟨b, off, none⟩ : Addr).add i = ⟨b, off + i, none⟩ := by unfold Addr.add; split <;> simp_all
        rw [e] at h1; exact h1⟩
end Go.Proofs.Ytblkpkjgmjnimaa
