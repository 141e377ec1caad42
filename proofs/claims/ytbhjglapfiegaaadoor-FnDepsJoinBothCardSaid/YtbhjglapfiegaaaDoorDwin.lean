/- DrawDepsWithin. -/
import Derived.Test.YtbhjglapfiegaaaDoorDdep
namespace Go.Proofs.YtbhjglapfiegaaaDoor
open Go.RowKit
set_option linter.unusedVariables false

/-- What a draw of two lists leaves. -/
def DtPost (w : World) (e : Ending) (w' : World) : Prop := ∃ u v A B, e = .returned (.tuple #[u, v]) ∧ Ids w' u A ∧ Ids w' v B ∧ A.length ≤ 13 ∧ B.length ≤ 13 ∧ Below w.heap.size w w'

theorem dep_next {w w1 w2 : World} {r m : Nat} {v v' : Value} {O : List Pid} {x y : Int} {o : Obj} (hrl : r < w.heap.size) (hR : Row w1 w.heap.size v O) (hown : w2.ownsRow w.heap.size 31 2 v' (O.length + 1) (flatP O ++ [.int .i64 x, .int .i64 y]))
    (hg : (w1.alloc o).grownBy w2 (Value.ownBlock v)) (hn : v' ≠ .slice none 0 0) (hrd : Rd w1 r m) (hk : Keep w.heap.size r w w1) : Row w2 w.heap.size v' (O ++ [(x, y)]) ∧ Rd w2 r m ∧ Keep w.heap.size r w w2 := ids_next hrl hR hown hg hn hrd hk

set_option maxHeartbeats 4000000 in
theorem dwin_any (a : Option Addr) (len cap : Nat) (w : World) (hc : CodeIn w a len cap) (hcap : cap ≤ maxLen) :
    Calls Tryd.prog 18 #[.slice a len cap] w (DtPost w) := by
  obtain ⟨i0, hi, hz0, hz1, hz2⟩ := info_parts infoP
  have hc := Lib.hid hc
  have hcap := Lib.hid hcap
  go_enter Tryd.func18, Tryd.ntmps18
  go_wp2_with fail
  refine (open_any a len cap _ hc.out hcap.out).mono ?_
  rintro e w1 ⟨r, rfl, hr0, hr', hb'⟩
  have s1 := hb'.size
  have D1 : Hid (Below w.heap.size w w1) := Lib.hid hb'
  have hr1 := Lib.hid hr'
  have hrl1 := hr'.lt
  clear hr' hb' hc hcap
  go_wp2_with fail
  refine (ddep_any r 0 _ hr1.out (by omega)).mono ?_
  rintro e w2 ⟨bb, u, C, hbb, rfl, hO, hCl, hr2, hk2⟩
  have s2 := hk2.size
  have D2 : Hid (Below w.heap.size w w2) := Lib.hid (D1.out.trans ((hk2.mono s1).below hr0))
  have hO := Lib.hid hO
  have hr2 := Lib.hid hr2
  have hrl2 : r < w2.heap.size := by omega
  obtain ⟨cc, hu, hcc⟩ := hO.out.shape
  have hbl := hO.out.lt
  obtain ⟨n, hn⟩ : ∃ n, Hid (C.length = n) := ⟨_, Lib.hid rfl⟩
  rw [hn.out] at hu hcc hCl
  subst hu
  have R0 := Lib.hid (row_new w2 w2.heap.size (Nat.le_refl _))
  have hr3 := Lib.hid (hr2.out.alloc (.cells #[] 31))
  have K3 := Lib.hid ((Keep.refl w2.heap.size r w2).alloc (Nat.le_refl _) (.cells #[] 31))
  clear hk2 D1 hr1 hr2
  go_wp2_with fail
  go_loopw [6, 7] (fun v i wr => ∃ k : Nat, k ≤ n ∧ i = .int .i64 k ∧ ∃ O : List Pid, O.length ≤ k ∧ Hid (Row wr w2.heap.size v O) ∧ Hid (Rd wr r (40 + k)) ∧ Hid (Keep w2.heap.size r w2 wr)) (fun _ i _ => n - (intOf i).toNat)
  case atStart => exact ⟨0, Nat.zero_le _, rfl, [], Nat.le_refl _, R0, Lib.hid (by simpa using hr3.out), K3⟩
  case round =>
    obtain ⟨k, hk, rfl, O, hL, hR, hr, hK⟩ := hrel
    have hsz := hK.out.size
    clear R0 hr3 K3
    by_cases hlt : k < n
    · go_wp2_with fail
      refine (pick_any 2 r (40 + k) _ hr.out (by omega)).mono ?_
      rintro e w3 ⟨x, rfl, x0, x1, hr3, hk3⟩
      have x2 := x1 (by omega)
      have s3 := hk3.size
      have K3 := Lib.hid (hK.out.trans (hk3.mono hsz))
      have R3 := Lib.hid (hR.out.keep hk3 hrl2)
      have hr3 := Lib.hid hr3
      obtain ⟨q0, q1⟩ := (hO.out.stay K3.out (by omega)).cell k (by rw [hn.out]; exact hlt)
      generalize C.getD k nop = c at q0 q1
      obtain ⟨p, t⟩ := c
      dsimp only at q0 q1
      clear hk3 hR hK hr x1
      rcases (show x = 0 ∨ x = 1 by omega) with rfl | rfl
      · go_wp2_with (at_builtin; refine wpList_append_own _ rfl _ _ 23 rfl w2.heap.size 31 i0 (.agg #[.int .i64 0, .int .i64 0]) 2 16 Tryd.underlying23 hi hz0 hz1 hz2 rfl (by decide) _ _ _ rfl (R3.out.1.alloc _) ⟨w3.heap.size, 0, none⟩ 1 1 [.int .i64 p, .int .i64 t] rfl rfl ?c1 ?c2 ?c3 ?c4 ?c5 ?_)
        case c1 => exact two_cells _ _ _ _ _ (by simp)
        case c2 => intro u hu; simp at hu; rcases hu with rfl | rfl <;> rfl
        case c3 => unfold maxLen; omega
        case c4 => omega
        case c5 => simp; omega
        intro v' w4 hown' hgrow hnil
        have X := ids_next hrl2 R3.out hown' hgrow (fun e => hnil e) hr3.out K3.out
        have hR' := Lib.hid X.1
        have hr' := Lib.hid X.2.1
        have hK' := Lib.hid X.2.2
        clear X hown' hgrow hnil R3 hr3 K3 q0 q1
        go_wp2_with fail
        go_roundw
        case rel => exact ⟨k + 1, by omega, by go_num, _, by simp; omega, hR', hr', hK'⟩
        case measure => simp [intOf]; omega
      · clear q0 q1
        go_wp2_with fail
        go_roundw
        case rel => exact ⟨k + 1, by omega, by go_num, O, by omega, R3, hr3, K3⟩
        case measure => simp [intOf]; omega
    · obtain rfl : k = n := by omega
      go_wp2_with fail
      refine (pick_any 3 r (40 + k) _ hr.out (by omega)).mono ?_
      rintro e w3 ⟨x, rfl, x0, x1, hr3, hk3⟩
      have s3 := hk3.size
      have K3 := Lib.hid (hK.out.trans (hk3.mono hsz))
      have R3 := Lib.hid (hR.out.keep hk3 hrl2)
      have O3 := Lib.hid (hO.out.stay K3.out (by omega))
      have hr3 := Lib.hid hr3
      clear hk3 hR hK hr x1 hO
      by_cases e0 : x = 0
      · subst e0
        clear R3
        go_wp2_with fail
        refine (ddep_any r (40 + k + 1) _ hr3.out (by omega)).mono ?_
        rintro e w4 ⟨bb', u', C', hbb', rfl, hO', hCl', hr4, hk4⟩
        have D4 := Lib.hid (D2.out.trans (((K3.out.trans (hk4.mono (by omega))).mono D2.out.size).below hr0))
        have O4 := Lib.hid (O3.out.stay hk4 (by omega)).read
        have hO' := Lib.hid hO'.read
        clear hk4 K3 hr4 hr3 O3
        go_wp2_with fail
        go_ret2
        exact ⟨_, _, C', C, rfl, hO'.out, O4.out, hCl', by rw [hn.out]; exact hCl, D4.out⟩
      · have e0' : (x == 0) = false := by simpa using e0
        have D4 := Lib.hid (D2.out.trans ((K3.out.mono D2.out.size).below hr0))
        obtain ⟨o, ho, hown⟩ := R3.out.own (by omega)
        have hI := Lib.hid hown.read
        have O4 := Lib.hid O3.out.read
        clear R3 hown O3 K3 e0 hr3
        go_wp2_with fail
        go_ret2
        exact ⟨_, _, O, C, rfl, hI.out, O4.out, by omega, by rw [hn.out]; exact hCl, D4.out⟩
end Go.Proofs.YtbhjglapfiegaaaDoor
