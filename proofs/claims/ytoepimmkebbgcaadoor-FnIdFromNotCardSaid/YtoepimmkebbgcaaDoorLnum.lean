/- The model's l1Number. -/
import Derived.Test.YtoepimmkebbgcaaDoorText
import Derived.LoopTactic
namespace Go.Proofs.YtoepimmkebbgcaaDoor
open Go.RowKit
set_option linter.unusedVariables false
set_option maxRecDepth 100000

def digB (c : UInt8) : Bool := 48 ≤ c.toNat && c.toNat ≤ 57
def valS (l : List UInt8) : Int := l.foldl (fun n c => 10 * n + ((c.toNat : Int) - 48)) 0
/-- What l1Number answers. -/
def numS (s : ByteArray) : Int := if 1 ≤ s.size ∧ s.size ≤ 3 ∧ s.data.toList.all digB = true then valS s.data.toList else -1

theorem valS_snoc (l : List UInt8) (c : UInt8) : valS (l ++ [c]) = 10 * valS l + ((c.toNat : Int) - 48) := by
  unfold valS; rw [List.foldl_append]; rfl
theorem take_snoc (s : ByteArray) (k : Nat) (h : k < s.size) : s.data.toList.take (k + 1) = s.data.toList.take k ++ [s[k]] := by
  rw [List.take_succ_eq_append_getElem (by simpa using h)]; rfl
theorem valS_bd : ∀ (l : List UInt8), l.length ≤ 3 → l.all digB = true → 0 ≤ valS l ∧ valS l ≤ 999
  | [], _, _ => by simp [valS]
  | [a], _, h => by simp [digB] at h; simp [valS]; omega
  | [a, b], _, h => by simp [digB] at h; simp [valS]; omega
  | [a, b, c], _, h => by simp [digB] at h; simp [valS]; omega
  | _ :: _ :: _ :: _ :: _, h, _ => by simp at h

theorem dig_t {c : UInt8} (h1 : 48 ≤ (c.toNat : Int)) (h2 : (c.toNat : Int) ≤ 57) : digB c = true := by unfold digB; simp; omega
theorem dig_f1 {c : UInt8} (h1 : ¬ 48 ≤ (c.toNat : Int)) : digB c = false := by unfold digB; simp; omega
theorem dig_f2 {c : UInt8} (h1 : ¬ (c.toNat : Int) ≤ 57) : digB c = false := by unfold digB; simp; omega

theorem numS_short {s : ByteArray} (h : ¬ (1 ≤ s.size ∧ s.size ≤ 3)) : numS s = -1 := by
  unfold numS; rw [if_neg (fun x => h ⟨x.1, x.2.1⟩)]
theorem numS_bad {s : ByteArray} (k : Nat) (hk : k < s.size) (h : digB s[k] = false) : numS s = -1 := by
  unfold numS
  rw [if_neg]
  rintro ⟨_, _, ha⟩
  have := (List.all_eq_true.1 ha) s[k] (by
    have e : s[k] = s.data.toList[k]'(by simpa using hk) := rfl
    rw [e]; exact List.getElem_mem _)
  rw [h] at this; cases this
theorem numS_good {s : ByteArray} (h1 : 1 ≤ s.size ∧ s.size ≤ 3) (h : s.data.toList.all digB = true) : numS s = valS s.data.toList := by
  unfold numS; rw [if_pos ⟨h1.1, h1.2, h⟩]
theorem numS_dec : ∀ n : Nat, n < 100 → numS (decB n) = n := by decide +kernel

set_option maxHeartbeats 1000000 in
theorem lnum_any (s : ByteArray) (hs : s.size ≤ 2000000) (w : World) :
    Calls Tryd.prog 27 #[.string s] w fun e w' => e = .returned (.int .i64 (numS s)) ∧ w = w' := by
  by_cases h1 : 1 ≤ s.size ∧ s.size ≤ 3
  · have s1 := in_any s.size 1 3
    rw [show inB (s.size : Int) 1 3 = true from inB_t (by omega) (by omega)] at s1
    obtain ⟨h10, h11⟩ := h1
    go_enter Tryd.func27, Tryd.ntmps27
    go_wp2_with fail
    refine (s1 _).mono ?_
    rintro e w' ⟨rfl, rfl⟩
    clear s1
    go_wp2_with fail
    go_loop [3, 4] (fun n i => ∃ k : Nat, k ≤ s.size ∧ i = .int .i64 k ∧ n = .int .i64 (valS (s.data.toList.take k)) ∧ Hid ((s.data.toList.take k).all digB = true)) (fun _ i => s.size - (intOf i).toNat)
    case atStart => exact ⟨0, Nat.zero_le _, rfl, rfl, rfl⟩
    case round =>
      obtain ⟨k, hk, rfl, rfl, hall⟩ := hrel
      have hb := valS_bd _ (by rw [List.length_take]; omega) hall.out
      by_cases hlt : k < s.size
      · have hsn := Lib.hid (valS_snoc (s.data.toList.take k) s[k])
        have hts := Lib.hid (take_snoc s k hlt)
        have hbad := Lib.hid (numS_bad (s := s) k hlt)
        by_cases hd : 48 ≤ (s[k].toNat : Int)
        · by_cases hd2 : (s[k].toNat : Int) ≤ 57
          · have hdig := Lib.hid (dig_t hd hd2)
            go_wp2_with fail
            go_round
            case rel => exact ⟨k + 1, by omega, by go_num, by rw [hts.out, hsn.out], Lib.hid (by rw [hts.out, List.all_append, hall.out]; simpa using hdig.out)⟩
            case measure => simp [intOf]; omega
          · have hdig := Lib.hid (dig_f2 hd2)
            go_wp2_with fail
            go_ret
            exact ⟨by rw [hbad.out hdig.out]; rfl, rfl⟩
        · have hdig := Lib.hid (dig_f1 hd)
          go_wp2_with fail
          go_ret
          exact ⟨by rw [hbad.out hdig.out]; rfl, rfl⟩
      · have hkk : k = s.size := by omega
        subst hkk
        have htake : s.data.toList.take s.size = s.data.toList := List.take_of_length_le (by simp)
        have hgood := Lib.hid (numS_good (s := s) ⟨h10, h11⟩ (by rw [← htake]; exact hall.out))
        have htake := Lib.hid htake
        go_wp2_with fail
        go_ret
        exact ⟨by rw [hgood.out]; rfl, rfl⟩
  · have s1 := in_any s.size 1 3
    rw [show inB (s.size : Int) 1 3 = false from decide_eq_false (fun h => h1 (by omega))] at s1
    rw [numS_short h1]
    clear h1
    go_enter Tryd.func27, Tryd.ntmps27
    go_wp2_with fail
    refine (s1 _).mono ?_
    rintro e w' ⟨rfl, rfl⟩
    clear s1
    go_wp2_with fail
    go_ret
    exact ⟨rfl, rfl⟩
end Go.Proofs.YtoepimmkebbgcaaDoor
