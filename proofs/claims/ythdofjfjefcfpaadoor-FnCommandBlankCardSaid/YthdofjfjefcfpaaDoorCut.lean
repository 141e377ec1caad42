/- The model's l1Cut: the words of a text. -/
import Derived.Test.YthdofjfjefcfpaaDoorCow
import Derived.Test.YthdofjfjefcfpaaDoorLnum
namespace Go.Proofs.YthdofjfjefcfpaaDoor
open Go.RowKit
set_option linter.unusedVariables false
set_option maxRecDepth 100000

/-- The words of what begins at f, the place being i, with n bytes behind it. -/
def cutF : Nat → ByteArray → Nat → Nat → List ByteArray
  | 0, s, f, i => [s.extract f s.size]
  | n + 1, s, f, i => if s.data.toList.getD i 0 = 32 then s.extract f i :: cutF n s (i + 1) (i + 1) else cutF n s f (i + 1)
/-- What l1Cut answers. -/
def wordsS (s : ByteArray) : List ByteArray := cutF s.size s 0 0

theorem wordsS_r : ∀ m, m < 6 → wordsS (txR m) = [⟨#[114, 101, 97, 100]⟩, decB m] := by decide +kernel
theorem wordsS_p : ∀ m, m < 6 → ∀ n, n < 100 → wordsS (txP m n) = [⟨#[112, 117, 116]⟩, decB m, decB n] := by decide +kernel
theorem wordsS_a : ∀ m, m < 6 → ∀ n, n < 100 → wordsS (txA m n) = [⟨#[97, 100, 100]⟩, decB m, decB n] := by decide +kernel
theorem wordsS_n : wordsS txN = [⟨#[110, 111, 110, 101]⟩] := by decide +kernel

theorem cutF_hit {n : Nat} {s : ByteArray} {f i : Nat} (hi : i < s.size) (h : (s[i].toNat : Int) = 32) : cutF (n + 1) s f i = s.extract f i :: cutF n s (i + 1) (i + 1) := by
  have e : s.data.toList.getD i 0 = 32 := by
    rw [List.getD_eq_getElem?_getD, List.getElem?_eq_getElem (by simpa using hi)]
    show s[i] = 32
    exact UInt8.toNat_inj.1 (by have : (32 : UInt8).toNat = 32 := rfl; omega)
  rw [cutF, if_pos e]
theorem cutF_miss {n : Nat} {s : ByteArray} {f i : Nat} (hi : i < s.size) (h : ¬ (s[i].toNat : Int) = 32) : cutF (n + 1) s f i = cutF n s f (i + 1) := by
  have e : ¬ s.data.toList.getD i 0 = 32 := by
    rw [List.getD_eq_getElem?_getD, List.getElem?_eq_getElem (by simpa using hi)]
    show ¬ s[i] = 32
    intro h2; rw [h2] at h; exact h rfl
  rw [cutF, if_neg e]

theorem cutF_len : ∀ (n : Nat) (s : ByteArray) (f i : Nat), (cutF n s f i).length ≤ n + 1
  | 0, _, _, _ => by simp [cutF]
  | n + 1, s, f, i => by
    unfold cutF; split
    · have := cutF_len n s (i + 1) (i + 1); simp; omega
    · have := cutF_len n s f (i + 1); omega
theorem cutF_ne : ∀ (n : Nat) (s : ByteArray) (f i : Nat), cutF n s f i ≠ []
  | 0, _, _, _ => by simp [cutF]
  | n + 1, s, f, i => by
    unfold cutF; split
    · simp
    · exact cutF_ne n s f (i + 1)
theorem cutF_size : ∀ (n : Nat) (s : ByteArray) (f i : Nat) (x : ByteArray), x ∈ cutF n s f i → x.size ≤ s.size
  | 0, s, f, i, x, h => by simp [cutF] at h; subst h; simp [ByteArray.size_extract]
  | n + 1, s, f, i, x, h => by
    unfold cutF at h; split at h
    · rcases List.mem_cons.1 h with rfl | h
      · simp [ByteArray.size_extract]; omega
      · exact cutF_size n s _ _ x h
    · exact cutF_size n s _ _ x h

theorem info_string : (Tryd.prog.info? 9).map (fun i => (i.zero, i.size, i.bytes)) = some (some (.string ByteArray.empty), 1, 16) := by kernel_rfl

/-- What l1Cut leaves. -/
def CutPost (s : ByteArray) (w : World) (e : Ending) (w' : World) : Prop :=
  ∃ v, e = .returned v ∧ w'.ownsRow w.heap.size 9 1 v (wordsS s).length ((wordsS s).map Value.string) ∧ Below w.heap.size w w'

set_option maxHeartbeats 2000000 in
theorem cut_any (s : ByteArray) (hs : s.size ≤ 2000000) (w : World) :
    Calls Tryd.prog 25 #[.string s] w (CutPost s w) := by
  obtain ⟨i0, hi, hz0, hz1, hz2⟩ := info_parts info_string
  have hz : (cutF s.size s 0 0) = wordsS s := rfl
  have hz := Lib.hid hz
  go_enter Tryd.func25, Tryd.ntmps25
  go_wp2_with fail
  go_loopw [3, 4, 5] (fun v f i wr => ∃ (k fr : Nat) (done : List ByteArray), k ≤ s.size ∧ fr ≤ k ∧ i = .int .i64 k ∧ f = .int .i64 fr ∧ done.length ≤ k ∧ Hid (done ++ cutF (s.size - k) s fr k = wordsS s) ∧ wr.ownsRow w.heap.size 9 1 v done.length (done.map Value.string) ∧ Below w.heap.size w wr) (fun _ _ i _ => s.size - (intOf i).toNat)
  case atStart =>
    refine ⟨0, 0, [], Nat.zero_le _, Nat.le_refl _, rfl, rfl, Nat.le_refl _, hz.out, ?_, (Below.refl _ _).alloc (Nat.le_refl _) _⟩
    exact ⟨rfl, .inr ⟨w.heap.size, 0, #[], rfl, Nat.le_refl _, heap_alloc_new w _, Nat.le_refl _, Nat.zero_le _, rfl, rfl⟩⟩
  case round =>
    obtain ⟨k, fr, done, hk, hf, rfl, rfl, hdl, hcut, hown, hnx⟩ := hrel
    by_cases hlt : k < s.size
    · by_cases hc : (s[k].toNat : Int) = 32
      · have hstep : Hid ((done ++ [s.extract fr k]) ++ cutF (s.size - (k + 1)) s (k + 1) (k + 1) = wordsS s) := by
          have e := hcut.out
          rw [show s.size - k = (s.size - (k + 1)) + 1 by omega, cutF_hit hlt hc] at e
          rw [List.append_assoc]; exact e
        have hsz := hnx.size
        clear hcut hz
        go_wp2_with (at_builtin; refine wpList_append_own _ rfl _ _ 43 rfl w.heap.size 9 i0 (.string ByteArray.empty) 1 16 Tryd.underlying43 hi hz0 hz1 hz2 rfl (by decide) _ _ _ rfl (hown.alloc _) ⟨wr.heap.size, 0, none⟩ 1 1 [.string (s.extract fr k)] rfl rfl ?c1 ?c2 ?c3 ?c4 ?c5 ?_)
        case c1 =>
          intro j u hj
          match j, hj with
          | 0, hj => simp at hj; subst hj; simp [Addr.add]
          | j + 1, hj => simp at hj
        case c2 => intro u hu; simp at hu; subst hu; rfl
        case c3 => unfold maxLen; omega
        case c4 => omega
        case c5 => simp; omega
        intro v' w1 hown' hgrow _
        have hnx' := Lib.hid ((hnx.alloc (by omega) (.cells #[.string (s.extract fr k)] 9)).grown hgrow (by simp; omega) (fun j hj => (hown.lt j hj).1))
        have hown2 : w1.ownsRow w.heap.size 9 1 v' (done ++ [s.extract fr k]).length ((done ++ [s.extract fr k]).map Value.string) := by simpa using hown'
        have hown2 := Lib.hid hown2
        clear hown hnx hown' hgrow
        go_wp2_with fail
        go_roundw
        case rel => exact ⟨k + 1, k + 1, done ++ [s.extract fr k], by omega, Nat.le_refl _, by go_num, by go_num, by simp; omega, hstep, hown2.out, hnx'.out⟩
        case measure => simp [intOf]; omega
      · have hstep : Hid (done ++ cutF (s.size - (k + 1)) s fr (k + 1) = wordsS s) := by
          have e := hcut.out
          rw [show s.size - k = (s.size - (k + 1)) + 1 by omega, cutF_miss hlt hc] at e
          exact e
        have hown := Lib.hid hown
        have hnx := Lib.hid hnx
        clear hcut hz
        go_wp2_with fail
        go_roundw
        case rel => exact ⟨k + 1, fr, done, by omega, by omega, by go_num, rfl, by omega, hstep, hown.out, hnx.out⟩
        case measure => simp [intOf]; omega
    · have hkk : k = s.size := by omega
      subst hkk
      have hend : Hid (done ++ [s.extract fr s.size] = wordsS s) := by
        have e := hcut.out
        rw [Nat.sub_self] at e
        exact e
      have hsz := hnx.size
      clear hcut hz
      go_wp2_with (at_builtin; refine wpList_append_own _ rfl _ _ 43 rfl w.heap.size 9 i0 (.string ByteArray.empty) 1 16 Tryd.underlying43 hi hz0 hz1 hz2 rfl (by decide) _ _ _ rfl (hown.alloc _) ⟨wr.heap.size, 0, none⟩ 1 1 [.string (s.extract fr s.size)] rfl rfl ?d1 ?d2 ?d3 ?d4 ?d5 ?_)
      case d1 =>
        intro j u hj
        match j, hj with
        | 0, hj => simp at hj; subst hj; simp [Addr.add]
        | j + 1, hj => simp at hj
      case d2 => intro u hu; simp at hu; subst hu; rfl
      case d3 => unfold maxLen; omega
      case d4 => omega
      case d5 => simp; omega
      intro v' w1 hown' hgrow _
      have hnx' := Lib.hid ((hnx.alloc (by omega) (.cells #[.string (s.extract fr s.size)] 9)).grown hgrow (by simp; omega) (fun j hj => (hown.lt j hj).1))
      have hown2 : w1.ownsRow w.heap.size 9 1 v' (wordsS s).length ((wordsS s).map Value.string) := by
        rw [← hend.out]; simpa using hown'
      have hown2 := Lib.hid hown2
      clear hown hnx hown' hgrow
      go_wp2_with fail
      go_ret
      exact ⟨_, rfl, hown2.out, hnx'.out⟩
end Go.Proofs.YthdofjfjefcfpaaDoor
