/- The walks of FnMeet, FnMeetMore, FnMeetAll. -/
import Derived.Test.YtbamdeaonfgjgaaQme
import Derived.Test.YtbamdeaonfgjgaaQdr
namespace Go.Proofs.Ytbamdeaonfgjgaa
open Go.RowKit
set_option linter.unusedVariables false

theorem meet_is {n a : Int} (h : 1 ≤ n ∧ n ≤ 5) (ha : 0 ≤ a ∧ a ≤ n) : meetR n a = max 0 (fastR n + a - n) := if_pos ⟨h, ha⟩
theorem meet_nn {n a : Int} (h : 1 ≤ n ∧ n ≤ 5) (ha : 0 ≤ a ∧ a ≤ n) : 0 ≤ meetR n a ∧ meetR n a ≤ 5 := by
  rw [meet_is h ha]; have := fast_ok h; omega
theorem slow_ok {n : Int} (h : 1 ≤ n ∧ n ≤ 5) : 1 ≤ slowR n ∧ slowR n ≤ n := by
  rcases five_of h with rfl | rfl | rfl | rfl | rfl <;> decide
theorem meet_law {n a : Int} (h : 1 ≤ n ∧ n ≤ 5) (ha : 0 ≤ a ∧ a ≤ n) (hs : ¬ a < slowR n) : 1 ≤ meetR n a ∧ meetR n a ≤ a ∧ a < 2 * meetR n a := by
  rw [meet_is h ha]
  rcases five_of h with rfl | rfl | rfl | rfl | rfl <;> simp only [slowR, fastR] at hs ⊢ <;> simp at hs ⊢ <;> omega
theorem meet_more {n a : Int} (h : 1 ≤ n ∧ n ≤ 5) (ha : 0 ≤ a ∧ a ≤ n) (hs : ¬ a = n) : meetR n (a + 1) = meetR n a ∨ meetR n (a + 1) = meetR n a + 1 := by
  rw [meet_is h ha, meet_is h (by omega)]
  have := fast_ok h
  omega
theorem meet_all {n a : Int} (h : 1 ≤ n ∧ n ≤ 5) (ha : 0 ≤ a ∧ a ≤ n) : meetR n n = fastR n ∧ meetR n a ≤ fastR n := by
  rw [meet_is h ha, meet_is h (by omega)]
  have := fast_ok h
  omega

set_option maxRecDepth 100000 in
set_option maxHeartbeats 4000000 in
theorem fnMeet_walk (a : Option Addr) (len cap : Nat) (w : World) (hc : CodeIn w a len cap) (hcap : cap ≤ maxLen) :
    Calls Try.prog 6 #[.slice a len cap] w fun e w' => e = .returned (.bool true) ∧ Below w.heap.size w w' := by
  have dn := dmeet_any a len cap w hc hcap
  by_cases hlen : 1048576 < len
  · go_enter Try.func6, Try.ntmps6
    go_wp2_with fail
    go_ret
    exact ⟨rfl, Below.refl _ _⟩
  · go_enter Try.func6, Try.ntmps6
    go_wp2_with fail
    refine dn.mono ?_
    rintro e w1 ⟨⟨n, m, rfl, h0, h7, hm0, hm1⟩, B⟩
    have D := Lib.hid B
    clear dn B
    have is := imeet_any n m w1
    have ss := smeet_any n m w1
    have sl := sslow_any n w1
    by_cases hok : (1 ≤ n ∧ n ≤ 5) ∧ 0 ≤ m ∧ m ≤ n
    · have hnn := meet_nn hok.1 hok.2
      have hL := fun h => meet_law hok.1 hok.2 h
      obtain ⟨q, hq⟩ : ∃ q, Hid (meetR n m = q) := ⟨_, Lib.hid rfl⟩
      obtain ⟨s, hs⟩ : ∃ q, Hid (slowR n = q) := ⟨_, Lib.hid rfl⟩
      have hso := slow_ok hok.1
      rw [hq.out] at is ss hnn hL
      rw [hs.out] at sl hL hso
      replace hL := Lib.hid hL
      obtain ⟨⟨k1, k2⟩, k3, k4⟩ := hok
      by_cases hlt : m < s
      · clear hL
        go_wp2_with fail
        refine is.mono ?_
        rintro e w' ⟨rfl, rfl⟩
        clear is
        go_wp2_with fail
        refine ss.mono ?_
        rintro e w' ⟨rfl, rfl⟩
        clear ss
        go_wp2_with fail
        refine sl.mono ?_
        rintro e w' ⟨rfl, rfl⟩
        clear sl
        go_wp2_with fail
        go_ret
        exact ⟨rfl, D.out⟩
      · obtain ⟨l1, l2, l3⟩ := hL.out hlt
        clear hL
        go_wp2_with fail
        refine is.mono ?_
        rintro e w' ⟨rfl, rfl⟩
        clear is
        go_wp2_with fail
        refine ss.mono ?_
        rintro e w' ⟨rfl, rfl⟩
        clear ss
        go_wp2_with fail
        refine sl.mono ?_
        rintro e w' ⟨rfl, rfl⟩
        clear sl
        go_wp2_with fail
        go_ret
        exact ⟨rfl, D.out⟩
    · rw [meet_bad hok] at is ss
      clear sl h7 hm0 hm1
      go_wp2_with fail
      refine is.mono ?_
      rintro e w' ⟨rfl, rfl⟩
      clear is
      go_wp2_with fail
      refine ss.mono ?_
      rintro e w' ⟨rfl, rfl⟩
      clear ss
      go_wp2_with fail
      go_ret
      exact ⟨rfl, D.out⟩

set_option maxRecDepth 100000 in
set_option maxHeartbeats 4000000 in
theorem fnMeetMore_walk (a : Option Addr) (len cap : Nat) (w : World) (hc : CodeIn w a len cap) (hcap : cap ≤ maxLen) :
    Calls Try.prog 7 #[.slice a len cap] w fun e w' => e = .returned (.bool true) ∧ Below w.heap.size w w' := by
  have dn := dmeet_any a len cap w hc hcap
  by_cases hlen : 1048576 < len
  · go_enter Try.func7, Try.ntmps7
    go_wp2_with fail
    go_ret
    exact ⟨rfl, Below.refl _ _⟩
  · go_enter Try.func7, Try.ntmps7
    go_wp2_with fail
    refine dn.mono ?_
    rintro e w1 ⟨⟨n, m, rfl, h0, h7, hm0, hm1⟩, B⟩
    have D := Lib.hid B
    clear dn B
    have is := imeet_any n m w1
    have ss := smeet_any n m w1
    by_cases hok : (1 ≤ n ∧ n ≤ 5) ∧ 0 ≤ m ∧ m ≤ n
    · have hnn := meet_nn hok.1 hok.2
      have hL := fun h => meet_more hok.1 hok.2 h
      have mo := imeet_any n (m + 1) w1
      obtain ⟨q, hq⟩ : ∃ q, Hid (meetR n m = q) := ⟨_, Lib.hid rfl⟩
      obtain ⟨s, hs⟩ : ∃ q, Hid (meetR n (m + 1) = q) := ⟨_, Lib.hid rfl⟩
      rw [hq.out] at is ss hnn hL
      rw [hs.out] at mo hL
      replace hL := Lib.hid hL
      obtain ⟨⟨k1, k2⟩, k3, k4⟩ := hok
      by_cases hlt : m = n
      · subst hlt
        clear hL mo hs
        go_wp2_with fail
        refine is.mono ?_
        rintro e w' ⟨rfl, rfl⟩
        clear is
        go_wp2_with fail
        refine ss.mono ?_
        rintro e w' ⟨rfl, rfl⟩
        clear ss
        go_wp2_with fail
        go_ret
        exact ⟨rfl, D.out⟩
      · have l1 := hL.out hlt
        have hne : (m == n) = false := by simpa using hlt
        clear hL
        by_cases hsq : s = q
        · subst hsq
          go_wp2_with fail
          refine is.mono ?_
          rintro e w' ⟨rfl, rfl⟩
          clear is
          go_wp2_with fail
          refine ss.mono ?_
          rintro e w' ⟨rfl, rfl⟩
          clear ss
          go_wp2_with fail
          refine mo.mono ?_
          rintro e w' ⟨rfl, rfl⟩
          clear mo
          go_wp2_with fail
          go_ret
          exact ⟨rfl, D.out⟩
        · have hsq2 : s = q + 1 := by omega
          subst hsq2
          go_wp2_with fail
          refine is.mono ?_
          rintro e w' ⟨rfl, rfl⟩
          clear is
          go_wp2_with fail
          refine ss.mono ?_
          rintro e w' ⟨rfl, rfl⟩
          clear ss
          go_wp2_with fail
          refine mo.mono ?_
          rintro e w' ⟨rfl, rfl⟩
          clear mo
          go_wp2_with fail
          go_ret
          exact ⟨rfl, D.out⟩
    · rw [meet_bad hok] at is ss
      clear h7 hm0 hm1
      go_wp2_with fail
      refine is.mono ?_
      rintro e w' ⟨rfl, rfl⟩
      clear is
      go_wp2_with fail
      refine ss.mono ?_
      rintro e w' ⟨rfl, rfl⟩
      clear ss
      go_wp2_with fail
      go_ret
      exact ⟨rfl, D.out⟩

set_option maxRecDepth 100000 in
set_option maxHeartbeats 4000000 in
theorem fnMeetAll_walk (a : Option Addr) (len cap : Nat) (w : World) (hc : CodeIn w a len cap) (hcap : cap ≤ maxLen) :
    Calls Try.prog 8 #[.slice a len cap] w fun e w' => e = .returned (.bool true) ∧ Below w.heap.size w w' := by
  have dn := dmeet_any a len cap w hc hcap
  by_cases hlen : 1048576 < len
  · go_enter Try.func8, Try.ntmps8
    go_wp2_with fail
    go_ret
    exact ⟨rfl, Below.refl _ _⟩
  · go_enter Try.func8, Try.ntmps8
    go_wp2_with fail
    refine dn.mono ?_
    rintro e w1 ⟨⟨n, m, rfl, h0, h7, hm0, hm1⟩, B⟩
    have D := Lib.hid B
    clear dn B
    have is := imeet_any n m w1
    have ss := smeet_any n m w1
    by_cases hok : (1 ≤ n ∧ n ≤ 5) ∧ 0 ≤ m ∧ m ≤ n
    · have hnn := meet_nn hok.1 hok.2
      obtain ⟨hL1, hL2⟩ := meet_all hok.1 hok.2
      have mo := imeet_any n n w1
      have fa := ifast_any n w1
      rw [hL1] at mo
      obtain ⟨q, hq⟩ : ∃ q, Hid (meetR n m = q) := ⟨_, Lib.hid rfl⟩
      obtain ⟨s, hs⟩ : ∃ q, Hid (fastR n = q) := ⟨_, Lib.hid rfl⟩
      rw [hq.out] at is ss hnn hL2
      rw [hs.out] at mo fa hL2
      clear hL1
      obtain ⟨⟨k1, k2⟩, k3, k4⟩ := hok
      go_wp2_with fail
      refine is.mono ?_
      rintro e w' ⟨rfl, rfl⟩
      clear is
      go_wp2_with fail
      refine ss.mono ?_
      rintro e w' ⟨rfl, rfl⟩
      clear ss
      go_wp2_with fail
      refine mo.mono ?_
      rintro e w' ⟨rfl, rfl⟩
      clear mo
      go_wp2_with fail
      refine fa.mono ?_
      rintro e w' ⟨rfl, rfl⟩
      go_wp2_with fail
      refine fa.mono ?_
      rintro e w' ⟨rfl, rfl⟩
      clear fa
      go_wp2_with fail
      go_ret
      exact ⟨rfl, D.out⟩
    · rw [meet_bad hok] at is ss
      clear h7 hm0 hm1
      go_wp2_with fail
      refine is.mono ?_
      rintro e w' ⟨rfl, rfl⟩
      clear is
      go_wp2_with fail
      refine ss.mono ?_
      rintro e w' ⟨rfl, rfl⟩
      clear ss
      go_wp2_with fail
      go_ret
      exact ⟨rfl, D.out⟩

end Go.Proofs.Ytbamdeaonfgjgaa
