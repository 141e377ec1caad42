/- Plain facts on numbers as sets of bits: how many, the lowest, the highest, in order. -/
import Derived.Test.YtbklkhndjckckaaIdm
import Derived.Lib.TrailingZeros
import Derived.Lib.BitFns
import Derived.Lib.ItoaNum
namespace Go.Proofs.Ytbklkhndjckckaa
set_option linter.unusedVariables false

/-- How many of the lowest n bits are set. -/
def pc : Nat → Nat → Nat
  | 0, _ => 0
  | n + 1, x => x % 2 + pc n (x / 2)
theorem pc_add : ∀ (m n x : Nat), pc (m + n) x = pc m (x % 2 ^ m) + pc n (x / 2 ^ m)
  | 0, n, x => by simp [pc]
  | m + 1, n, x => by
    rw [show m + 1 + n = (m + n) + 1 by omega, pc, pc, pc_add m n]
    have e1 : x % 2 ^ (m + 1) % 2 = x % 2 := by rw [Nat.pow_succ, Nat.mul_comm]; exact Nat.mod_mul_right_mod x 2 (2 ^ m)
    have e2 : x % 2 ^ (m + 1) / 2 = x / 2 % 2 ^ m := by rw [Nat.pow_succ, Nat.mul_comm, Nat.mod_mul_right_div_self]
    have e3 : x / 2 / 2 ^ m = x / 2 ^ (m + 1) := by rw [Nat.div_div_eq_div_mul, Nat.pow_succ, Nat.mul_comm]
    rw [e1, e2, e3]; omega
theorem pc_le : ∀ (n x : Nat), pc n x ≤ n
  | 0, _ => Nat.le_refl _
  | n + 1, x => by unfold pc; have := pc_le n (x / 2); omega

/-- Numbers out of bytes, the lowest first. -/
def dig : List Nat → Nat
  | [] => 0
  | b :: r => b + 256 * dig r
theorem and_parts (k b m h g : Nat) (hb : b < 2 ^ k) (hm : m < 2 ^ k) : (b + 2 ^ k * h) &&& (m + 2 ^ k * g) = (b &&& m) + 2 ^ k * (h &&& g) := by
  have hbm : b &&& m < 2 ^ k := Nat.and_lt_two_pow _ hm
  apply Nat.eq_of_testBit_eq
  intro i
  rw [Nat.testBit_and, Nat.add_comm b, Nat.add_comm m, Nat.add_comm (b &&& m), Nat.testBit_two_pow_mul_add _ hb, Nat.testBit_two_pow_mul_add _ hm, Nat.testBit_two_pow_mul_add _ hbm]
  split
  · rw [Nat.testBit_and]
  · rw [Nat.testBit_and]
theorem and_dig (b m h g : Nat) (hb : b < 256) (hm : m < 256) : (b + 256 * h) &&& (m + 256 * g) = (b &&& m) + 256 * (h &&& g) := and_parts 8 b m h g hb hm

def s1 (b : Nat) : Nat := (b / 2 &&& 85) + (b &&& 85)
def s2 (b : Nat) : Nat := (b / 4 &&& 51) + (b &&& 51)
def s3 (b : Nat) : Nat := (b / 16 + b) &&& 15
theorem s1_lt : ∀ b, b < 256 → s1 b < 256 ∧ ∀ t, t < 2 → (b / 2 + 128 * t) &&& 85 = b / 2 &&& 85 := by decide +kernel
theorem s2_lt : ∀ b, b < 256 → s2 b < 256 ∧ ∀ t, t < 4 → (b / 4 + 64 * t) &&& 51 = b / 4 &&& 51 := by decide +kernel
theorem s3_lt : ∀ b, b < 69 → b % 16 < 5 → ∀ t, t < 5 → (b / 16 + 16 * t + b) &&& 15 = s3 b := by decide +kernel
theorem s_all : ∀ b, b < 256 → s2 (s1 b) < 69 ∧ s2 (s1 b) % 16 < 5 ∧ s3 (s2 (s1 b)) = pc 8 b := by decide +kernel

def rep (n m : Nat) : Nat := dig (List.replicate n m)
theorem dig_one : ∀ bs : List Nat, (∀ b ∈ bs, b < 256) → (dig bs / 2 &&& rep bs.length 85) + (dig bs &&& rep bs.length 85) = dig (bs.map s1)
  | [], _ => rfl
  | b :: r, h => by
    have ih := dig_one r (fun x hx => h x (List.mem_cons_of_mem _ hx))
    have hb := h b List.mem_cons_self
    have hs := (s1_lt b hb).2 (dig r % 2) (by omega)
    have e : dig (b :: r) / 2 = (b / 2 + 128 * (dig r % 2)) + 256 * (dig r / 2) := by simp only [dig]; omega
    rw [e]
    simp only [rep, List.length_cons, List.replicate_succ, dig, List.map_cons] at ih ⊢
    rw [and_dig _ _ _ _ (by omega) (by decide), and_dig _ _ _ _ hb (by decide), hs, ← ih]
    unfold s1; omega
theorem dig_two : ∀ bs : List Nat, (∀ b ∈ bs, b < 256) → (dig bs / 4 &&& rep bs.length 51) + (dig bs &&& rep bs.length 51) = dig (bs.map s2)
  | [], _ => rfl
  | b :: r, h => by
    have ih := dig_two r (fun x hx => h x (List.mem_cons_of_mem _ hx))
    have hb := h b List.mem_cons_self
    have hs := (s2_lt b hb).2 (dig r % 4) (by omega)
    have e : dig (b :: r) / 4 = (b / 4 + 64 * (dig r % 4)) + 256 * (dig r / 4) := by simp only [dig]; omega
    rw [e]
    simp only [rep, List.length_cons, List.replicate_succ, dig, List.map_cons] at ih ⊢
    rw [and_dig _ _ _ _ (by omega) (by decide), and_dig _ _ _ _ hb (by decide), hs, ← ih]
    unfold s2; omega
theorem dig_three : ∀ bs : List Nat, (∀ b ∈ bs, b < 69 ∧ b % 16 < 5) → (dig bs / 16 + dig bs) &&& rep bs.length 15 = dig (bs.map s3)
  | [], _ => rfl
  | b :: r, h => by
    have ih := dig_three r (fun x hx => h x (List.mem_cons_of_mem _ hx))
    have hb := h b List.mem_cons_self
    have ht : dig r % 16 < 5 := by
      cases r with
      | nil => decide
      | cons c q => have := (h c (by simp)).2; simp only [dig]; omega
    have hs := s3_lt b hb.1 hb.2 (dig r % 16) ht
    have e : dig (b :: r) / 16 + dig (b :: r) = (b / 16 + 16 * (dig r % 16) + b) + 256 * (dig r / 16 + dig r) := by simp only [dig]; omega
    rw [e]
    simp only [rep, List.length_cons, List.replicate_succ, dig, List.map_cons] at ih ⊢
    rw [and_dig _ _ _ _ (by omega) (by decide), hs, ih]

/-- The bytes of a number. -/
def byt : Nat → Nat → List Nat
  | 0, _ => []
  | n + 1, x => x % 256 :: byt n (x / 256)
theorem byt_lt : ∀ (n x : Nat), ∀ b ∈ byt n x, b < 256
  | 0, _, b, hb => by simp [byt] at hb
  | n + 1, x, b, hb => by
    simp only [byt, List.mem_cons] at hb
    rcases hb with rfl | hb
    · exact Nat.mod_lt _ (by decide)
    · exact byt_lt n _ b hb
theorem byt_len : ∀ (n x : Nat), (byt n x).length = n
  | 0, _ => rfl
  | n + 1, x => by simp [byt, byt_len n]
theorem byt_dig : ∀ (n x : Nat), x < 256 ^ n → dig (byt n x) = x
  | 0, x, h => by simp at h; simp [byt, dig, h]
  | n + 1, x, h => by
    simp only [byt, dig]
    rw [byt_dig n (x / 256) (by rw [Nat.pow_succ] at h; omega)]; omega
theorem byt_pc : ∀ (n x : Nat), ((byt n x).map (pc 8)).sum = pc (8 * n) x
  | 0, x => rfl
  | n + 1, x => by
    rw [show 8 * (n + 1) = 8 + 8 * n by omega, pc_add]
    simp only [byt, List.map_cons, List.sum_cons]
    rw [byt_pc n]

theorem ones_sum (c c0 c1 c2 c3 c4 c5 c6 c7 : Nat) (e : c = c0 + 256 * (c1 + 256 * (c2 + 256 * (c3 + 256 * (c4 + 256 * (c5 + 256 * (c6 + 256 * (c7 + 256 * 0))))))))
    (p0 : c0 ≤ 8) (p1 : c1 ≤ 8) (p2 : c2 ≤ 8) (p3 : c3 ≤ 8) (p4 : c4 ≤ 8) (p5 : c5 ≤ 8) (p6 : c6 ≤ 8) (p7 : c7 ≤ 8) :
    c ≤ 578721382704613384 ∧ ((c + c / 256) + (c + c / 256) / 65536 + ((c + c / 256) + (c + c / 256) / 65536) / 4294967296) % 128 = c0 + (c1 + (c2 + (c3 + (c4 + (c5 + (c6 + (c7 + 0))))))) ∧ (c + c / 256) + (c + c / 256) / 65536 + ((c + c / 256) + (c + c / 256) / 65536) / 4294967296 < 2305843009213693952 := by
  have d1 : c / 256 = c1 + 256 * (c2 + 256 * (c3 + 256 * (c4 + 256 * (c5 + 256 * (c6 + 256 * c7))))) := by omega
  obtain ⟨a, ha⟩ : ∃ a, c + c / 256 = a := ⟨_, rfl⟩
  have e1 : a = (c0 + c1) + 256 * ((c1 + c2) + 256 * ((c2 + c3) + 256 * ((c3 + c4) + 256 * ((c4 + c5) + 256 * ((c5 + c6) + 256 * ((c6 + c7) + 256 * c7)))))) := by omega
  rw [ha]
  have d2 : a / 65536 = (c2 + c3) + 256 * ((c3 + c4) + 256 * ((c4 + c5) + 256 * ((c5 + c6) + 256 * ((c6 + c7) + 256 * c7)))) := by clear ha d1 e; omega
  have hc : c ≤ 578721382704613384 := by clear ha d1 d2 e1; omega
  obtain ⟨b, hb⟩ : ∃ b, a + a / 65536 = b := ⟨_, rfl⟩
  have e2 : b = (c0 + c1 + c2 + c3) + 256 * ((c1 + c2 + c3 + c4) + 256 * ((c2 + c3 + c4 + c5) + 256 * ((c3 + c4 + c5 + c6) + 256 * ((c4 + c5 + c6 + c7) + 256 * ((c5 + c6 + c7) + 256 * ((c6 + c7) + 256 * c7)))))) := by clear ha d1 e; omega
  rw [hb]
  clear ha d1 e d2 e1 hb
  have d3 : b / 4294967296 = (c4 + c5 + c6 + c7) + 256 * ((c5 + c6 + c7) + 256 * ((c6 + c7) + 256 * c7)) := by omega
  rw [d3]
  refine ⟨hc, ?_, ?_⟩
  · omega
  · omega

set_option maxRecDepth 100000 in
set_option maxHeartbeats 1000000 in
/-- What OnesCount64 reckons. -/
theorem ones_trick (x a b c : Nat) (hx : x < 18446744073709551616) (ha : a = (x / 2 &&& 6148914691236517205) + (x &&& 6148914691236517205)) (hb : b = (a / 4 &&& 3689348814741910323) + (a &&& 3689348814741910323))
    (hc : c = (b / 16 + b) &&& 1085102592571150095) :
    a ≤ 12297829382473034410 ∧ b ≤ 7378697629483820646 ∧ c ≤ 578721382704613384 ∧ ((c + c / 256) + (c + c / 256) / 65536 + ((c + c / 256) + (c + c / 256) / 65536) / 4294967296) % 128 = pc 64 x ∧ (c + c / 256) + (c + c / 256) / 65536 + ((c + c / 256) + (c + c / 256) / 65536) / 4294967296 < 2305843009213693952 := by
  have r1 : rep 8 85 = 6148914691236517205 := by decide +kernel
  have r2 : rep 8 51 = 3689348814741910323 := by decide +kernel
  have r3 : rep 8 15 = 1085102592571150095 := by decide +kernel
  have hA : ∀ b ∈ byt 8 x, b < 256 := byt_lt 8 x
  have e1 := dig_one (byt 8 x) hA
  have h8 : x < 256 ^ 8 := by omega
  rw [byt_dig 8 x h8, byt_len, r1, ← ha] at e1
  have hB : ∀ b ∈ (byt 8 x).map s1, b < 256 := by
    intro b hb; obtain ⟨y, hy, rfl⟩ := List.mem_map.1 hb; exact (s1_lt y (hA y hy)).1
  have e2 := dig_two ((byt 8 x).map s1) hB
  rw [← e1, List.length_map, byt_len, r2, ← hb] at e2
  have hC : ∀ b ∈ ((byt 8 x).map s1).map s2, b < 69 ∧ b % 16 < 5 := by
    intro b hb
    obtain ⟨z, hz, rfl⟩ := List.mem_map.1 hb
    obtain ⟨y, hy, rfl⟩ := List.mem_map.1 hz
    have := s_all y (hA y hy); exact ⟨this.1, this.2.1⟩
  have e3 := dig_three (((byt 8 x).map s1).map s2) hC
  rw [← e2, List.length_map, List.length_map, byt_len, r3, ← hc] at e3
  have e4 : (((byt 8 x).map s1).map s2).map s3 = (byt 8 x).map (pc 8) := by
    rw [List.map_map, List.map_map]
    apply List.map_congr_left
    intro y hy
    exact (s_all y (hA y hy)).2.2
  rw [e4] at e3
  have e5 := byt_pc 8 x
  have a1 : (x / 2 &&& 6148914691236517205) ≤ 6148914691236517205 := Nat.and_le_right
  have a2 : (x &&& 6148914691236517205) ≤ 6148914691236517205 := Nat.and_le_right
  have a3 : (a / 4 &&& 3689348814741910323) ≤ 3689348814741910323 := Nat.and_le_right
  have a4 : (a &&& 3689348814741910323) ≤ 3689348814741910323 := Nat.and_le_right
  refine ⟨by omega, by omega, ?_⟩
  clear a1 a2 a3 a4 e4 hC e2 hB e1 hc hb ha r1 r2 r3
  simp only [byt, List.map_cons, List.map_nil, dig, List.sum_cons, List.sum_nil] at e3 e5
  have h := ones_sum c _ _ _ _ _ _ _ _ e3 (pc_le 8 _) (pc_le 8 _) (pc_le 8 _) (pc_le 8 _) (pc_le 8 _) (pc_le 8 _) (pc_le 8 _) (pc_le 8 _)
  rw [e5] at h
  exact h

/-- Which bits are set, in order. -/
def nums (m : Nat) : List Nat := (List.range 64).filter fun i => m.testBit i
theorem mem_nums {m n : Nat} : n ∈ nums m ↔ n < 64 ∧ m.testBit n = true := by simp [nums]
theorem count_pc : ∀ (n m : Nat), (List.range n).countP (fun i => m.testBit i) = pc n m
  | 0, m => rfl
  | n + 1, m => by
    rw [List.range_succ_eq_map, List.countP_cons, List.countP_map, pc, ← count_pc n (m / 2)]
    have e : ((fun i => m.testBit i) ∘ Nat.succ) = fun i => (m / 2).testBit i := by
      funext i; simp [Nat.testBit_succ]
    rw [e, Nat.testBit_zero]
    rcases Nat.mod_two_eq_zero_or_one m with h | h <;> simp [h] <;> omega
theorem nums_len (m : Nat) : (nums m).length = pc 64 m := by
  unfold nums; rw [← List.countP_eq_length_filter]; exact count_pc 64 m
theorem nums_asc (m : Nat) : (nums m).Pairwise (· < ·) := List.Pairwise.filter _ List.pairwise_lt_range
theorem nums_zero : nums 0 = [] := by unfold nums; rw [List.filter_eq_nil_iff]; intro a _; simp

/-- The lowest bit. -/
theorem low_bit {x : Nat} (h0 : x ≠ 0) (h : x < 18446744073709551616) :
    Lib.ctz 64 x < 64 ∧ x.testBit (Lib.ctz 64 x) = true ∧ (∀ i, i < Lib.ctz 64 x → x.testBit i = false) ∧ (∀ i, (x &&& (x - 1)).testBit i = (x.testBit i && decide (i ≠ Lib.ctz 64 x))) := by
  obtain ⟨m, hm, hk⟩ := Lib.ctzFrom_spec 64 x (by omega) h
  have e : Lib.ctz 64 x = Lib.ctzFrom 64 x := by simp [Lib.ctz, h0]
  rw [e]
  generalize Lib.ctzFrom 64 x = k at *
  have hp : 0 < 2 ^ k := Nat.two_pow_pos k
  have t1 : ∀ i, x.testBit i = if i < k then false else (2 * m + 1).testBit (i - k) := by
    intro i
    have := Nat.testBit_two_pow_mul_add (2 * m + 1) (b := 0) hp i
    rw [Nat.add_zero, ← hm] at this
    rw [this]; simp
  have t2 : ∀ i, (x - 1).testBit i = if i < k then (2 ^ k - 1).testBit i else (2 * m).testBit (i - k) := by
    intro i
    have e2 : x - 1 = 2 ^ k * (2 * m) + (2 ^ k - 1) := by rw [hm, Nat.mul_add]; omega
    rw [e2, Nat.testBit_two_pow_mul_add _ (by omega)]
  refine ⟨hk, ?_, fun i hi => by rw [t1, if_pos hi], fun i => ?_⟩
  · rw [t1, if_neg (Nat.lt_irrefl _), Nat.sub_self, Nat.testBit_zero]; simp
  · rw [Nat.testBit_and, t2, t1]
    by_cases hi : i < k
    · simp [hi]
    · rw [if_neg hi, if_neg hi]
      by_cases he : i = k
      · subst he; simp [Nat.testBit_zero]
      · obtain ⟨j, hj⟩ : ∃ j, i - k = j + 1 := ⟨i - k - 1, by omega⟩
        rw [hj, Nat.testBit_succ, Nat.testBit_succ, show (2 * m + 1) / 2 = m by omega, show 2 * m / 2 = m by omega]
        simp [he]
theorem low_less {x : Nat} (h0 : x ≠ 0) : x &&& (x - 1) < x := Nat.lt_of_le_of_lt Nat.and_le_right (by omega)

/-- The highest bit. -/
theorem high_bit {x : Nat} (h0 : x ≠ 0) (h : x < 18446744073709551616) :
    1 ≤ Lib.bitLen x ∧ Lib.bitLen x ≤ 64 ∧ x.testBit (Lib.bitLen x - 1) = true ∧ ∀ i, Lib.bitLen x ≤ i → x.testBit i = false := by
  have hb := Lib.bitLenAux_bounds 64 x h h0
  have hl : Lib.bitLen x ≤ 64 := Lib.bitLen_le x 64 (Nat.le_refl _) h
  unfold Lib.bitLen at *
  generalize Lib.bitLenAux 64 x = L at *
  obtain ⟨h1, h2, h3⟩ := hb
  refine ⟨h1, hl, ?_, fun i hi => Nat.testBit_lt_two_pow (Nat.lt_of_lt_of_le h3 (Nat.pow_le_pow_right (by decide) hi))⟩
  obtain ⟨k, rfl⟩ : ∃ k, L = k + 1 := ⟨L - 1, by omega⟩
  rw [Nat.add_sub_cancel] at h2 ⊢
  have e : x = 2 ^ k * 1 + (x - 2 ^ k) := by omega
  rw [e, Nat.testBit_two_pow_mul_add _ (by rw [Nat.pow_succ] at h3; omega), if_neg (Nat.lt_irrefl _), Nat.sub_self]; decide
end Go.Proofs.Ytbklkhndjckckaa
