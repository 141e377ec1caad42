/- Texts laid together. -/
import Derived.Test.YtdikcenhakfheaaGreatDoorC01
import Derived.Laws.Bits64b
import Derived.Laws.Bits128
import Derived.Shelf.Spec.TrailingZeros
/- math/bits.OnesCount64. -/
namespace Go.Proofs.YtdikcenhakfheaaGreatDoor
open Go.RowKit
set_option linter.unusedVariables false

theorem wrapN (n : Nat) (h : n < 18446744073709551616) : IntKind.u64.wrap (n : Int) = (n : Int) := by rw [IntKind.wrap_u64]; omega

set_option maxRecDepth 100000 in
set_option maxHeartbeats 1000000 in
theorem ones_any (x : Nat) (w : World) (hx : x < 18446744073709551616) :
    Calls Tryz.prog 91 #[.int .u64 x] w fun e w' => e = .returned (.int .i64 (pc 64 x)) ∧ w = w' := by
  obtain ⟨A1, hA1⟩ : ∃ n, n = x / 2 &&& 6148914691236517205 := ⟨_, rfl⟩
  obtain ⟨A2, hA2⟩ : ∃ n, n = x &&& 6148914691236517205 := ⟨_, rfl⟩
  obtain ⟨a, ha⟩ : ∃ n, n = A1 + A2 := ⟨_, rfl⟩
  obtain ⟨B1, hB1⟩ : ∃ n, n = a / 4 &&& 3689348814741910323 := ⟨_, rfl⟩
  obtain ⟨B2, hB2⟩ : ∃ n, n = a &&& 3689348814741910323 := ⟨_, rfl⟩
  obtain ⟨b, hb⟩ : ∃ n, n = B1 + B2 := ⟨_, rfl⟩
  obtain ⟨c0, hc0⟩ : ∃ n, n = b / 16 + b := ⟨_, rfl⟩
  obtain ⟨c, hc⟩ : ∃ n, n = c0 &&& 1085102592571150095 := ⟨_, rfl⟩
  obtain ⟨d, hd⟩ : ∃ n, n = c + c / 256 := ⟨_, rfl⟩
  obtain ⟨e, he⟩ : ∃ n, n = d + d / 65536 := ⟨_, rfl⟩
  obtain ⟨f, hf⟩ : ∃ n, n = e + e / 4294967296 := ⟨_, rfl⟩
  have T := ones_trick x a b c hx (by rw [ha, hA1, hA2]) (by rw [hb, hB1, hB2]) (by rw [hc, hc0])
  rw [← hd, ← he, ← hf] at T
  obtain ⟨t1, t2, t3, t4, t5⟩ := T
  have a1 : bits .and .u64 ((x : Int) / 2) 6148914691236517205 = (A1 : Int) := by
    have := bits_and_u64_nat (x / 2) 6148914691236517205 (by omega) (by decide)
    rw [← hA1] at this; exact this
  have a2 : bits .and .u64 (x : Int) 6148914691236517205 = (A2 : Int) := by
    have := bits_and_u64_nat x 6148914691236517205 hx (by decide)
    rw [← hA2] at this; exact this
  have wa : IntKind.u64.wrap ((A1 : Int) + (A2 : Int)) = (a : Int) := by rw [← Int.natCast_add, ← ha]; exact wrapN a (by omega)
  have b1 : bits .and .u64 ((a : Int) / 4) 3689348814741910323 = (B1 : Int) := by
    have := bits_and_u64_nat (a / 4) 3689348814741910323 (by omega) (by decide)
    rw [← hB1] at this; exact this
  have b2 : bits .and .u64 (a : Int) 3689348814741910323 = (B2 : Int) := by
    have := bits_and_u64_nat a 3689348814741910323 (by omega) (by decide)
    rw [← hB2] at this; exact this
  have wb : IntKind.u64.wrap ((B1 : Int) + (B2 : Int)) = (b : Int) := by rw [← Int.natCast_add, ← hb]; exact wrapN b (by omega)
  have wc : IntKind.u64.wrap ((b : Int) / 16 + (b : Int)) = (c0 : Int) := by
    have := wrapN c0 (by omega)
    rw [show ((b : Int) / 16 + (b : Int)) = (c0 : Int) by omega]; exact this
  have c1 : bits .and .u64 (c0 : Int) 1085102592571150095 = (c : Int) := by
    have := bits_and_u64_nat c0 1085102592571150095 (by omega) (by decide)
    rw [← hc] at this; exact this
  have wd : IntKind.u64.wrap ((c : Int) + (c : Int) / 256) = (d : Int) := by
    rw [show ((c : Int) + (c : Int) / 256) = (d : Int) by omega]; exact wrapN d (by omega)
  have we : IntKind.u64.wrap ((d : Int) + (d : Int) / 65536) = (e : Int) := by
    rw [show ((d : Int) + (d : Int) / 65536) = (e : Int) by omega]; exact wrapN e (by omega)
  have wf : IntKind.u64.wrap ((e : Int) + (e : Int) / 4294967296) = (f : Int) := by
    rw [show ((e : Int) + (e : Int) / 4294967296) = (f : Int) by omega]; exact wrapN f (by omega)
  have wi : IntKind.i64.wrap (f : Int) = (f : Int) := IntWalk.i64_in _ (by omega)
  have g1 : bits .and .i64 (f : Int) 127 = ((pc 64 x : Nat) : Int) := by rw [i64_and127]; omega
  generalize pc 64 x = q at g1 t4 ⊢
  clear hA1 hA2 ha hB1 hB2 hb hc0 hc hd he hf t1 t2 t3 t4 t5
  go_enter Tryz.func91, Tryz.ntmps91
  go_wp2_with fail
  go_ret
  exact ⟨rfl, rfl⟩
end Go.Proofs.YtdikcenhakfheaaGreatDoor

/- Plain facts: a set's ids in order. -/
namespace Go.Proofs.YtdikcenhakfheaaGreatDoor
set_option linter.unusedVariables false

/-- The ids of a replica whose bits are m. -/
def bitsL (r m : Nat) : List Pid := (nums m).map fun n : Nat => ((r : Int), (n : Int))
/-- .. of the replicas from r on. -/
def idsFrom (f : Nat → Nat) : Nat → Nat → List Pid
  | _, 0 => []
  | r, k + 1 => bitsL r (f r) ++ idsFrom f (r + 1) k
def idsO (f : Nat → Nat) : List Pid := idsFrom f 0 5
theorem bitsL_len (r m : Nat) : (bitsL r m).length = pc 64 m := by unfold bitsL; rw [List.length_map, nums_len]
theorem bitsL_zero (r : Nat) : bitsL r 0 = [] := by unfold bitsL; rw [nums_zero]; rfl
theorem mem_bitsL {r m : Nat} {x : Pid} : x ∈ bitsL r m ↔ ∃ n : Nat, x = ((r : Int), (n : Int)) ∧ n < 64 ∧ m.testBit n = true := by
  unfold bitsL
  rw [List.mem_map]
  constructor
  · rintro ⟨n, h, rfl⟩; exact ⟨n, rfl, mem_nums.1 h⟩
  · rintro ⟨n, rfl, h⟩; exact ⟨n, mem_nums.2 h, rfl⟩
theorem bitsL_asc (r m : Nat) : Asc (bitsL r m) := by
  unfold bitsL Asc
  rw [List.pairwise_map]
  refine List.Pairwise.imp (R := (· < ·)) (fun {a b} h => ?_) (nums_asc m)
  have h' : a < b := h
  exact ltP_iff.2 (.inr ⟨rfl, by show (a : Int) < (b : Int); omega⟩)
theorem mem_from {f : Nat → Nat} {x : Pid} : ∀ {k r : Nat}, x ∈ idsFrom f r k ↔ ∃ r' n : Nat, x = ((r' : Int), (n : Int)) ∧ r ≤ r' ∧ r' < r + k ∧ n < 64 ∧ (f r').testBit n = true
  | 0, r => by simp [idsFrom]; intros; omega
  | k + 1, r => by
    rw [idsFrom, List.mem_append, mem_bitsL, mem_from]
    constructor
    · rintro (⟨n, rfl, h⟩ | ⟨r', n, rfl, h1, h2, h⟩)
      · exact ⟨r, n, rfl, Nat.le_refl _, by omega, h⟩
      · exact ⟨r', n, rfl, by omega, by omega, h⟩
    · rintro ⟨r', n, rfl, h1, h2, h⟩
      by_cases e : r' = r
      · subst e; exact .inl ⟨n, rfl, h⟩
      · exact .inr ⟨r', n, rfl, by omega, by omega, h⟩
theorem from_asc {f : Nat → Nat} : ∀ (k r : Nat), Asc (idsFrom f r k)
  | 0, r => asc_nil
  | k + 1, r => by
    rw [idsFrom]
    refine List.pairwise_append.2 ⟨bitsL_asc _ _, from_asc k (r + 1), fun x hx y hy => ?_⟩
    obtain ⟨n, rfl, _⟩ := mem_bitsL.1 hx
    obtain ⟨r', n', rfl, h1, _⟩ := mem_from.1 hy
    rw [ltP_iff]; simp; omega
theorem mem_idsO {f : Nat → Nat} {x : Pid} : x ∈ idsO f ↔ ∃ r n : Nat, x = ((r : Int), (n : Int)) ∧ r < 5 ∧ n < 64 ∧ (f r).testBit n = true := by
  unfold idsO
  rw [mem_from]
  constructor
  · rintro ⟨r, n, rfl, _, h2, h⟩; exact ⟨r, n, rfl, by omega, h⟩
  · rintro ⟨r, n, rfl, h2, h⟩; exact ⟨r, n, rfl, by omega, by omega, h⟩
theorem idsO_asc (f : Nat → Nat) : Asc (idsO f) := from_asc 5 0
def manyN (f : Nat → Nat) : Nat := pc 64 (f 0) + pc 64 (f 1) + pc 64 (f 2) + pc 64 (f 3) + pc 64 (f 4)
theorem idsO_len (f : Nat → Nat) : (idsO f).length = manyN f := by
  simp only [idsO, idsFrom, List.length_append, bitsL_len, List.length_nil, manyN, Nat.zero_add, Nat.reduceAdd]; omega
theorem manyN_le (f : Nat → Nat) : manyN f ≤ 320 := by
  unfold manyN
  have h0 := pc_le 64 (f 0); have h1 := pc_le 64 (f 1); have h2 := pc_le 64 (f 2); have h3 := pc_le 64 (f 3); have h4 := pc_le 64 (f 4)
  omega
/-- The lowest bit comes first. -/
theorem bitsL_cons {r m : Nat} (h0 : m ≠ 0) (h : m < 18446744073709551616) : bitsL r m = ((r : Int), ((Lib.ctz 64 m : Nat) : Int)) :: bitsL r (m &&& (m - 1)) := by
  obtain ⟨hk, ht, hlo, hcl⟩ := low_bit h0 h
  refine asc_ext (bitsL_asc r m) (List.pairwise_cons.2 ⟨fun x hx => ?_, bitsL_asc _ _⟩) (fun x => ?_)
  · obtain ⟨n, rfl, hn, hb⟩ := mem_bitsL.1 hx
    rw [hcl, Bool.and_eq_true, decide_eq_true_iff] at hb
    rw [ltP_iff]
    have : ¬ n < Lib.ctz 64 m := fun e => by rw [hlo n e] at hb; cases hb.1
    refine .inr ⟨rfl, ?_⟩
    have := hb.2
    show ((Lib.ctz 64 m : Nat) : Int) < (n : Int)
    omega
  · rw [List.mem_cons, mem_bitsL, mem_bitsL]
    constructor
    · rintro ⟨n, rfl, hn, hb⟩
      by_cases e : n = Lib.ctz 64 m
      · subst e; exact .inl rfl
      · exact .inr ⟨n, rfl, hn, by rw [hcl, hb, decide_eq_true e]; rfl⟩
    · rintro (rfl | ⟨n, rfl, hn, hb⟩)
      · exact ⟨_, rfl, hk, ht⟩
      · rw [hcl, Bool.and_eq_true] at hb
        exact ⟨n, rfl, hn, hb.1⟩

/-- A set of sorted ids has just these. -/
theorem idsO_mask {L : List Pid} (h : srtB L = true) : idsO (mask L) = L := by
  obtain ⟨h1, h2, h3⟩ := srt_of h
  refine asc_ext (idsO_asc _) h3 (fun x => ?_)
  rw [mem_idsO]
  constructor
  · rintro ⟨r, n, rfl, hr, hn, hb⟩; exact (mask_bit h2 r n).1 hb
  · intro hx
    obtain ⟨r, n, rfl, hr, hn, hn2⟩ := id_nat (List.all_eq_true.1 h2 x hx)
    exact ⟨r, n, rfl, hr, by omega, (mask_bit h2 r n).2 hx⟩

/-- Both lists joined. -/
def joinP (a b : List Pid) : List Pid := b.foldl putP a
theorem joinP_asc {a b : List Pid} (ha : Asc a) : Asc (joinP a b) := foldl_asc b ha
theorem joinP_mem {a b : List Pid} {x : Pid} : x ∈ joinP a b ↔ x ∈ a ∨ x ∈ b := foldl_mem b a x
theorem joinP_take {a b : List Pid} {k : Nat} (hk : k < b.length) : joinP a (b.take (k + 1)) = putP (joinP a (b.take k)) (b.getD k nop) := by
  rw [take_next hk]; unfold joinP; rw [List.foldl_append]; rfl
theorem joinP_len (a b : List Pid) : (joinP a b).length ≤ a.length + b.length := (foldl_len b a).2
/-- What DepsJoin answers. -/
def joinR (a b : List Pid) : List Pid × Bool := if srtB a = true ∧ srtB b = true ∧ (joinP a b).length ≤ 12 then (joinP a b, true) else ([], false)
theorem joinR_t {a b : List Pid} (h1 : srtB a = true) (h2 : srtB b = true) (h3 : (joinP a b).length ≤ 12) : joinR a b = (joinP a b, true) := if_pos ⟨h1, h2, h3⟩
theorem joinR_1 {a b : List Pid} (h : srtB a = false) : joinR a b = ([], false) := if_neg fun x => by rw [h] at x; cases x.1
theorem joinR_2 {a b : List Pid} (h : srtB b = false) : joinR a b = ([], false) := if_neg fun x => by rw [h] at x; cases x.2.1
theorem joinR_3 {a b : List Pid} (h : ¬ (joinP a b).length ≤ 12) : joinR a b = ([], false) := if_neg fun x => h x.2.2
theorem idsO_join {a b : List Pid} (ha : srtB a = true) (hb : srtB b = true) : idsO (fun r => setF a r ||| setF b r) = joinP a b := by
  rw [setF_t ha, setF_t hb]
  obtain ⟨a1, a2, a3⟩ := srt_of ha
  obtain ⟨b1, b2, b3⟩ := srt_of hb
  refine asc_ext (idsO_asc _) (joinP_asc a3) (fun x => ?_)
  rw [mem_idsO, joinP_mem]
  constructor
  · rintro ⟨r, n, rfl, hr, hn, hb⟩
    rw [Nat.testBit_or, Bool.or_eq_true, mask_bit a2, mask_bit b2] at hb
    exact hb
  · intro hx
    obtain ⟨r, n, rfl, hr, hn, hn2⟩ := id_nat (x := x) (by rcases hx with h | h; exact List.all_eq_true.1 a2 x h; exact List.all_eq_true.1 b2 x h)
    exact ⟨r, n, rfl, hr, by omega, by rw [Nat.testBit_or, Bool.or_eq_true, mask_bit a2, mask_bit b2]; exact hx⟩
end Go.Proofs.YtdikcenhakfheaaGreatDoor

/- math/bits.TrailingZeros64. -/
namespace Go.Proofs.YtdikcenhakfheaaGreatDoor
open Go.RowKit
set_option linter.unusedVariables false

theorem tz_core (x k idx : Nat) (w : World) (hx0 : ((x : Int) == 0) = false)
    (key : IntKind.u64.wrap (bits BinOp.and IntKind.u64 (x : Int) (IntKind.u64.wrap (-(x : Int))) * 285870213051353865) / 288230376151711744 = (idx : Int))
    (hi : idx < 64) (hk : k < 64) (hcell : w.cell? ⟨0, idx, none⟩ = some (.int .u8 k)) :
    Calls Tryz.prog 90 #[.int .u64 x] w fun e w' => e = .returned (.int .i64 k) ∧ w = w' := by
  go_enter Tryz.func90, Tryz.ntmps90
  go_wp2_with (simp only [key])
  go_ret
  exact ⟨rfl, rfl⟩

/-- The library's table lies in its variable. -/
def TabIn (w : World) : Prop := TabAt 0 Lib.deBruijn64tab w

theorem tz_any (x : Nat) (w : World) (hx : x < 18446744073709551616) (h0 : x ≠ 0) (hT : TabIn w) :
    Calls Tryz.prog 90 #[.int .u64 x] w fun e w' => e = .returned (.int .i64 (Lib.ctz 64 x)) ∧ w = w' := by
  obtain ⟨hlow, hk⟩ := Lib.lowest_bit 64 x h0 hx
  obtain ⟨hi, htab⟩ := Lib.deBruijn64_at _ hk
  have hcell := hT _ hi
  rw [htab] at hcell
  exact tz_core x _ _ w (by simp; omega) (tz64_key x _ hx h0 hlow) hi hk hcell
end Go.Proofs.YtdikcenhakfheaaGreatDoor
