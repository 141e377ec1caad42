/- Texts laid together. -/
import Derived.Test.YtfcjhojkfchccaaC01
import Derived.Test.YtfcjhojkfchccaaC13
import Derived.Test.YtfcjhojkfchccaaC10
import Derived.Test.YtfcjhojkfchccaaC11
import Derived.Test.YtfcjhojkfchccaaC15
import Derived.Test.YtfcjhojkfchccaaC17
import Derived.Test.YtfcjhojkfchccaaC12
import Derived.Test.YtfcjhojkfchccaaC07
/- Plain facts: a set's ids in order. -/
namespace Go.Proofs.Ytfcjhojkfchccaa
set_option linter.unusedVariables false

/-- The ids of a replica whose bits are m. -/
def bitsL (r m : Nat) : List Pid := (nums m).map fun n : Nat => ((r : Int), (n : Int))
/-- .. of the replicas from r on. -/
def idsFrom (f : Nat → Nat) : Nat → Nat → List Pid
  | _, 0 => []
  | r, k + 1 => bitsL r (f r) ++ idsFrom f (r + 1) k
def idsO (f : Nat → Nat) : List Pid := idsFrom f 0 5
theorem bitsL_len (r m : Nat) : (bitsL r m).length = pc 64 m := by unfold bitsL; rw [List.length_map, nums_len]
theorem bitsL_zero (r : Nat) : bitsL r 0 = [] := by unfold bitsL; rw [nums_zero]; rfl
theorem mem_bitsL {r m : Nat} {x : Pid} : x ∈ bitsL r m ↔ ∃ n : Nat, x = ((r : Int), (n : Int)) ∧ n < 64 ∧ m.testBit n = true := by
  unfold bitsL
  rw [List.mem_map]
  constructor
  · rintro ⟨n, h, rfl⟩; exact ⟨n, rfl, mem_nums.1 h⟩
  · rintro ⟨n, rfl, h⟩; exact ⟨n, mem_nums.2 h, rfl⟩
theorem bitsL_asc (r m : Nat) : Asc (bitsL r m) := by
  unfold bitsL Asc
  rw [List.pairwise_map]
  refine List.Pairwise.imp (R := (· < ·)) (fun {a b} h => ?_) (nums_asc m)
  have h' : a < b := h
  exact ltP_iff.2 (.inr ⟨rfl, by show (a : Int) < (b : Int); omega⟩)
theorem mem_from {f : Nat → Nat} {x : Pid} : ∀ {k r : Nat}, x ∈ idsFrom f r k ↔ ∃ r' n : Nat, x = ((r' : Int), (n : Int)) ∧ r ≤ r' ∧ r' < r + k ∧ n < 64 ∧ (f r').testBit n = true
  | 0, r => by simp [idsFrom]; intros; omega
  | k + 1, r => by
    rw [idsFrom, List.mem_append, mem_bitsL, mem_from]
    constructor
    · rintro (⟨n, rfl, h⟩ | ⟨r', n, rfl, h1, h2, h⟩)
      · exact ⟨r, n, rfl, Nat.le_refl _, by omega, h⟩
      · exact ⟨r', n, rfl, by omega, by omega, h⟩
    · rintro ⟨r', n, rfl, h1, h2, h⟩
      by_cases e : r' = r
      · subst e; exact .inl ⟨n, rfl, h⟩
      · exact .inr ⟨r', n, rfl, by omega, by omega, h⟩
theorem from_asc {f : Nat → Nat} : ∀ (k r : Nat), Asc (idsFrom f r k)
  | 0, r => asc_nil
  | k + 1, r => by
    rw [idsFrom]
    refine List.pairwise_append.2 ⟨bitsL_asc _ _, from_asc k (r + 1), fun x hx y hy => ?_⟩
    obtain ⟨n, rfl, _⟩ := mem_bitsL.1 hx
    obtain ⟨r', n', rfl, h1, _⟩ := mem_from.1 hy
    rw [ltP_iff]; simp; omega
theorem mem_idsO {f : Nat → Nat} {x : Pid} : x ∈ idsO f ↔ ∃ r n : Nat, x = ((r : Int), (n : Int)) ∧ r < 5 ∧ n < 64 ∧ (f r).testBit n = true := by
  unfold idsO
  rw [mem_from]
  constructor
  · rintro ⟨r, n, rfl, _, h2, h⟩; exact ⟨r, n, rfl, by omega, h⟩
  · rintro ⟨r, n, rfl, h2, h⟩; exact ⟨r, n, rfl, by omega, by omega, h⟩
theorem idsO_asc (f : Nat → Nat) : Asc (idsO f) := from_asc 5 0
def manyN (f : Nat → Nat) : Nat := pc 64 (f 0) + pc 64 (f 1) + pc 64 (f 2) + pc 64 (f 3) + pc 64 (f 4)
theorem idsO_len (f : Nat → Nat) : (idsO f).length = manyN f := by
  simp only [idsO, idsFrom, List.length_append, bitsL_len, List.length_nil, manyN, Nat.zero_add, Nat.reduceAdd]; omega
theorem manyN_le (f : Nat → Nat) : manyN f ≤ 320 := by
  unfold manyN
  have h0 := pc_le 64 (f 0); have h1 := pc_le 64 (f 1); have h2 := pc_le 64 (f 2); have h3 := pc_le 64 (f 3); have h4 := pc_le 64 (f 4)
  omega
/-- The lowest bit comes first. -/
theorem bitsL_cons {r m : Nat} (h0 : m ≠ 0) (h : m < 18446744073709551616) : bitsL r m = ((r : Int), ((Lib.ctz 64 m : Nat) : Int)) :: bitsL r (m &&& (m - 1)) := by
  obtain ⟨hk, ht, hlo, hcl⟩ := low_bit h0 h
  refine asc_ext (bitsL_asc r m) (List.pairwise_cons.2 ⟨fun x hx => ?_, bitsL_asc _ _⟩) (fun x => ?_)
  · obtain ⟨n, rfl, hn, hb⟩ := mem_bitsL.1 hx
    rw [hcl, Bool.and_eq_true, decide_eq_true_iff] at hb
    rw [ltP_iff]
    have : ¬ n < Lib.ctz 64 m := fun e => by rw [hlo n e] at hb; cases hb.1
    refine .inr ⟨rfl, ?_⟩
    have := hb.2
    show ((Lib.ctz 64 m : Nat) : Int) < (n : Int)
    omega
  · rw [List.mem_cons, mem_bitsL, mem_bitsL]
    constructor
    · rintro ⟨n, rfl, hn, hb⟩
      by_cases e : n = Lib.ctz 64 m
      · subst e; exact .inl rfl
      · exact .inr ⟨n, rfl, hn, by rw [hcl, hb, decide_eq_true e]; rfl⟩
    · rintro (rfl | ⟨n, rfl, hn, hb⟩)
      · exact ⟨_, rfl, hk, ht⟩
      · rw [hcl, Bool.and_eq_true] at hb
        exact ⟨n, rfl, hn, hb.1⟩

/-- A set of sorted ids has just these. -/
theorem idsO_mask {L : List Pid} (h : srtB L = true) : idsO (mask L) = L := by
  obtain ⟨h1, h2, h3⟩ := srt_of h
  refine asc_ext (idsO_asc _) h3 (fun x => ?_)
  rw [mem_idsO]
  constructor
  · rintro ⟨r, n, rfl, hr, hn, hb⟩; exact (mask_bit h2 r n).1 hb
  · intro hx
    obtain ⟨r, n, rfl, hr, hn, hn2⟩ := id_nat (List.all_eq_true.1 h2 x hx)
    exact ⟨r, n, rfl, hr, by omega, (mask_bit h2 r n).2 hx⟩

/-- Both lists joined. -/
def joinP (a b : List Pid) : List Pid := b.foldl putP a
theorem joinP_asc {a b : List Pid} (ha : Asc a) : Asc (joinP a b) := foldl_asc b ha
theorem joinP_mem {a b : List Pid} {x : Pid} : x ∈ joinP a b ↔ x ∈ a ∨ x ∈ b := foldl_mem b a x
theorem joinP_take {a b : List Pid} {k : Nat} (hk : k < b.length) : joinP a (b.take (k + 1)) = putP (joinP a (b.take k)) (b.getD k nop) := by
  rw [take_next hk]; unfold joinP; rw [List.foldl_append]; rfl
theorem joinP_len (a b : List Pid) : (joinP a b).length ≤ a.length + b.length := (foldl_len b a).2
/-- What DepsJoin answers. -/
def joinR (a b : List Pid) : List Pid × Bool := if srtB a = true ∧ srtB b = true ∧ (joinP a b).length ≤ 12 then (joinP a b, true) else ([], false)
theorem joinR_t {a b : List Pid} (h1 : srtB a = true) (h2 : srtB b = true) (h3 : (joinP a b).length ≤ 12) : joinR a b = (joinP a b, true) := if_pos ⟨h1, h2, h3⟩
theorem joinR_1 {a b : List Pid} (h : srtB a = false) : joinR a b = ([], false) := if_neg fun x => by rw [h] at x; cases x.1
theorem joinR_2 {a b : List Pid} (h : srtB b = false) : joinR a b = ([], false) := if_neg fun x => by rw [h] at x; cases x.2.1
theorem joinR_3 {a b : List Pid} (h : ¬ (joinP a b).length ≤ 12) : joinR a b = ([], false) := if_neg fun x => h x.2.2
theorem idsO_join {a b : List Pid} (ha : srtB a = true) (hb : srtB b = true) : idsO (fun r => setF a r ||| setF b r) = joinP a b := by
  rw [setF_t ha, setF_t hb]
  obtain ⟨a1, a2, a3⟩ := srt_of ha
  obtain ⟨b1, b2, b3⟩ := srt_of hb
  refine asc_ext (idsO_asc _) (joinP_asc a3) (fun x => ?_)
  rw [mem_idsO, joinP_mem]
  constructor
  · rintro ⟨r, n, rfl, hr, hn, hb⟩
    rw [Nat.testBit_or, Bool.or_eq_true, mask_bit a2, mask_bit b2] at hb
    exact hb
  · intro hx
    obtain ⟨r, n, rfl, hr, hn, hn2⟩ := id_nat (x := x) (by rcases hx with h | h; exact List.all_eq_true.1 a2 x h; exact List.all_eq_true.1 b2 x h)
    exact ⟨r, n, rfl, hr, by omega, by rw [Nat.testBit_or, Bool.or_eq_true, mask_bit a2, mask_bit b2]; exact hx⟩
end Go.Proofs.Ytfcjhojkfchccaa

/- What AnswersJoin and PathOf answer: plain facts. -/
namespace Go.Proofs.Ytfcjhojkfchccaa
set_option linter.unusedVariables false

/-- An answer is joined. -/
def ansS (o x : En) : En := { o with seq := max o.seq x.seq, deps := joinP o.deps x.deps }
/-- All answers are joined. -/
def ansE (own : En) (A : List En) : En := A.foldl ansS own
/-- An answer is about the same. -/
def oneB (own x : En) : Bool := enB x && decide (x.id = own.id ∧ (x.k = own.k ∧ x.key = own.key ∧ x.v = own.v) ∧ x.st = 1)
/-- What valid answers are. -/
def answB (own : En) (A : List En) : Bool := A.all (oneB own) && (enB own && (decide (own.st = 1) && decide (A.length < 5)))
/-- What AnswersJoin answers. -/
def ansR (own : En) (A : List En) : En × Bool := if answB own A = true ∧ enB (ansE own A) = true then (ansE own A, true) else (en0, false)
/-- An answer has the same rank and the same ids. -/
def likeB (own x : En) : Bool := decide (x.seq = own.seq ∧ x.deps = own.deps)
theorem take_nextE {A : List En} {k : Nat} (hk : k < A.length) : A.take (k + 1) = A.take k ++ [A.getD k en0] := by
  rw [List.take_add_one, List.getElem?_eq_getElem hk, List.getD_eq_getElem?_getD, List.getElem?_eq_getElem hk]; rfl
theorem ansE_next {own : En} {A : List En} {k : Nat} (hk : k < A.length) : ansE own (A.take (k + 1)) = ansS (ansE own (A.take k)) (A.getD k en0) := by
  rw [take_nextE hk]; unfold ansE; rw [List.foldl_append]; rfl
theorem ansE_keep : ∀ (A : List En) (own : En), (ansE own A).id = own.id ∧ (ansE own A).bal = own.bal ∧ (ansE own A).st = own.st ∧ (ansE own A).k = own.k ∧ (ansE own A).key = own.key ∧ (ansE own A).v = own.v
  | [], own => ⟨rfl, rfl, rfl, rfl, rfl, rfl⟩
  | x :: A, own => by
    obtain ⟨h1, h2, h3, h4, h5, h6⟩ := ansE_keep A (ansS own x)
    exact ⟨h1, h2, h3, h4, h5, h6⟩
theorem ansE_mem : ∀ (A : List En) (own : En) (a : Pid), a ∈ (ansE own A).deps ↔ a ∈ own.deps ∨ ∃ x ∈ A, a ∈ x.deps
  | [], own, a => by simp [ansE]
  | x :: A, own, a => by
    have h := ansE_mem A (ansS own x) a
    show a ∈ (ansE (ansS own x) A).deps ↔ _
    rw [h]
    have e : a ∈ (ansS own x).deps ↔ a ∈ own.deps ∨ a ∈ x.deps := joinP_mem
    rw [e]
    constructor
    · rintro ((h | h) | ⟨y, hy, h⟩)
      · exact .inl h
      · exact .inr ⟨x, List.mem_cons_self .., h⟩
      · exact .inr ⟨y, List.mem_cons_of_mem _ hy, h⟩
    · rintro (h | ⟨y, hy, h⟩)
      · exact .inl (.inl h)
      · rcases List.mem_cons.1 hy with e | hy
        · exact .inl (.inr (by rw [← e]; exact h))
        · exact .inr ⟨y, hy, h⟩
theorem ansE_asc : ∀ (A : List En) (own : En), Asc own.deps → Asc (ansE own A).deps
  | [], own, h => h
  | x :: A, own, h => ansE_asc A (ansS own x) (joinP_asc h)
/-- The greatest rank. -/
def mostS (s : Int) (A : List En) : Int := A.foldl (fun m x => max m x.seq) s
theorem ansE_seq : ∀ (A : List En) (own : En), (ansE own A).seq = mostS own.seq A
  | [], own => rfl
  | x :: A, own => ansE_seq A (ansS own x)
theorem mostS_next {s : Int} {A : List En} {k : Nat} (hk : k < A.length) : mostS s (A.take (k + 1)) = max (mostS s (A.take k)) (A.getD k en0).seq := by
  rw [take_nextE hk]; unfold mostS; rw [List.foldl_append]; rfl
theorem mostS_ge : ∀ (A : List En) (s : Int), s ≤ mostS s A
  | [], s => Int.le_refl _
  | x :: A, s => Int.le_trans (Int.le_max_left _ _) (mostS_ge A (max s x.seq))
theorem mostS_mem : ∀ (A : List En) (s : Int) (x : En), x ∈ A → x.seq ≤ mostS s A
  | [], s, x, h => nomatch h
  | y :: A, s, x, h => by
    rcases List.mem_cons.1 h with e | h
    · rw [e]; exact Int.le_trans (Int.le_max_right _ _) (mostS_ge A (max s y.seq))
    · exact mostS_mem A _ x h
theorem one_of {own x : En} (h : oneB own x = true) : enB x = true ∧ x.id = own.id ∧ (x.k = own.k ∧ x.key = own.key ∧ x.v = own.v) ∧ x.st = 1 := by
  unfold oneB at h
  rw [Bool.and_eq_true, decide_eq_true_eq] at h
  exact ⟨h.1, h.2⟩
theorem answ_of {own : En} {A : List En} (h : answB own A = true) : (∀ x ∈ A, oneB own x = true) ∧ enB own = true ∧ own.st = 1 ∧ A.length < 5 := by
  unfold answB at h
  simp only [Bool.and_eq_true, decide_eq_true_eq, List.all_eq_true] at h
  exact ⟨h.1, h.2.1, h.2.2.1, h.2.2.2⟩
theorem answ_to {own : En} {A : List En} (h1 : ∀ x ∈ A, oneB own x = true) (h2 : enB own = true) (h3 : own.st = 1) (h4 : A.length < 5) : answB own A = true := by
  unfold answB
  simp only [Bool.and_eq_true, decide_eq_true_eq, List.all_eq_true]
  exact ⟨h1, h2, h3, h4⟩
theorem ans_is {own : En} {A : List En} (h : (ansR own A).2 = true) : answB own A = true ∧ enB (ansE own A) = true ∧ ansR own A = (ansE own A, true) := by
  unfold ansR at h ⊢
  split at h
  · rename_i g; exact ⟨g.1, g.2, if_pos g⟩
  · cases h
theorem ans_within {own : En} {A : List En} (h : (ansR own A).2 = true) : (∀ x ∈ A, withinB x.deps (ansE own A).deps = true) ∧ withinB own.deps (ansE own A).deps = true := by
  obtain ⟨h1, h2, _⟩ := ans_is h
  obtain ⟨g1, g2, _⟩ := answ_of h1
  have hs := (enB_of h2).2.2.1
  constructor
  · intro x hx
    unfold withinB
    rw [(enB_of (one_of (g1 x hx)).1).2.2.1, hs]
    simp only [Bool.true_and]
    exact inP_iff.2 fun a ha => (ansE_mem A own a).2 (.inr ⟨x, hx, ha⟩)
  · unfold withinB
    rw [(enB_of g2).2.2.1, hs]
    simp only [Bool.true_and]
    exact inP_iff.2 fun a ha => (ansE_mem A own a).2 (.inl ha)
theorem ans_none {own : En} {A : List En} (h : (ansR own A).2 = true) : ansR own [] = (own, true) := by
  obtain ⟨h1, h2, _⟩ := ans_is h
  obtain ⟨g1, g2, g3, _⟩ := answ_of h1
  have e : answB own [] = true := answ_to (fun _ h => nomatch h) g2 g3 (by decide)
  unfold ansR
  rw [if_pos ⟨e, g2⟩]; rfl
theorem ansS_self {o x : En} (hs : x.seq ≤ o.seq) (ha : Asc o.deps) (hd : ∀ a ∈ x.deps, a ∈ o.deps) : ansS o x = o := by
  have e1 : max o.seq x.seq = o.seq := by omega
  have e2 : joinP o.deps x.deps = o.deps := asc_ext (joinP_asc ha) ha fun a => by
    rw [joinP_mem]
    exact ⟨fun h => h.elim id (hd a), .inl⟩
  unfold ansS
  rw [e1, e2]
theorem ans_more {own : En} {A : List En} (h : (ansR own A).2 = true) (h5 : A.length + 1 < 5) : ansR own (A ++ [(ansR own A).1]) = ansR own A := by
  obtain ⟨h1, h2, h3⟩ := ans_is h
  obtain ⟨g1, g2, g3, g4⟩ := answ_of h1
  rw [h3]
  have e : ansE own (A ++ [ansE own A]) = ansE own A := by
    unfold ansE
    rw [List.foldl_append]
    show ansS (ansE own A) (ansE own A) = ansE own A
    exact ansS_self (Int.le_refl _) (srt_of (enB_of h2).2.2.1).2.2 (fun a ha => ha)
  obtain ⟨k1, _, k3, k4, k5, k6⟩ := ansE_keep A own
  have e2 : answB own (A ++ [ansE own A]) = true := by
    refine answ_to (fun x hx => ?_) g2 g3 (by rw [List.length_append]; simpa using h5)
    rcases List.mem_append.1 hx with hx | hx
    · exact g1 x hx
    · rw [List.mem_singleton] at hx
      rw [hx]
      unfold oneB
      rw [Bool.and_eq_true, decide_eq_true_eq]
      exact ⟨h2, k1, ⟨k4, k5, k6⟩, k3.trans g3⟩
  show ansR own (A ++ [ansE own A]) = _
  unfold ansR
  rw [e, if_pos ⟨e2, h2⟩]
theorem ansE_same : ∀ (A : List En) (own : En), Asc own.deps → (∀ x ∈ A, likeB own x = true) → ansE own A = own
  | [], own, _, _ => rfl
  | x :: A, own, ha, h => by
    have hx := h x (List.mem_cons_self ..)
    unfold likeB at hx
    rw [decide_eq_true_eq] at hx
    have e : ansS own x = own := ansS_self (by omega) ha (fun a h => by rw [hx.2] at h; exact h)
    show ansE (ansS own x) A = own
    rw [e]
    exact ansE_same A own ha fun y hy => h y (List.mem_cons_of_mem _ hy)
end Go.Proofs.Ytfcjhojkfchccaa

/- Proposals and paths: plain facts. -/
namespace Go.Proofs.Ytfcjhojkfchccaa
set_option linter.unusedVariables false

/-- The proposal of an entry. -/
def prOf (X : En) : Pr := ⟨X.id, X.bal, X.k, X.key, X.v, X.seq, setF X.deps⟩
/-- It is one. -/
def propB (X : En) : Bool := enB X && (X.st == 1)
/-- Answers are all proposals, and about the same. -/
def pollB (X : En) (E : List En) : Bool := propB X && (E.all propB && (E.map prOf).all fun x => sbS x (prOf X))
/-- The proposal of an entry with the bits of its ids. -/
def prM (X : En) : Pr := ⟨X.id, X.bal, X.k, X.key, X.v, X.seq, mask X.deps⟩
theorem prOf_M {X : En} (h : srtB X.deps = true) : prOf X = prM X := by unfold prOf prM; rw [setF_t h]
theorem idsO_maskA {L : List Pid} (h2 : L.all okP = true) (h3 : Asc L) : idsO (mask L) = L := by
  refine asc_ext (idsO_asc _) h3 (fun x => ?_)
  rw [mem_idsO]
  constructor
  · rintro ⟨r, n, rfl, hr, hn, hb⟩; exact (mask_bit h2 r n).1 hb
  · intro hx
    obtain ⟨r, n, rfl, hr, hn, hn2⟩ := id_nat (List.all_eq_true.1 h2 x hx)
    exact ⟨r, n, rfl, hr, by omega, (mask_bit h2 r n).2 hx⟩
theorem prop_of {X : En} (h : propB X = true) : enB X = true ∧ X.st = 1 := by
  unfold propB at h
  simpa using h
/-- The poll is good where the answers are. -/
theorem poll_answ {own : En} {A : List En} (hl : A.length < 5) : pollB own A = answB own A := by
  rw [Bool.eq_iff_iff]
  constructor
  · intro h
    unfold pollB at h
    simp only [Bool.and_eq_true, List.all_eq_true, List.mem_map, forall_exists_index, and_imp, forall_apply_eq_imp_iff₂] at h
    obtain ⟨h1, h2, h3⟩ := h
    obtain ⟨g1, g2⟩ := prop_of h1
    refine answ_to (fun x hx => ?_) g1 g2 hl
    obtain ⟨k1, k2⟩ := prop_of (h2 x hx)
    have h4 := h3 x hx
    unfold sbS prOf at h4
    rw [decide_eq_true_eq] at h4
    dsimp only at h4
    unfold oneB
    rw [Bool.and_eq_true, decide_eq_true_eq]
    exact ⟨k1, Prod.ext h4.1 h4.2.1, ⟨h4.2.2.1, h4.2.2.2.1, h4.2.2.2.2⟩, k2⟩
  · intro h
    obtain ⟨h1, h2, h3, _⟩ := answ_of h
    unfold pollB
    simp only [Bool.and_eq_true, List.all_eq_true, List.mem_map, forall_exists_index, and_imp, forall_apply_eq_imp_iff₂]
    refine ⟨by unfold propB; simp [h2, h3], fun x hx => ?_, fun x hx => ?_⟩
    · obtain ⟨k1, _, _, k4⟩ := one_of (h1 x hx)
      unfold propB; simp [k1, k4]
    · obtain ⟨_, k2, ⟨k3, k4, k5⟩, _⟩ := one_of (h1 x hx)
      unfold sbS prOf
      rw [decide_eq_true_eq]
      dsimp only
      rw [k2]
      exact ⟨rfl, rfl, k3, k4, k5⟩
theorem answ_long {own : En} {A : List En} (hl : ¬ A.length < 5) : answB own A = false := by
  cases e : answB own A with
  | false => rfl
  | true => exact absurd (answ_of e).2.2.2 hl
/-- Offers are the same where ranks and ids are. -/
theorem ofS_like {own x : En} (ho : srtB own.deps = true) (hx : srtB x.deps = true) : ofS (prOf x) (prOf own) = likeB own x := by
  obtain ⟨_, o2, o3⟩ := srt_of ho
  obtain ⟨_, x2, x3⟩ := srt_of hx
  rw [prOf_M ho, prOf_M hx]
  unfold ofS likeB prM
  dsimp only
  rw [Bool.eq_iff_iff, decide_eq_true_eq, decide_eq_true_eq]
  constructor
  · rintro ⟨h, g0, g1, g2, g3, g4⟩
    refine ⟨h, ?_⟩
    rw [← idsO_maskA x2 x3, ← idsO_maskA o2 o3]
    unfold idsO idsFrom
    simp only [idsFrom]
    rw [Int.ofNat_inj.1 g0, Int.ofNat_inj.1 g1, Int.ofNat_inj.1 g2, Int.ofNat_inj.1 g3, Int.ofNat_inj.1 g4]
  · rintro ⟨h, e⟩
    rw [e]
    exact ⟨h, rfl, rfl, rfl, rfl, rfl⟩
theorem all_like {own : En} {A : List En} (ho : srtB own.deps = true) (hA : ∀ x ∈ A, srtB x.deps = true) : ((A.map prOf).all fun x => ofS x (prOf own)) = A.all (likeB own) := by
  rw [Bool.eq_iff_iff, List.all_eq_true, List.all_eq_true]
  simp only [List.mem_map, forall_exists_index, and_imp, forall_apply_eq_imp_iff₂]
  exact ⟨fun h x hx => by rw [← ofS_like ho (hA x hx)]; exact h x hx, fun h x hx => by rw [ofS_like ho (hA x hx)]; exact h x hx⟩
/-- What PathOf answers. -/
def pathR (n : Int) (own : En) (A : List En) : Int :=
  if (1 ≤ n ∧ n ≤ 5) ∧ answB own A = true ∧ (A.length : Int) < n then
    (if A.all (likeB own) = true ∧ (3 * n + 3) / 4 ≤ A.length + 1 then 1 else if n / 2 + 1 ≤ (A.length : Int) + 1 then 2 else 0)
  else -1
theorem path_fast {n : Int} {own : En} {A : List En} (h : pathR n own A = 1) : (1 ≤ n ∧ n ≤ 5) ∧ answB own A = true ∧ A.all (likeB own) = true ∧ (3 * n + 3) / 4 ≤ (A.length : Int) + 1 := by
  unfold pathR at h
  split at h
  · rename_i g
    split at h
    · rename_i f; exact ⟨g.1, g.2.1, f⟩
    · split at h <;> omega
  · omega
theorem path_enough {n : Int} {own : En} {A : List En} (h : 0 ≤ pathR n own A) : (1 ≤ n ∧ n ≤ 5) ∧ (pathR n own A = 0 ↔ (A.length : Int) + 1 < n / 2 + 1) := by
  unfold pathR at h ⊢
  split at h
  · rename_i g
    refine ⟨g.1, ?_⟩
    rw [if_pos g]
    split
    · rename_i f; have := f.2; omega
    · split <;> omega
  · omega
theorem ans_fast {own : En} {A : List En} (h1 : answB own A = true) (h2 : A.all (likeB own) = true) : ansR own A = (own, true) := by
  have g := answ_of h1
  have e := ansE_same A own (srt_of (enB_of g.2.1).2.2.1).2.2 (List.all_eq_true.1 h2)
  unfold ansR
  rw [e, if_pos ⟨h1, g.2.1⟩]
end Go.Proofs.Ytfcjhojkfchccaa

/- pollOf. -/
namespace Go.Proofs.Ytfcjhojkfchccaa
open Go.RowKit
set_option linter.unusedVariables false

theorem put13_at {w : World} {b : Nat} {t : TypeId} {y0 y1 y2 y3 y4 y5 y6 y7 y8 y9 y10 y11 y12 : Value} (x0 x1 x2 x3 x4 x5 x6 x7 x8 x9 x10 x11 x12 : Value) (h : w.heap[b]? = some (.cells #[y0, y1, y2, y3, y4, y5, y6, y7, y8, y9, y10, y11, y12] t (0, 0))) :
    (((((((((((((w.setCell ⟨b, 0, none⟩ x0).setCell ⟨b, 1, none⟩ x1).setCell ⟨b, 2, none⟩ x2).setCell ⟨b, 3, none⟩ x3).setCell ⟨b, 4, none⟩ x4).setCell ⟨b, 5, none⟩ x5).setCell ⟨b, 6, none⟩ x6).setCell ⟨b, 7, none⟩ x7).setCell ⟨b, 8, none⟩ x8).setCell ⟨b, 9, none⟩ x9).setCell ⟨b, 10, none⟩ x10).setCell ⟨b, 11, none⟩ x11).setCell ⟨b, 12, none⟩ x12).heap[b]? = some (.cells #[x0, x1, x2, x3, x4, x5, x6, x7, x8, x9, x10, x11, x12] t (0, 0)) := by
  have e := (heap_setCell_same _ b 12 _ _ x12 (heap_setCell_same _ b 11 _ _ x11 (heap_setCell_same _ b 10 _ _ x10 (heap_setCell_same _ b 9 _ _ x9 (heap_setCell_same _ b 8 _ _ x8 (heap_setCell_same _ b 7 _ _ x7 (heap_setCell_same _ b 6 _ _ x6 (heap_setCell_same _ b 5 _ _ x5 (heap_setCell_same _ b 4 _ _ x4 (heap_setCell_same _ b 3 _ _ x3 (heap_setCell_same _ b 2 _ _ x2 (heap_setCell_same _ b 1 _ _ x1 (heap_setCell_same _ b 0 _ _ x0 h)))))))))))))
  simp only [List.setIfInBounds_toArray, List.set_cons_zero, List.set_cons_succ] at e
  exact e
theorem put13_below {w : World} {b B : Nat} (x0 x1 x2 x3 x4 x5 x6 x7 x8 x9 x10 x11 x12 : Value) (h : B ≤ b) : Below B w (((((((((((((w.setCell ⟨b, 0, none⟩ x0).setCell ⟨b, 1, none⟩ x1).setCell ⟨b, 2, none⟩ x2).setCell ⟨b, 3, none⟩ x3).setCell ⟨b, 4, none⟩ x4).setCell ⟨b, 5, none⟩ x5).setCell ⟨b, 6, none⟩ x6).setCell ⟨b, 7, none⟩ x7).setCell ⟨b, 8, none⟩ x8).setCell ⟨b, 9, none⟩ x9).setCell ⟨b, 10, none⟩ x10).setCell ⟨b, 11, none⟩ x11).setCell ⟨b, 12, none⟩ x12) :=
  ((((((((((((((((((((((((((Below.refl B w).setCell (p := ⟨b, 0, none⟩) h x0)).setCell (p := ⟨b, 1, none⟩) h x1)).setCell (p := ⟨b, 2, none⟩) h x2)).setCell (p := ⟨b, 3, none⟩) h x3)).setCell (p := ⟨b, 4, none⟩) h x4)).setCell (p := ⟨b, 5, none⟩) h x5)).setCell (p := ⟨b, 6, none⟩) h x6)).setCell (p := ⟨b, 7, none⟩) h x7)).setCell (p := ⟨b, 8, none⟩) h x8)).setCell (p := ⟨b, 9, none⟩) h x9)).setCell (p := ⟨b, 10, none⟩) h x10)).setCell (p := ⟨b, 11, none⟩) h x11)).setCell (p := ⟨b, 12, none⟩) h x12)
theorem all13 {w : World} {b : Nat} {x0 x1 x2 x3 x4 x5 x6 x7 x8 x9 x10 x11 x12 : Value} {t : TypeId} (h : w.heap[b]? = some (.cells #[x0, x1, x2, x3, x4, x5, x6, x7, x8, x9, x10, x11, x12] t (0, 0))) :
    (w.cell? ⟨b, 0, none⟩ = some x0 ∧ w.cell? ⟨b, 1, none⟩ = some x1 ∧ w.cell? ⟨b, 2, none⟩ = some x2 ∧ w.cell? ⟨b, 3, none⟩ = some x3 ∧ w.cell? ⟨b, 4, none⟩ = some x4 ∧ w.cell? ⟨b, 5, none⟩ = some x5 ∧ w.cell? ⟨b, 6, none⟩ = some x6 ∧ w.cell? ⟨b, 7, none⟩ = some x7 ∧ w.cell? ⟨b, 8, none⟩ = some x8 ∧ w.cell? ⟨b, 9, none⟩ = some x9 ∧ w.cell? ⟨b, 10, none⟩ = some x10 ∧ w.cell? ⟨b, 11, none⟩ = some x11 ∧ w.cell? ⟨b, 12, none⟩ = some x12) ∧ (∀ m, w.frozen? ⟨b, m, none⟩ = false) ∧ b < w.heap.size := by
  refine ⟨?_, fun m => by simp [World.frozen?, h], lt_of_heap h⟩
  simp [World.cell?, h]
theorem pl_res (tm : Array Value) (w : World) (b : Nat) (x0 x1 x2 x3 x4 x5 x6 x7 x8 x9 x10 x11 x12 f : Value) (t : TypeId) (h4 : tm[4]? = some (.pointer (some ⟨b, 0, none⟩))) (h5 : tm[5]? = some f) (h : w.heap[b]? = some (.cells #[x0, x1, x2, x3, x4, x5, x6, x7, x8, x9, x10, x11, x12] t (0, 0))) :
    (results Try.f18 tm).run Try.prog w = .ok (.tuple #[.agg #[x0, x1, x2, x3, x4, x5, x6, x7, x8, x9, x10, x11, x12], f]) w := by
  obtain ⟨⟨t0, t1, t2, t3, t4, t5, t6, t7, t8, t9, t10, t11, t12⟩, _, _⟩ := all13 h
  simp [results, Try.results18, go_sem, h4, h5, t0, t1, t2, t3, t4, t5, t6, t7, t8, t9, t10, t11, t12]
set_option maxRecDepth 100000 in
set_option maxHeartbeats 4000000 in
theorem ipoll_long (X : En) (u : Value) (a : Option Addr) (n c : Nat) (w : World) (hn : ¬ n < 5) (hm : n ≤ 2000000) :
    Calls Try.prog 18 #[env X u, .slice a n c] w fun e w' => e = .returned (.tuple #[polV ⟨(0, 0), 0, 0, 0, 0, 0, fun _ => 0⟩ (.slice none 0 0), .bool false]) ∧ Below w.heap.size w w' := by
  unfold env polV
  dsimp only
  have D := Lib.hid (((Below.refl w.heap.size w).alloc (Nat.le_refl _) (.cells #[.int .i64 X.id.1, .int .i64 X.id.2, .int .i64 X.bal, .int .i64 X.st, .int .i64 X.k, .int .i64 X.key, .int .i64 X.v, .int .i64 X.seq, u] 29)).alloc (by simp) (.cells #[.int .i64 0, .int .i64 0, .int .i64 0, .int .i64 0, .int .i64 0, .int .i64 0, .int .i64 0, .int .u64 0, .int .u64 0, .int .u64 0, .int .u64 0, .int .u64 0, .slice none 0 0] 62))
  have R := Lib.hid (heap_alloc_at (w.alloc (.cells #[.int .i64 X.id.1, .int .i64 X.id.2, .int .i64 X.bal, .int .i64 X.st, .int .i64 X.k, .int .i64 X.key, .int .i64 X.v, .int .i64 X.seq, u] 29)) (.cells #[.int .i64 0, .int .i64 0, .int .i64 0, .int .i64 0, .int .i64 0, .int .i64 0, .int .i64 0, .int .u64 0, .int .u64 0, .int .u64 0, .int .u64 0, .int .u64 0, .slice none 0 0] 62) (w.heap.size + 1) (by simp))
  go_enter Try.func18, Try.ntmps18
  go_upto_region 2 with fail
  generalize (w.alloc (.cells #[.int .i64 X.id.1, .int .i64 X.id.2, .int .i64 X.bal, .int .i64 X.st, .int .i64 X.k, .int .i64 X.key, .int .i64 X.v, .int .i64 X.seq, u] 29)).alloc (.cells #[.int .i64 0, .int .i64 0, .int .i64 0, .int .i64 0, .int .i64 0, .int .i64 0, .int .i64 0, .int .u64 0, .int .u64 0, .int .u64 0, .int .u64 0, .int .u64 0, .slice none 0 0] 62) = w1 at D R ⊢
  obtain ⟨⟨z0, z1, z2, z3, z4, z5, z6, z7, z8, z9, z10, z11, z12⟩, zf, zl⟩ := all13 R.out
  have f0 := zf 0
  have f1 := zf 1
  have f2 := zf 2
  have f3 := zf 3
  have f4 := zf 4
  have f5 := zf 5
  have f6 := zf 6
  have f7 := zf 7
  have f8 := zf 8
  have f9 := zf 9
  have f10 := zf 10
  have f11 := zf 11
  have f12 := zf 12
  clear zf
  go_wp2_with fail
  exact bodyPost_ret (pl_res _ _ _ _ _ _ _ _ _ _ _ _ _ _ _ _ _ _ rfl rfl (put13_at _ _ _ _ _ _ _ _ _ _ _ _ _ R.out)) rfl ⟨rfl, D.out.trans (put13_below _ _ _ _ _ _ _ _ _ _ _ _ _ (Nat.le_succ _))⟩

theorem srcR (w : World) (t : TypeId) (x0 x1 x2 x3 x4 x5 x6 x7 x8 x9 x10 x11 : Value) (n : Nat) (hn : n = w.heap.size) : ∀ j v, [x0, x1, x2, x3, x4, x5, x6, x7, x8, x9, x10, x11][j]? = some v → (w.alloc (.cells #[x0, x1, x2, x3, x4, x5, x6, x7, x8, x9, x10, x11] t)).cell? ((⟨n, 0, none⟩ : Addr).add j) = some v := by
  subst hn
  intro j v hj
  have h := heap_alloc_new w (.cells #[x0, x1, x2, x3, x4, x5, x6, x7, x8, x9, x10, x11] t)
  rw [Addr.add_lit, Nat.zero_add, cell_of_cells h]
  simpa using hj
theorem oneR (x0 x1 x2 x3 x4 x5 x6 : Int) (y0 y1 y2 y3 y4 : Int) : ∀ u ∈ [Value.int .i64 x0, Value.int .i64 x1, Value.int .i64 x2, Value.int .i64 x3, Value.int .i64 x4, Value.int .i64 x5, Value.int .i64 x6, .int .u64 y0, .int .u64 y1, .int .u64 y2, .int .u64 y3, .int .u64 y4], u.oneCell' = true := by
  intro u hu
  simp at hu
  rcases hu with rfl | rfl | rfl | rfl | rfl | rfl | rfl | rfl | rfl | rfl | rfl | rfl <;> rfl
/-- What stands while pollOf ends. -/
theorem pl_keep {w wc w' : World} {bx B : Nat} {y0 y1 y2 y3 y4 y5 y6 y7 y8 y9 y10 y11 v : Value} {P : List Pr} (hb : Below wc.heap.size wc w') (h : (wc.cell? ⟨bx, 0, none⟩ = some (y0) ∧ wc.cell? ⟨bx, 1, none⟩ = some (y1) ∧ wc.cell? ⟨bx, 2, none⟩ = some (y2) ∧ wc.cell? ⟨bx, 3, none⟩ = some (y3) ∧ wc.cell? ⟨bx, 4, none⟩ = some (y4) ∧ wc.cell? ⟨bx, 5, none⟩ = some (y5) ∧ wc.cell? ⟨bx, 6, none⟩ = some (y6) ∧ wc.cell? ⟨bx, 7, none⟩ = some (y7) ∧ wc.cell? ⟨bx, 8, none⟩ = some (y8) ∧ wc.cell? ⟨bx, 9, none⟩ = some (y9) ∧ wc.cell? ⟨bx, 10, none⟩ = some (y10) ∧ wc.cell? ⟨bx, 11, none⟩ = some (y11)) ∧ RPr wc B v P ∧ Below w.heap.size w wc) : (w'.cell? ⟨bx, 0, none⟩ = some (y0) ∧ w'.cell? ⟨bx, 1, none⟩ = some (y1) ∧ w'.cell? ⟨bx, 2, none⟩ = some (y2) ∧ w'.cell? ⟨bx, 3, none⟩ = some (y3) ∧ w'.cell? ⟨bx, 4, none⟩ = some (y4) ∧ w'.cell? ⟨bx, 5, none⟩ = some (y5) ∧ w'.cell? ⟨bx, 6, none⟩ = some (y6) ∧ w'.cell? ⟨bx, 7, none⟩ = some (y7) ∧ w'.cell? ⟨bx, 8, none⟩ = some (y8) ∧ w'.cell? ⟨bx, 9, none⟩ = some (y9) ∧ w'.cell? ⟨bx, 10, none⟩ = some (y10) ∧ w'.cell? ⟨bx, 11, none⟩ = some (y11)) ∧ RPr w' B v P ∧ Below w.heap.size w w' :=
  ⟨⟨cell_later hb h.1.1, cell_later hb h.1.2.1, cell_later hb h.1.2.2.1, cell_later hb h.1.2.2.2.1, cell_later hb h.1.2.2.2.2.1, cell_later hb h.1.2.2.2.2.2.1, cell_later hb h.1.2.2.2.2.2.2.1, cell_later hb h.1.2.2.2.2.2.2.2.1, cell_later hb h.1.2.2.2.2.2.2.2.2.1, cell_later hb h.1.2.2.2.2.2.2.2.2.2.1, cell_later hb h.1.2.2.2.2.2.2.2.2.2.2.1, cell_later hb h.1.2.2.2.2.2.2.2.2.2.2.2⟩, h.2.1.up hb, h.2.2.trans (hb.mono h.2.2.size)⟩
theorem pl_drew {w wc : World} {bx B : Nat} {y0 y1 y2 y3 y4 y5 y6 y7 y8 y9 y10 y11 v : Value} {P : List Pr} (h : (wc.cell? ⟨bx, 0, none⟩ = some (y0) ∧ wc.cell? ⟨bx, 1, none⟩ = some (y1) ∧ wc.cell? ⟨bx, 2, none⟩ = some (y2) ∧ wc.cell? ⟨bx, 3, none⟩ = some (y3) ∧ wc.cell? ⟨bx, 4, none⟩ = some (y4) ∧ wc.cell? ⟨bx, 5, none⟩ = some (y5) ∧ wc.cell? ⟨bx, 6, none⟩ = some (y6) ∧ wc.cell? ⟨bx, 7, none⟩ = some (y7) ∧ wc.cell? ⟨bx, 8, none⟩ = some (y8) ∧ wc.cell? ⟨bx, 9, none⟩ = some (y9) ∧ wc.cell? ⟨bx, 10, none⟩ = some (y10) ∧ wc.cell? ⟨bx, 11, none⟩ = some (y11)) ∧ RPr wc B v P ∧ Below w.heap.size w wc) : (wc.drew.cell? ⟨bx, 0, none⟩ = some (y0) ∧ wc.drew.cell? ⟨bx, 1, none⟩ = some (y1) ∧ wc.drew.cell? ⟨bx, 2, none⟩ = some (y2) ∧ wc.drew.cell? ⟨bx, 3, none⟩ = some (y3) ∧ wc.drew.cell? ⟨bx, 4, none⟩ = some (y4) ∧ wc.drew.cell? ⟨bx, 5, none⟩ = some (y5) ∧ wc.drew.cell? ⟨bx, 6, none⟩ = some (y6) ∧ wc.drew.cell? ⟨bx, 7, none⟩ = some (y7) ∧ wc.drew.cell? ⟨bx, 8, none⟩ = some (y8) ∧ wc.drew.cell? ⟨bx, 9, none⟩ = some (y9) ∧ wc.drew.cell? ⟨bx, 10, none⟩ = some (y10) ∧ wc.drew.cell? ⟨bx, 11, none⟩ = some (y11)) ∧ RPr wc.drew B v P ∧ Below w.heap.size w wc.drew :=
  ⟨h.1, h.2.1.same (fun _ _ _ => rfl), h.2.2.drew⟩
theorem pl_undrew {w wc : World} {bx B : Nat} {y0 y1 y2 y3 y4 y5 y6 y7 y8 y9 y10 y11 v : Value} {P : List Pr} (h : (wc.drew.cell? ⟨bx, 0, none⟩ = some (y0) ∧ wc.drew.cell? ⟨bx, 1, none⟩ = some (y1) ∧ wc.drew.cell? ⟨bx, 2, none⟩ = some (y2) ∧ wc.drew.cell? ⟨bx, 3, none⟩ = some (y3) ∧ wc.drew.cell? ⟨bx, 4, none⟩ = some (y4) ∧ wc.drew.cell? ⟨bx, 5, none⟩ = some (y5) ∧ wc.drew.cell? ⟨bx, 6, none⟩ = some (y6) ∧ wc.drew.cell? ⟨bx, 7, none⟩ = some (y7) ∧ wc.drew.cell? ⟨bx, 8, none⟩ = some (y8) ∧ wc.drew.cell? ⟨bx, 9, none⟩ = some (y9) ∧ wc.drew.cell? ⟨bx, 10, none⟩ = some (y10) ∧ wc.drew.cell? ⟨bx, 11, none⟩ = some (y11)) ∧ RPr wc.drew B v P ∧ Below w.heap.size w wc.drew) : (wc.cell? ⟨bx, 0, none⟩ = some (y0) ∧ wc.cell? ⟨bx, 1, none⟩ = some (y1) ∧ wc.cell? ⟨bx, 2, none⟩ = some (y2) ∧ wc.cell? ⟨bx, 3, none⟩ = some (y3) ∧ wc.cell? ⟨bx, 4, none⟩ = some (y4) ∧ wc.cell? ⟨bx, 5, none⟩ = some (y5) ∧ wc.cell? ⟨bx, 6, none⟩ = some (y6) ∧ wc.cell? ⟨bx, 7, none⟩ = some (y7) ∧ wc.cell? ⟨bx, 8, none⟩ = some (y8) ∧ wc.cell? ⟨bx, 9, none⟩ = some (y9) ∧ wc.cell? ⟨bx, 10, none⟩ = some (y10) ∧ wc.cell? ⟨bx, 11, none⟩ = some (y11)) ∧ RPr wc B v P ∧ Below w.heap.size w wc :=
  ⟨h.1, h.2.1.same (fun _ _ _ => rfl), ⟨h.2.2.os, h.2.2.tape, h.2.2.output, h.2.2.size, h.2.2.block⟩⟩
theorem pl_dh {w : World} {b : Nat} {o : Obj} (h : w.heap[b]? = some o) : w.drew.heap[b]? = some o := h
theorem pl_set {w wc : World} {bx B : Nat} {y0 y1 y2 y3 y4 y5 y6 y7 y8 y9 y10 y11 v : Value} {P : List Pr} {i : Nat} {u : Value} (hx : w.heap.size + 1 < bx) (hB : w.heap.size + 1 < B) (h : (wc.cell? ⟨bx, 0, none⟩ = some (y0) ∧ wc.cell? ⟨bx, 1, none⟩ = some (y1) ∧ wc.cell? ⟨bx, 2, none⟩ = some (y2) ∧ wc.cell? ⟨bx, 3, none⟩ = some (y3) ∧ wc.cell? ⟨bx, 4, none⟩ = some (y4) ∧ wc.cell? ⟨bx, 5, none⟩ = some (y5) ∧ wc.cell? ⟨bx, 6, none⟩ = some (y6) ∧ wc.cell? ⟨bx, 7, none⟩ = some (y7) ∧ wc.cell? ⟨bx, 8, none⟩ = some (y8) ∧ wc.cell? ⟨bx, 9, none⟩ = some (y9) ∧ wc.cell? ⟨bx, 10, none⟩ = some (y10) ∧ wc.cell? ⟨bx, 11, none⟩ = some (y11)) ∧ RPr wc B v P ∧ Below w.heap.size w wc) : ((wc.setCell ⟨w.heap.size + 1, i, none⟩ u).cell? ⟨bx, 0, none⟩ = some (y0) ∧ (wc.setCell ⟨w.heap.size + 1, i, none⟩ u).cell? ⟨bx, 1, none⟩ = some (y1) ∧ (wc.setCell ⟨w.heap.size + 1, i, none⟩ u).cell? ⟨bx, 2, none⟩ = some (y2) ∧ (wc.setCell ⟨w.heap.size + 1, i, none⟩ u).cell? ⟨bx, 3, none⟩ = some (y3) ∧ (wc.setCell ⟨w.heap.size + 1, i, none⟩ u).cell? ⟨bx, 4, none⟩ = some (y4) ∧ (wc.setCell ⟨w.heap.size + 1, i, none⟩ u).cell? ⟨bx, 5, none⟩ = some (y5) ∧ (wc.setCell ⟨w.heap.size + 1, i, none⟩ u).cell? ⟨bx, 6, none⟩ = some (y6) ∧ (wc.setCell ⟨w.heap.size + 1, i, none⟩ u).cell? ⟨bx, 7, none⟩ = some (y7) ∧ (wc.setCell ⟨w.heap.size + 1, i, none⟩ u).cell? ⟨bx, 8, none⟩ = some (y8) ∧ (wc.setCell ⟨w.heap.size + 1, i, none⟩ u).cell? ⟨bx, 9, none⟩ = some (y9) ∧ (wc.setCell ⟨w.heap.size + 1, i, none⟩ u).cell? ⟨bx, 10, none⟩ = some (y10) ∧ (wc.setCell ⟨w.heap.size + 1, i, none⟩ u).cell? ⟨bx, 11, none⟩ = some (y11)) ∧ RPr (wc.setCell ⟨w.heap.size + 1, i, none⟩ u) B v P ∧ Below w.heap.size w (wc.setCell ⟨w.heap.size + 1, i, none⟩ u) :=
  ⟨⟨cell_set u (by omega) h.1.1, cell_set u (by omega) h.1.2.1, cell_set u (by omega) h.1.2.2.1, cell_set u (by omega) h.1.2.2.2.1, cell_set u (by omega) h.1.2.2.2.2.1, cell_set u (by omega) h.1.2.2.2.2.2.1, cell_set u (by omega) h.1.2.2.2.2.2.2.1, cell_set u (by omega) h.1.2.2.2.2.2.2.2.1, cell_set u (by omega) h.1.2.2.2.2.2.2.2.2.1, cell_set u (by omega) h.1.2.2.2.2.2.2.2.2.2.1, cell_set u (by omega) h.1.2.2.2.2.2.2.2.2.2.2.1, cell_set u (by omega) h.1.2.2.2.2.2.2.2.2.2.2.2⟩, h.2.1.same (fun b h1 h2 => heap_setCell_other _ _ _ _ (by show b ≠ w.heap.size + 1; omega)), h.2.2.setCell (p := ⟨w.heap.size + 1, i, none⟩) (by show w.heap.size ≤ w.heap.size + 1; omega) u⟩
set_option maxRecDepth 100000 in
set_option maxHeartbeats 8000000 in
theorem ipoll_at (X : En) (u : Value) (a : Option Addr) (ca : Nat) (E : List En) (w : World) (hu : Ids w u X.deps) (hl : E.length < 5) (h : E.length = 0 ∨ ∃ b off U, a = some ⟨b, off, none⟩ ∧ EnsAt w b off E U) :
    Calls Try.prog 18 #[env X u, .slice a E.length ca] w fun e w' => ∃ v, e = .returned (.tuple #[polV (prOf X) v, .bool (pollB X E)]) ∧ Prs w' v (E.map prOf) ∧ Below w.heap.size w w' := by
  have h := Lib.hid h
  obtain ⟨n, hn⟩ : ∃ n, Hid (E.length = n) := ⟨_, Lib.hid rfl⟩
  rw [hn.out] at hl ⊢
  have hmk := fun W => make_capR n (by omega) W
  have hEn : E.length ≤ 2000000 := by rw [hn.out]; omega
  have po := fun W (hb : Below w.heap.size w W) => ipropOf_any X u W (hu.up hb (Nat.le_refl _))
  unfold env at po
  unfold env polV
  have D := Lib.hid (((Below.refl w.heap.size w).alloc (Nat.le_refl _) (.cells #[.int .i64 X.id.1, .int .i64 X.id.2, .int .i64 X.bal, .int .i64 X.st, .int .i64 X.k, .int .i64 X.key, .int .i64 X.v, .int .i64 X.seq, u] 29)).alloc (by simp) (.cells #[.int .i64 0, .int .i64 0, .int .i64 0, .int .i64 0, .int .i64 0, .int .i64 0, .int .i64 0, .int .u64 0, .int .u64 0, .int .u64 0, .int .u64 0, .int .u64 0, .slice none 0 0] 62))
  have R := Lib.hid (heap_alloc_at (w.alloc (.cells #[.int .i64 X.id.1, .int .i64 X.id.2, .int .i64 X.bal, .int .i64 X.st, .int .i64 X.k, .int .i64 X.key, .int .i64 X.v, .int .i64 X.seq, u] 29)) (.cells #[.int .i64 0, .int .i64 0, .int .i64 0, .int .i64 0, .int .i64 0, .int .i64 0, .int .i64 0, .int .u64 0, .int .u64 0, .int .u64 0, .int .u64 0, .int .u64 0, .slice none 0 0] 62) (w.heap.size + 1) (by simp))
  have G := Lib.hid ((Below.refl (w.alloc (.cells #[.int .i64 X.id.1, .int .i64 X.id.2, .int .i64 X.bal, .int .i64 X.st, .int .i64 X.k, .int .i64 X.key, .int .i64 X.v, .int .i64 X.seq, u] 29)).heap.size (w.alloc (.cells #[.int .i64 X.id.1, .int .i64 X.id.2, .int .i64 X.bal, .int .i64 X.st, .int .i64 X.k, .int .i64 X.key, .int .i64 X.v, .int .i64 X.seq, u] 29))).alloc (Nat.le_refl _) (.cells #[.int .i64 0, .int .i64 0, .int .i64 0, .int .i64 0, .int .i64 0, .int .i64 0, .int .i64 0, .int .u64 0, .int .u64 0, .int .u64 0, .int .u64 0, .int .u64 0, .slice none 0 0] 62) |>.block w.heap.size (by simp) |>.trans (heap_alloc_new w (.cells #[.int .i64 X.id.1, .int .i64 X.id.2, .int .i64 X.bal, .int .i64 X.st, .int .i64 X.k, .int .i64 X.key, .int .i64 X.v, .int .i64 X.seq, u] 29)))
  go_enter Try.func18, Try.ntmps18
  go_upto_region 3 with fail
  generalize (w.alloc (.cells #[.int .i64 X.id.1, .int .i64 X.id.2, .int .i64 X.bal, .int .i64 X.st, .int .i64 X.k, .int .i64 X.key, .int .i64 X.v, .int .i64 X.seq, u] 29)).alloc (.cells #[.int .i64 0, .int .i64 0, .int .i64 0, .int .i64 0, .int .i64 0, .int .i64 0, .int .i64 0, .int .u64 0, .int .u64 0, .int .u64 0, .int .u64 0, .int .u64 0, .slice none 0 0] 62) = w0 at D R G ⊢
  obtain ⟨⟨e0, e1, e2, e3, e4, e5, e6, e7, e8⟩, _, el⟩ := nine_all G.out
  go_wp2_with fail
  refine (po _ D.out).mono ?_
  rintro e w1 ⟨rfl, hb⟩
  have D1 := Lib.hid (bstep D.out hb)
  replace R := Lib.hid (bblk hb (lt_of_heap R.out) R.out)
  have hbx := lt_of_heap R.out
  unfold prV
  dsimp only
  go_upto_region 6 with fail
  have Dw := Lib.hid (Below.alloc D1.out D1.out.size (.cells #[.int .i64 X.id.1, .int .i64 X.id.2, .int .i64 X.bal, .int .i64 X.k, .int .i64 X.key, .int .i64 X.v, .int .i64 X.seq, .int .u64 (setF X.deps 0), .int .u64 (setF X.deps 1), .int .u64 (setF X.deps 2), .int .u64 (setF X.deps 3), .int .u64 (setF X.deps 4)] 59))
  have C6 := heap_alloc_new w1 (.cells #[.int .i64 X.id.1, .int .i64 X.id.2, .int .i64 X.bal, .int .i64 X.k, .int .i64 X.key, .int .i64 X.v, .int .i64 X.seq, .int .u64 (setF X.deps 0), .int .u64 (setF X.deps 1), .int .u64 (setF X.deps 2), .int .u64 (setF X.deps 3), .int .u64 (setF X.deps 4)] 59)
  replace R := Lib.hid ((Below.alloc (Below.refl w1.heap.size w1) (Nat.le_refl _) (.cells #[.int .i64 X.id.1, .int .i64 X.id.2, .int .i64 X.bal, .int .i64 X.k, .int .i64 X.key, .int .i64 X.v, .int .i64 X.seq, .int .u64 (setF X.deps 0), .int .u64 (setF X.deps 1), .int .u64 (setF X.deps 2), .int .u64 (setF X.deps 3), .int .u64 (setF X.deps 4)] 59)).block _ (lt_of_heap R.out) |>.trans R.out)
  have hsz : w1.heap.size + 1 = (w1.alloc (.cells #[.int .i64 X.id.1, .int .i64 X.id.2, .int .i64 X.bal, .int .i64 X.k, .int .i64 X.key, .int .i64 X.v, .int .i64 X.seq, .int .u64 (setF X.deps 0), .int .u64 (setF X.deps 1), .int .u64 (setF X.deps 2), .int .u64 (setF X.deps 3), .int .u64 (setF X.deps 4)] 59)).heap.size := by simp
  rw [hsz]
  clear hsz hb D1 D G e0 e1 e2 e3 e4 e5 e6 e7 e8 el
  generalize w1.heap.size = bx at C6 hbx ⊢
  generalize w1.alloc (.cells #[.int .i64 X.id.1, .int .i64 X.id.2, .int .i64 X.bal, .int .i64 X.k, .int .i64 X.key, .int .i64 X.v, .int .i64 X.seq, .int .u64 (setF X.deps 0), .int .u64 (setF X.deps 1), .int .u64 (setF X.deps 2), .int .u64 (setF X.deps 3), .int .u64 (setF X.deps 4)] 59) = wb at R C6 Dw ⊢
  have C6 := Lib.hid C6
  have P0 := Lib.hid (rpr_cap wb n wb.heap.size (Nat.le_refl _) (by omega))
  have D0 := Lib.hid (Below.alloc (Below.refl wb.heap.size wb) (Nat.le_refl _) (.cells (madeCells #[.int .i64 0, .int .i64 0, .int .i64 0, .int .i64 0, .int .i64 0, .int .i64 0, .int .i64 0, .int .u64 0, .int .u64 0, .int .u64 0, .int .u64 0, .int .u64 0] (n * 12)) 59))
  generalize wb.alloc (.cells (madeCells #[.int .i64 0, .int .i64 0, .int .i64 0, .int .i64 0, .int .i64 0, .int .i64 0, .int .i64 0, .int .u64 0, .int .u64 0, .int .u64 0, .int .u64 0, .int .u64 0] (n * 12)) 59) = wc at P0 D0 ⊢
  obtain ⟨i0, hi, hz0, hz1, hz2⟩ := info_parts info_pr
  obtain ⟨p0, hp0⟩ : ∃ p, Hid ((enB X && X.st == 1) = p) := ⟨_, Lib.hid rfl⟩
  rw [hp0.out]
  go_loopw [7, 8, 27] (fun q v i wr => ∃ (j : Nat) (qb : Bool), j ≤ n ∧ i = .int .i64 j ∧ q = .bool qb ∧ Hid (qb = (p0 && (E.take j).all propB)) ∧ Hid (RPr wr wb.heap.size v ((E.take j).map prOf)) ∧ Hid (Below wb.heap.size wb wr)) (fun _ _ i _ => n - (intOf i).toNat)
  case atStart => exact ⟨0, _, Nat.zero_le _, rfl, rfl, Lib.hid (by simp), P0, D0⟩
  case round =>
    clear P0 D0
    obtain ⟨j, qb, hj, rfl, rfl, hq, P, D5⟩ := hrel
    by_cases hlt : j < n
    · have hkE : j < E.length := by rw [hn.out]; exact hlt
      obtain ⟨b, off, U, ha, hE⟩ := h.out.resolve_left (by have := hn.out; omega)
      subst ha
      have hA := (hE.up Dw.out (Nat.le_refl _)).up D5.out (Nat.le_refl _)
      clear hE
      have hbl := hA.lt
      have hP := hA.at_ j hkE
      obtain ⟨ya, yn, yc, hy⟩ : ∃ ua un uc, U j = .slice ua un uc := by obtain ⟨a, c, e, _⟩ := hP.ids; exact ⟨a, _, c, e⟩
      obtain ⟨Y, hY⟩ : ∃ Y, Hid (E.getD j en0 = Y) := ⟨_, Lib.hid rfl⟩
      rw [hy, hY.out] at hP
      have q0 := hP.c0
      have q1 := hP.c1
      have q2 := hP.c2
      have q3 := hP.c3
      have q4 := hP.c4
      have q5 := hP.c5
      have q6 := hP.c6
      have q7 := hP.c7
      have q8 := hP.c8
      go_upto_region 8 with fail
      have py := ipropOf_any Y (.slice ya yn yc) (wr.alloc (.cells #[.int .i64 Y.id.1, .int .i64 Y.id.2, .int .i64 Y.bal, .int .i64 Y.st, .int .i64 Y.k, .int .i64 Y.key, .int .i64 Y.v, .int .i64 Y.seq, .slice ya yn yc] 29)) (hP.ids.up (Below.alloc (Below.refl wr.heap.size wr) (Nat.le_refl _) _) (Nat.le_refl _))
      have BA := Lib.hid (Below.alloc (Below.refl wr.heap.size wr) (Nat.le_refl _) (.cells #[.int .i64 Y.id.1, .int .i64 Y.id.2, .int .i64 Y.bal, .int .i64 Y.st, .int .i64 Y.k, .int .i64 Y.key, .int .i64 Y.v, .int .i64 Y.seq, .slice ya yn yc] 29))
      obtain ⟨⟨z0, z1, z2, z3, z4, z5, z6, z7, z8⟩, _, zl⟩ := nine_all (heap_alloc_new wr (.cells #[.int .i64 Y.id.1, .int .i64 Y.id.2, .int .i64 Y.bal, .int .i64 Y.st, .int .i64 Y.k, .int .i64 Y.key, .int .i64 Y.v, .int .i64 Y.seq, .slice ya yn yc] 29))
      clear q0 q1 q2 q3 q4 q5 q6 q7 q8 hP hA hbl
      generalize wr.alloc (.cells #[.int .i64 Y.id.1, .int .i64 Y.id.2, .int .i64 Y.bal, .int .i64 Y.st, .int .i64 Y.k, .int .i64 Y.key, .int .i64 Y.v, .int .i64 Y.seq, .slice ya yn yc] 29) = W at py BA z0 z1 z2 z3 z4 z5 z6 z7 z8 zl ⊢
      unfold env at py
      cases qb
      all_goals
        go_wp2_with fail
        refine py.mono ?_
        rintro e w3 ⟨rfl, B⟩
        have P3 := Lib.hid (P.out.up (bstep BA.out B))
        have D3 := Lib.hid (D5.out.trans ((bstep BA.out B).mono D5.out.size))
        unfold prV
        dsimp only
        go_upto_region 10 with fail
        have A4 := heap_alloc_new w3 (.cells #[.int .i64 Y.id.1, .int .i64 Y.id.2, .int .i64 Y.bal, .int .i64 Y.k, .int .i64 Y.key, .int .i64 Y.v, .int .i64 Y.seq, .int .u64 (setF Y.deps 0), .int .u64 (setF Y.deps 1), .int .u64 (setF Y.deps 2), .int .u64 (setF Y.deps 3), .int .u64 (setF Y.deps 4)] 59)
        have D4 := Lib.hid (Below.alloc D3.out D3.out.size (.cells #[.int .i64 Y.id.1, .int .i64 Y.id.2, .int .i64 Y.bal, .int .i64 Y.k, .int .i64 Y.key, .int .i64 Y.v, .int .i64 Y.seq, .int .u64 (setF Y.deps 0), .int .u64 (setF Y.deps 1), .int .u64 (setF Y.deps 2), .int .u64 (setF Y.deps 3), .int .u64 (setF Y.deps 4)] 59))
        have P4 := Lib.hid (P3.out.up (Below.alloc (Below.refl w3.heap.size w3) (Nat.le_refl _) (.cells #[.int .i64 Y.id.1, .int .i64 Y.id.2, .int .i64 Y.bal, .int .i64 Y.k, .int .i64 Y.key, .int .i64 Y.v, .int .i64 Y.seq, .int .u64 (setF Y.deps 0), .int .u64 (setF Y.deps 1), .int .u64 (setF Y.deps 2), .int .u64 (setF Y.deps 3), .int .u64 (setF Y.deps 4)] 59)))
        clear P3 D3 P D5 BA py z0 z1 z2 z3 z4 z5 z6 z7 z8 zl B
        generalize w3.alloc (.cells #[.int .i64 Y.id.1, .int .i64 Y.id.2, .int .i64 Y.bal, .int .i64 Y.k, .int .i64 Y.key, .int .i64 Y.v, .int .i64 Y.seq, .int .u64 (setF Y.deps 0), .int .u64 (setF Y.deps 1), .int .u64 (setF Y.deps 2), .int .u64 (setF Y.deps 3), .int .u64 (setF Y.deps 4)] 59) = w4 at A4 D4 P4 ⊢
        obtain ⟨⟨c0, c1, c2, c3, c4, c5, c6, c7, c8, c9, c10, c11⟩, _, cl⟩ := all12 A4
        clear A4
        have hLl : ((E.take j).map prOf).length = j := by rw [List.length_map, List.length_take, hn.out]; omega
        obtain ⟨L, hL⟩ : ∃ L, Hid ((E.take j).map prOf = L) := ⟨_, Lib.hid rfl⟩
        rw [hL.out] at P4 hLl
        have hPr := Lib.hid P4.out.row
        rw [hLl] at hPr
        have hW := Lib.hid D4.out.size
        have hj3 : j < 5 := by omega
        go_wp2_with (at_builtin; refine wpList_append_own_at _ rfl _ _ 60 rfl wb.heap.size 59 i0 (.agg #[.int .i64 0, .int .i64 0, .int .i64 0, .int .i64 0, .int .i64 0, .int .i64 0, .int .i64 0, .int .u64 0, .int .u64 0, .int .u64 0, .int .u64 0, .int .u64 0]) 12 96 Try.underlying60 hi hz0 hz1 hz2 rfl (by decide) _ j (flatR L) rfl (hPr.out.alloc _) ⟨w4.heap.size, 0, none⟩ 1 1 [.int .i64 Y.id.1, .int .i64 Y.id.2, .int .i64 Y.bal, .int .i64 Y.k, .int .i64 Y.key, .int .i64 Y.v, .int .i64 Y.seq, .int .u64 (setF Y.deps 0), .int .u64 (setF Y.deps 1), .int .u64 (setF Y.deps 2), .int .u64 (setF Y.deps 3), .int .u64 (setF Y.deps 4)] rfl rfl ?fc1 ?fc2 ?fc3 ?fc4 ?fc5 ?_)
        case fc1 => exact srcR _ _ _ _ _ _ _ _ _ _ _ _ _ _ _ rfl
        case fc2 => exact oneR _ _ _ _ _ _ _ _ _ _ _ _
        case fc3 => unfold maxLen; omega
        case fc4 => omega
        case fc5 => first | omega | (have := hW.out; simp; omega)
        intro v' w' hown' hgrow hnil hat
        have P5 := Lib.hid (P4.out.put (x := prOf Y) (by rw [hLl]; exact hown') (fun e => hnil e))
        have D5 := Lib.hid (D4.out.trans (P4.out.grown hgrow D4.out.size))
        clear hown' hgrow hnil hat hPr hW D4 P4 c0 c1 c2 c3 c4 c5 c6 c7 c8 c9 c10 c11 cl
        have hgY : E[j]'hkE = Y := by rw [← hY.out, List.getD_eq_getElem?_getD, List.getElem?_eq_getElem hkE]; rfl
        have hL1 : (E.take (j + 1)).map prOf = L ++ [prOf Y] := by
          rw [List.take_add_one, List.getElem?_eq_getElem hkE, List.map_append, hL.out, hgY]; rfl
        have hq1 : (E.take (j + 1)).all propB = ((E.take j).all propB && propB Y) := by
          rw [List.take_add_one, List.getElem?_eq_getElem hkE, List.all_append, hgY]; simp
        rw [← hL1] at P5
        have hq2 := Lib.hid hq1
        clear hq1 hL1
        go_wp2_with fail
        go_roundw
        case rel =>
          refine ⟨j + 1, _, by omega, by go_num, rfl, Lib.hid ?_, P5, D5⟩
          rw [hq2.out, ← Bool.and_assoc, ← hq.out]
          rfl
        case measure => simp [intOf]; omega
    · obtain rfl : j = n := by omega
      have ht : E.take j = E := List.take_of_length_le (by rw [hn.out]; exact Nat.le_refl _)
      have P1 := P.out
      have hq1 := hq.out
      rw [ht] at P1 hq1
      obtain ⟨M, hM⟩ : ∃ M, Hid (E.map prOf = M) := ⟨_, Lib.hid rfl⟩
      rw [hM.out] at P1
      have hMl : M.length = j := by rw [← hM.out, List.length_map]; exact hn.out
      obtain ⟨va, vc, rfl⟩ : ∃ a c, u8 = .slice a j c := by
        obtain ⟨a, c, e, _⟩ := P1.prs (by rw [hMl]; omega)
        exact ⟨a, c, by rw [e, hMl]⟩
      have P7 := Lib.hid P1
      have hB0 : w.heap.size + 1 < wb.heap.size := lt_of_heap R.out
      have R7 := Lib.hid ((D5.out.block _ (lt_of_heap R.out)).trans R.out)
      have D7 := Lib.hid (bstep Dw.out D5.out)
      have hc7 := (all12 ((D5.out.block _ (lt_of_heap C6.out)).trans C6.out)).1
      have ag := fun W H => iagS_any (prOf X) (.slice va j vc) M W H
      obtain ⟨tq, htq⟩ : ∃ q, Hid ((M.all fun x => sbS x (prOf X)) = q) := ⟨_, Lib.hid rfl⟩
      rw [htq.out] at ag
      unfold Pr.val prV prOf at ag
      dsimp only at ag
      have hqt := hq1
      have hpo : pollB X E = (qb && tq) := by
        unfold pollB
        rw [show propB X = p0 from hp0.out, ← Bool.and_assoc, ← hq1, hM.out, htq.out]
      clear hqt hq1 P1 hq P D5 R C6 ht po hmk Dw hp0
      have hpo := Lib.hid hpo
      cases qb
      · have hqf := Lib.hid (show pollB X E = false from hpo.out)
        clear hpo ag
        go_upto_region 12 with fail
        refine wp_region_held_drew (S := fun w' => (w'.cell? ⟨bx, 0, none⟩ = some (.int .i64 X.id.1) ∧ w'.cell? ⟨bx, 1, none⟩ = some (.int .i64 X.id.2) ∧ w'.cell? ⟨bx, 2, none⟩ = some (.int .i64 X.bal) ∧ w'.cell? ⟨bx, 3, none⟩ = some (.int .i64 X.k) ∧ w'.cell? ⟨bx, 4, none⟩ = some (.int .i64 X.key) ∧ w'.cell? ⟨bx, 5, none⟩ = some (.int .i64 X.v) ∧ w'.cell? ⟨bx, 6, none⟩ = some (.int .i64 X.seq) ∧ w'.cell? ⟨bx, 7, none⟩ = some (.int .u64 (setF X.deps 0)) ∧ w'.cell? ⟨bx, 8, none⟩ = some (.int .u64 (setF X.deps 1)) ∧ w'.cell? ⟨bx, 9, none⟩ = some (.int .u64 (setF X.deps 2)) ∧ w'.cell? ⟨bx, 10, none⟩ = some (.int .u64 (setF X.deps 3)) ∧ w'.cell? ⟨bx, 11, none⟩ = some (.int .u64 (setF X.deps 4))) ∧ RPr w' wb.heap.size (.slice va j vc) M ∧ Below w.heap.size w w') (by kernel_rfl) ⟨hc7, P7.out.same (fun _ _ _ => rfl), D7.out.drew⟩ (fun hHeld => ?_)
        refine wpAnyH_take (i := 0) (oi := ⟨some 45, _, _, _, _, _⟩) (v := ?_) rfl (by kernel_rfl) (by kernel_rfl) (by kernel_rfl) (fun _ _ _ h => h) (Or.inl ⟨by rfl, ?_⟩) (by assumption) ?_
        rotate_left 1
        · intro w hSw; (try dsimp only at hSw); go_simp; try (with_reducible rfl)
        try simp only [Act.put, List.setIfInBounds_toArray, List.set_cons_zero, List.set_cons_succ]
        refine wpAnyH_take (i := 1) (oi := ⟨some 46, _, _, _, _, _⟩) (v := ?_) rfl (by kernel_rfl) (by kernel_rfl) (by kernel_rfl) (fun _ _ _ h => h) (Or.inl ⟨by rfl, ?_⟩) (by assumption) ?_
        rotate_left 1
        · intro w hSw; (try dsimp only at hSw); go_simp; try (with_reducible rfl)
        try simp only [Act.put, List.setIfInBounds_toArray, List.set_cons_zero, List.set_cons_succ]
        refine wpAnyH_take (i := 2) (oi := ⟨some 47, _, _, _, _, _⟩) (v := ?_) rfl (by kernel_rfl) (by kernel_rfl) (by kernel_rfl) (fun _ _ _ h => h) (Or.inl ⟨by rfl, ?_⟩) (by assumption) ?_
        rotate_left 1
        · intro w hSw; (try dsimp only at hSw); go_simp; try (with_reducible rfl)
        try simp only [Act.put, List.setIfInBounds_toArray, List.set_cons_zero, List.set_cons_succ]
        refine wpAnyH_take (i := 3) (oi := ⟨some 48, _, _, _, _, _⟩) (v := ?_) rfl (by kernel_rfl) (by kernel_rfl) (by kernel_rfl) (fun _ _ _ h => h) (Or.inl ⟨by rfl, ?_⟩) (by assumption) ?_
        rotate_left 1
        · intro w hSw; (try dsimp only at hSw); go_simp; try (with_reducible rfl)
        try simp only [Act.put, List.setIfInBounds_toArray, List.set_cons_zero, List.set_cons_succ]
        refine wpAnyH_take (i := 4) (oi := ⟨some 49, _, _, _, _, _⟩) (v := ?_) rfl (by kernel_rfl) (by kernel_rfl) (by kernel_rfl) (fun _ _ _ h => h) (Or.inl ⟨by rfl, ?_⟩) (by assumption) ?_
        rotate_left 1
        · intro w hSw; (try dsimp only at hSw); go_simp; try (with_reducible rfl)
        try simp only [Act.put, List.setIfInBounds_toArray, List.set_cons_zero, List.set_cons_succ]
        refine wpAnyH_take (i := 5) (oi := ⟨some 50, _, _, _, _, _⟩) (v := undef) rfl (by kernel_rfl) (by kernel_rfl) (by kernel_rfl) (fun _ _ _ h => h) (Or.inr ⟨by rfl, rfl⟩) (by assumption) ?_
        try simp only [Act.put, List.setIfInBounds_toArray, List.set_cons_zero, List.set_cons_succ]
        refine wpAnyH_take (i := 6) (oi := ⟨some 51, _, _, _, _, _⟩) (v := undef) rfl (by kernel_rfl) (by kernel_rfl) (by kernel_rfl) (fun _ _ _ h => h) (Or.inr ⟨by rfl, rfl⟩) (by assumption) ?_
        try simp only [Act.put, List.setIfInBounds_toArray, List.set_cons_zero, List.set_cons_succ]
        refine wpAnyH_take (i := 7) (oi := ⟨some 52, _, _, _, _, _⟩) (v := undef) rfl (by kernel_rfl) (by kernel_rfl) (by kernel_rfl) (fun _ _ _ h => h) (Or.inr ⟨by rfl, rfl⟩) (by assumption) ?_
        try simp only [Act.put, List.setIfInBounds_toArray, List.set_cons_zero, List.set_cons_succ]
        refine wpAnyH_take (i := 8) (oi := ⟨some 53, _, _, _, _, _⟩) (v := ?_) rfl (by kernel_rfl) (by kernel_rfl) (by kernel_rfl) (fun _ _ _ h => h) (Or.inl ⟨by rfl, ?_⟩) (by assumption) ?_
        rotate_left 1
        · intro w hSw; (try dsimp only at hSw); go_simp; try (with_reducible rfl)
        try simp only [Act.put, List.setIfInBounds_toArray, List.set_cons_zero, List.set_cons_succ]
        obtain ⟨⟨z0, z1, z2, z3, z4, z5, z6, z7, z8, z9, z10, z11, z12⟩, zf, hzl⟩ := all13 R7.out
        have f0 := zf 0
        have f1 := zf 1
        have f2 := zf 2
        have f3 := zf 3
        have f4 := zf 4
        have f5 := zf 5
        have f6 := zf 6
        have f7 := zf 7
        have f8 := zf 8
        have f9 := zf 9
        have f10 := zf 10
        have f11 := zf 11
        have f12 := zf 12
        clear zf
        refine wpAnyH_ready (rs := [9]) (by kernel_rfl) (by simp) ?_
        refine AllReadyH.cons (o := ⟨none, _, _, _, _, _⟩) rfl (fun K hK => ?_) AllReadyH.nil
        go_simp
        refine hK.out _ _ ?_ (fun hHeld2 => ?_)
        · with_reducible refine pl_drew ?_; with_reducible refine pl_set hbx hB0 ?_; with_reducible refine pl_set hbx hB0 ?_; with_reducible refine pl_set hbx hB0 ?_; with_reducible refine pl_set hbx hB0 ?_; with_reducible refine pl_set hbx hB0 ?_; with_reducible refine pl_set hbx hB0 ?_; with_reducible refine pl_set hbx hB0 ?_; with_reducible refine pl_set hbx hB0 ?_; with_reducible refine pl_set hbx hB0 ?_; with_reducible refine pl_set hbx hB0 ?_; with_reducible refine pl_set hbx hB0 ?_; with_reducible refine pl_set hbx hB0 ?_; with_reducible refine pl_set hbx hB0 ?_; with_reducible exact pl_undrew hHeld
        clear hK K hHeld
        have hHeld := hHeld2
        clear hHeld2
        try simp only [Act.put, List.setIfInBounds_toArray, List.set_cons_zero, List.set_cons_succ]
        refine wpAnyH_take (i := 10) (oi := ⟨some 5, _, _, _, _, _⟩) (v := ?_) rfl (by kernel_rfl) (by kernel_rfl) (by kernel_rfl) (fun _ _ _ h => h) (Or.inl ⟨by rfl, ?_⟩) (by assumption) ?_
        rotate_left 1
        · intro w hSw; (try dsimp only at hSw); go_simp; try (with_reducible rfl)
        try simp only [Act.put, List.setIfInBounds_toArray, List.set_cons_zero, List.set_cons_succ]
        refine wpAnyH_done (by kernel_rfl) ?_ _
        try simp only [Act.put, List.setIfInBounds_toArray, List.set_cons_zero, List.set_cons_succ]
        have D9 := Lib.hid hHeld.2
        clear hHeld
        go_wp2_with fail
        refine bodyPost_ret (pl_res _ _ _ _ _ _ _ _ _ _ _ _ _ _ _ _ _ _ rfl rfl (pl_dh (put13_at _ _ _ _ _ _ _ _ _ _ _ _ _ R7.out))) rfl ⟨_, by rw [hqf.out]; rfl, by rw [hM.out]; exact D9.out.1.prs (by rw [hMl]; omega), D9.out.2⟩
      · have hqt := Lib.hid (show pollB X E = tq from hpo.out)
        clear hpo
        go_upto_region 12 with fail
        refine wp_region_held_drew (S := fun w' => (w'.cell? ⟨bx, 0, none⟩ = some (.int .i64 X.id.1) ∧ w'.cell? ⟨bx, 1, none⟩ = some (.int .i64 X.id.2) ∧ w'.cell? ⟨bx, 2, none⟩ = some (.int .i64 X.bal) ∧ w'.cell? ⟨bx, 3, none⟩ = some (.int .i64 X.k) ∧ w'.cell? ⟨bx, 4, none⟩ = some (.int .i64 X.key) ∧ w'.cell? ⟨bx, 5, none⟩ = some (.int .i64 X.v) ∧ w'.cell? ⟨bx, 6, none⟩ = some (.int .i64 X.seq) ∧ w'.cell? ⟨bx, 7, none⟩ = some (.int .u64 (setF X.deps 0)) ∧ w'.cell? ⟨bx, 8, none⟩ = some (.int .u64 (setF X.deps 1)) ∧ w'.cell? ⟨bx, 9, none⟩ = some (.int .u64 (setF X.deps 2)) ∧ w'.cell? ⟨bx, 10, none⟩ = some (.int .u64 (setF X.deps 3)) ∧ w'.cell? ⟨bx, 11, none⟩ = some (.int .u64 (setF X.deps 4))) ∧ RPr w' wb.heap.size (.slice va j vc) M ∧ Below w.heap.size w w') (by kernel_rfl) ⟨hc7, P7.out.same (fun _ _ _ => rfl), D7.out.drew⟩ (fun hHeld => ?_)
        refine wpAnyH_take (i := 0) (oi := ⟨some 45, _, _, _, _, _⟩) (v := ?_) rfl (by kernel_rfl) (by kernel_rfl) (by kernel_rfl) (fun _ _ _ h => h) (Or.inl ⟨by rfl, ?_⟩) (by assumption) ?_
        rotate_left 1
        · intro w hSw; (try dsimp only at hSw); go_simp; try (with_reducible rfl)
        try simp only [Act.put, List.setIfInBounds_toArray, List.set_cons_zero, List.set_cons_succ]
        refine wpAnyH_take (i := 1) (oi := ⟨some 46, _, _, _, _, _⟩) (v := ?_) rfl (by kernel_rfl) (by kernel_rfl) (by kernel_rfl) (fun _ _ _ h => h) (Or.inl ⟨by rfl, ?_⟩) (by assumption) ?_
        rotate_left 1
        · intro w hSw; (try dsimp only at hSw); go_simp; try (with_reducible rfl)
        try simp only [Act.put, List.setIfInBounds_toArray, List.set_cons_zero, List.set_cons_succ]
        refine wpAnyH_take (i := 2) (oi := ⟨some 47, _, _, _, _, _⟩) (v := ?_) rfl (by kernel_rfl) (by kernel_rfl) (by kernel_rfl) (fun _ _ _ h => h) (Or.inl ⟨by rfl, ?_⟩) (by assumption) ?_
        rotate_left 1
        · intro w hSw; (try dsimp only at hSw); go_simp; try (with_reducible rfl)
        try simp only [Act.put, List.setIfInBounds_toArray, List.set_cons_zero, List.set_cons_succ]
        refine wpAnyH_take (i := 3) (oi := ⟨some 48, _, _, _, _, _⟩) (v := ?_) rfl (by kernel_rfl) (by kernel_rfl) (by kernel_rfl) (fun _ _ _ h => h) (Or.inl ⟨by rfl, ?_⟩) (by assumption) ?_
        rotate_left 1
        · intro w hSw; (try dsimp only at hSw); go_simp; try (with_reducible rfl)
        try simp only [Act.put, List.setIfInBounds_toArray, List.set_cons_zero, List.set_cons_succ]
        refine wpAnyH_take (i := 4) (oi := ⟨some 49, _, _, _, _, _⟩) (v := ?_) rfl (by kernel_rfl) (by kernel_rfl) (by kernel_rfl) (fun _ _ _ h => h) (Or.inl ⟨by rfl, ?_⟩) (by assumption) ?_
        rotate_left 1
        · intro w hSw; (try dsimp only at hSw); go_simp; try (with_reducible rfl)
        try simp only [Act.put, List.setIfInBounds_toArray, List.set_cons_zero, List.set_cons_succ]
        refine wpAnyH_take (i := 5) (oi := ⟨some 50, _, _, _, _, _⟩) (v := ?_) rfl (by kernel_rfl) (by kernel_rfl) (by kernel_rfl) (fun _ _ _ h => h) (Or.inl ⟨by rfl, ?_⟩) (by assumption) ?_
        rotate_left 1
        · intro w hSw; (try dsimp only at hSw); go_simp; try (with_reducible rfl)
        try simp only [Act.put, List.setIfInBounds_toArray, List.set_cons_zero, List.set_cons_succ]
        refine wpAnyH_take (i := 6) (oi := ⟨some 51, _, _, _, _, _⟩) (v := ?_) rfl (by kernel_rfl) (by kernel_rfl) (by kernel_rfl) (fun _ _ _ h => h) (Or.inl ⟨by rfl, ?_⟩) (by assumption) ?_
        rotate_left 1
        · intro w hSw; (try dsimp only at hSw); go_simp; try (with_reducible rfl)
        try simp only [Act.put, List.setIfInBounds_toArray, List.set_cons_zero, List.set_cons_succ]
        refine wpAnyH_ready (rs := [7]) (by kernel_rfl) (by simp) ?_
        refine AllReadyH.cons (o := ⟨some 52, _, _, _, _, _⟩) rfl (fun K hK => ?_) AllReadyH.nil
        go_simp
        with_reducible refine (ag _ (hHeld.2.1.prs (by rw [hMl]; omega))).mono ?_
        rintro e wq ⟨rfl, hb⟩
        go_wp2_with fail
        replace R7 := Lib.hid (by first | exact bblk hb (lt_of_heap R7.out) R7.out | exact bblk_d hb (lt_of_heap R7.out) R7.out)
        refine hK.out _ _ (pl_keep hb hHeld) (fun hHeld2 => ?_)
        clear hK K hHeld hb
        have hHeld := hHeld2
        clear hHeld2
        try simp only [Act.put, List.setIfInBounds_toArray, List.set_cons_zero, List.set_cons_succ]
        refine wpAnyH_take (i := 8) (oi := ⟨some 53, _, _, _, _, _⟩) (v := ?_) rfl (by kernel_rfl) (by kernel_rfl) (by kernel_rfl) (fun _ _ _ h => h) (Or.inl ⟨by rfl, ?_⟩) (by assumption) ?_
        rotate_left 1
        · intro w hSw; (try dsimp only at hSw); go_simp; try (with_reducible rfl)
        try simp only [Act.put, List.setIfInBounds_toArray, List.set_cons_zero, List.set_cons_succ]
        obtain ⟨⟨z0, z1, z2, z3, z4, z5, z6, z7, z8, z9, z10, z11, z12⟩, zf, hzl⟩ := all13 R7.out
        have f0 := zf 0
        have f1 := zf 1
        have f2 := zf 2
        have f3 := zf 3
        have f4 := zf 4
        have f5 := zf 5
        have f6 := zf 6
        have f7 := zf 7
        have f8 := zf 8
        have f9 := zf 9
        have f10 := zf 10
        have f11 := zf 11
        have f12 := zf 12
        clear zf
        refine wpAnyH_ready (rs := [9]) (by kernel_rfl) (by simp) ?_
        refine AllReadyH.cons (o := ⟨none, _, _, _, _, _⟩) rfl (fun K hK => ?_) AllReadyH.nil
        go_simp
        refine hK.out _ _ ?_ (fun hHeld2 => ?_)
        · with_reducible refine pl_set hbx hB0 ?_; with_reducible refine pl_set hbx hB0 ?_; with_reducible refine pl_set hbx hB0 ?_; with_reducible refine pl_set hbx hB0 ?_; with_reducible refine pl_set hbx hB0 ?_; with_reducible refine pl_set hbx hB0 ?_; with_reducible refine pl_set hbx hB0 ?_; with_reducible refine pl_set hbx hB0 ?_; with_reducible refine pl_set hbx hB0 ?_; with_reducible refine pl_set hbx hB0 ?_; with_reducible refine pl_set hbx hB0 ?_; with_reducible refine pl_set hbx hB0 ?_; with_reducible refine pl_set hbx hB0 ?_; with_reducible exact hHeld
        clear hK K hHeld
        have hHeld := hHeld2
        clear hHeld2
        try simp only [Act.put, List.setIfInBounds_toArray, List.set_cons_zero, List.set_cons_succ]
        refine wpAnyH_take (i := 10) (oi := ⟨some 5, _, _, _, _, _⟩) (v := ?_) rfl (by kernel_rfl) (by kernel_rfl) (by kernel_rfl) (fun _ _ _ h => h) (Or.inl ⟨by rfl, ?_⟩) (by assumption) ?_
        rotate_left 1
        · intro w hSw; (try dsimp only at hSw); go_simp; try (with_reducible rfl)
        try simp only [Act.put, List.setIfInBounds_toArray, List.set_cons_zero, List.set_cons_succ]
        refine wpAnyH_done (by kernel_rfl) ?_ _
        try simp only [Act.put, List.setIfInBounds_toArray, List.set_cons_zero, List.set_cons_succ]
        have D9 := Lib.hid hHeld.2
        clear hHeld
        go_wp2_with fail
        refine bodyPost_ret (pl_res _ _ _ _ _ _ _ _ _ _ _ _ _ _ _ _ _ _ rfl rfl (id (put13_at _ _ _ _ _ _ _ _ _ _ _ _ _ R7.out))) rfl ⟨_, by rw [hqt.out]; rfl, by rw [hM.out]; exact D9.out.1.prs (by rw [hMl]; omega), D9.out.2⟩
/-- pollOf, of any answers. -/
theorem ipoll_any (X : En) (u v : Value) (E : List En) (w : World) (hu : Ids w u X.deps) (h : Ens w v E) :
    Calls Try.prog 18 #[env X u, v] w fun e w' => ∃ p v' P q, e = .returned (.tuple #[polV p v', .bool q]) ∧ q = answB X E ∧ (E.length < 5 → p = prOf X ∧ P = E.map prOf) ∧ (∀ r, p.g r < 2251799813685248) ∧ (∀ x ∈ P, ∀ r, x.g r < 2251799813685248) ∧ Prs w' v' P ∧ Below w.heap.size w w' := by
  obtain ⟨a, cap, rfl, h1, h2, h3⟩ := h
  by_cases hl : E.length < 5
  · refine (ipoll_at X u a cap E w hu hl ?_).mono ?_
    · rcases h3 with h3 | ⟨b, off, U, rfl, h4⟩
      · exact .inl h3
      · exact .inr ⟨b, off, U, rfl, h4⟩
    · rintro e w' ⟨v, rfl, hP, B⟩
      exact ⟨_, _, _, _, rfl, poll_answ hl, fun _ => ⟨rfl, rfl⟩, setF_lt X.deps, fun x hx => by obtain ⟨y, _, rfl⟩ := List.mem_map.1 hx; exact setF_lt y.deps, hP, B⟩
  · refine (ipoll_long X u a E.length cap w hl h2).mono ?_
    rintro e w' ⟨rfl, B⟩
    exact ⟨⟨(0, 0), 0, 0, 0, 0, 0, fun _ => 0⟩, _, [], false, rfl, (answ_long hl).symm, fun g => absurd g hl, fun _ => by show (0 : Nat) < _; decide, (fun _ hx => nomatch hx), ⟨none, 0, rfl, Nat.le_refl _, by simp, .inl rfl⟩, B⟩
end Go.Proofs.Ytfcjhojkfchccaa

/- impl.PathOf. -/
namespace Go.Proofs.Ytfcjhojkfchccaa
open Go.RowKit
set_option linter.unusedVariables false

theorem path_bad {n : Int} {X : En} {E : List En} (h : ¬ ((1 ≤ n ∧ n ≤ 5) ∧ answB X E = true ∧ (E.length : Int) < n)) : pathR n X E = -1 := if_neg h
theorem path_good {n : Int} {X : En} {E : List En} {t : Bool} (h : (1 ≤ n ∧ n ≤ 5) ∧ answB X E = true ∧ (E.length : Int) < n) (ht : E.all (likeB X) = t) : pathR n X E = if t = true ∧ fastR n ≤ (E.length : Int) + 1 then 1 else if slowR n ≤ (E.length : Int) + 1 then 2 else 0 := by
  unfold pathR fastR slowR
  rw [if_pos h, if_pos h.1, if_pos h.1, ht]
set_option maxRecDepth 100000 in
set_option maxHeartbeats 4000000 in
theorem ipath_any (n : Int) (X : En) (u v : Value) (E : List En) (w : World) (hu : Ids w u X.deps) (h : Ens w v E) :
    Calls Try.prog 6 #[.int .i64 n, env X u, v] w fun e w' => e = .returned (.int .i64 (pathR n X E)) ∧ Below w.heap.size w w' := by
  obtain ⟨ua, un, uc, rfl⟩ : ∃ ua un uc, u = .slice ua un uc := by obtain ⟨a, c, e, _⟩ := hu; exact ⟨a, _, c, e⟩
  have ip := fun W (hb : Below w.heap.size w W) => ipoll_any X (.slice ua un uc) v E W (hu.up hb (Nat.le_refl _)) (h.up hb (Nat.le_refl _))
  obtain ⟨a0, ca0, rfl, h1, h2, h3⟩ := h
  obtain ⟨l, hl⟩ : ∃ l, Hid (E.length = l) := ⟨_, Lib.hid rfl⟩
  simp only [hl.out] at ip h1 h2 ⊢
  clear h3
  unfold env polV at ip
  unfold env
  have A := Lib.hid (heap_alloc_new w (.cells #[.int .i64 X.id.1, .int .i64 X.id.2, .int .i64 X.bal, .int .i64 X.st, .int .i64 X.k, .int .i64 X.key, .int .i64 X.v, .int .i64 X.seq, .slice ua un uc] 29))
  have D := Lib.hid ((Below.refl w.heap.size w).alloc (Nat.le_refl _) (.cells #[.int .i64 X.id.1, .int .i64 X.id.2, .int .i64 X.bal, .int .i64 X.st, .int .i64 X.k, .int .i64 X.key, .int .i64 X.v, .int .i64 X.seq, .slice ua un uc] 29))
  go_enter Try.func6, Try.ntmps6
  go_upto_region 1 with fail
  generalize w.alloc (.cells #[.int .i64 X.id.1, .int .i64 X.id.2, .int .i64 X.bal, .int .i64 X.st, .int .i64 X.k, .int .i64 X.key, .int .i64 X.v, .int .i64 X.seq, .slice ua un uc] 29) = w1 at A D ⊢
  obtain ⟨⟨y0, y1, y2, y3, y4, y5, y6, y7, y8⟩, _, yl⟩ := nine_all A.out
  go_wp2_with fail
  refine (ip _ D.out).mono ?_
  rintro e w2 ⟨p, v', P, q, rfl, hq, hp, hg, hgP, hPr, B⟩
  obtain ⟨m, hm⟩ : ∃ m, Hid (P.length = m) := ⟨_, Lib.hid rfl⟩
  obtain ⟨va, vc, rfl⟩ : ∃ a c, v' = .slice a m c := by obtain ⟨a, c, e, _⟩ := hPr; exact ⟨a, c, by rw [e, hm.out]⟩
  replace D := Lib.hid (bstep D.out B)
  clear ip B y0 y1 y2 y3 y4 y5 y6 y7 y8 yl A hg hgP hu
  replace hq := Lib.hid hq
  replace hp := Lib.hid hp
  have R := Lib.hid (heap_alloc_new w2 (.cells #[.int .i64 p.id.1, .int .i64 p.id.2, .int .i64 p.bal, .int .i64 p.k, .int .i64 p.key, .int .i64 p.v, .int .i64 p.r, .int .u64 (p.g 0), .int .u64 (p.g 1), .int .u64 (p.g 2), .int .u64 (p.g 3), .int .u64 (p.g 4), .slice va m vc] 62))
  have BA := (Below.refl w2.heap.size w2).alloc (Nat.le_refl _) (.cells #[.int .i64 p.id.1, .int .i64 p.id.2, .int .i64 p.bal, .int .i64 p.k, .int .i64 p.key, .int .i64 p.v, .int .i64 p.r, .int .u64 (p.g 0), .int .u64 (p.g 1), .int .u64 (p.g 2), .int .u64 (p.g 3), .int .u64 (p.g 4), .slice va m vc] 62)
  replace D := Lib.hid (bstep D.out BA)
  replace hPr := Lib.hid (hPr.up BA (Nat.le_refl _))
  clear BA
  go_upto_region 2 with fail
  generalize w2.heap.size = bx at R ⊢
  generalize w2.alloc (.cells #[.int .i64 p.id.1, .int .i64 p.id.2, .int .i64 p.bal, .int .i64 p.k, .int .i64 p.key, .int .i64 p.v, .int .i64 p.r, .int .u64 (p.g 0), .int .u64 (p.g 1), .int .u64 (p.g 2), .int .u64 (p.g 3), .int .u64 (p.g 4), .slice va m vc] 62) = w3 at R D hPr ⊢
  obtain ⟨⟨c0, c1, c2, c3, c4, c5, c6, c7, c8, c9, c10, c11, c12⟩, _, cl⟩ := all13 R.out
  cases q
  · have hR := Lib.hid (path_bad (n := n) (X := X) (E := E) (fun g => by have := g.2.1; rw [← hq.out] at this; cases this))
    go_wp2_with fail
    go_ret
    exact ⟨by rw [hR.out]; rfl, D.out⟩
  · have hA := hq.out.symm
    have hlt := (answ_of hA).2.2.2
    obtain ⟨hp1, hp2⟩ := hp.out (by rw [← hl.out]; exact hlt)
    have hml : m = l := by rw [← hm.out, hp2, List.length_map, hl.out]
    subst hml
    have hl5 : m < 5 := by rw [hl.out] at hlt; exact hlt
    have iv := fun W => ivr_any n W
    by_cases hn : 1 ≤ n ∧ n ≤ 5
    · simp only [decide_eq_true hn] at iv
      have sz := fun W => ipsize_any p va m vc W h2
      have ag := fun W (H : Prs W (.slice va m vc) P) => iagA_any p (.slice va m vc) P W H
      have fs := fun W => ifast_any n W
      have ss := fun W => islow_any n W
      obtain ⟨f, hf⟩ : ∃ f, Hid (fastR n = f) := ⟨_, Lib.hid rfl⟩
      obtain ⟨g, hg⟩ : ∃ f, Hid (slowR n = f) := ⟨_, Lib.hid rfl⟩
      simp only [hf.out] at fs
      simp only [hg.out] at ss
      have hal := all_like (own := X) (A := E) (enB_of (answ_of hA).2.1).2.2.1 (fun x hx => (enB_of (one_of ((answ_of hA).1 x hx)).1).2.2.1)
      rw [← hp1, ← hp2] at hal
      obtain ⟨t, ht⟩ : ∃ t, Hid (E.all (likeB X) = t) := ⟨_, Lib.hid rfl⟩
      rw [ht.out] at hal
      simp only [hal] at ag
      unfold Pr.val prV at ag
      unfold polV at sz
      replace hal := Lib.hid hal
      replace hA := Lib.hid hA
      clear hp hp1 hp2 hq hlt
      go_wp2_with fail
      refine (iv _).mono ?_
      rintro e w' ⟨rfl, rfl⟩
      go_wp2_with fail
      refine (sz _).mono ?_
      rintro e w' ⟨rfl, B⟩
      replace R := Lib.hid (bblk B (lt_of_heap R.out) R.out)
      replace D := Lib.hid (bstep D.out B)
      replace hPr := Lib.hid (hPr.out.up B (Nat.le_refl _))
      clear B c0 c1 c2 c3 c4 c5 c6 c7 c8 c9 c10 c11 c12 cl
      obtain ⟨⟨c0, c1, c2, c3, c4, c5, c6, c7, c8, c9, c10, c11, c12⟩, _, cl⟩ := all13 R.out
      by_cases hmn : n < 1 + (m : Int)
      · have hR := Lib.hid (path_bad (n := n) (X := X) (E := E) (fun g => by have := g.2.2; rw [hl.out] at this; omega))
        go_wp2_with fail
        go_ret
        exact ⟨by rw [hR.out]; rfl, D.out⟩
      · have hR := Lib.hid (path_good (n := n) (X := X) (E := E) (t := t) ⟨hn, hA.out, by rw [hl.out]; omega⟩ ht.out)
        rw [hf.out, hg.out, hl.out] at hR
        go_wp2_with fail
        refine (sz _).mono ?_
        rintro e w' ⟨rfl, B⟩
        replace R := Lib.hid (bblk B (lt_of_heap R.out) R.out)
        replace D := Lib.hid (bstep D.out B)
        replace hPr := Lib.hid (hPr.out.up B (Nat.le_refl _))
        clear B c0 c1 c2 c3 c4 c5 c6 c7 c8 c9 c10 c11 c12 cl
        obtain ⟨⟨c0, c1, c2, c3, c4, c5, c6, c7, c8, c9, c10, c11, c12⟩, _, cl⟩ := all13 R.out
        go_wp2_with fail
        refine (fs _).mono ?_
        rintro e w' ⟨rfl, rfl⟩
        by_cases hfm : f ≤ 1 + (m : Int)
        · cases t
          · have hR2 := Lib.hid (hR.out.trans (if_neg (fun g => by cases g.1)))
            go_wp2_with fail
            refine (ag _ hPr.out).mono ?_
            rintro e w' ⟨rfl, B⟩
            replace R := Lib.hid (bblk B (lt_of_heap R.out) R.out)
            replace D := Lib.hid (bstep D.out B)
            replace hPr := Lib.hid (hPr.out.up B (Nat.le_refl _))
            clear B c0 c1 c2 c3 c4 c5 c6 c7 c8 c9 c10 c11 c12 cl
            obtain ⟨⟨c0, c1, c2, c3, c4, c5, c6, c7, c8, c9, c10, c11, c12⟩, _, cl⟩ := all13 R.out
            go_wp2_with fail
            refine (sz _).mono ?_
            rintro e w' ⟨rfl, B⟩
            replace R := Lib.hid (bblk B (lt_of_heap R.out) R.out)
            replace D := Lib.hid (bstep D.out B)
            replace hPr := Lib.hid (hPr.out.up B (Nat.le_refl _))
            clear B c0 c1 c2 c3 c4 c5 c6 c7 c8 c9 c10 c11 c12 cl
            obtain ⟨⟨c0, c1, c2, c3, c4, c5, c6, c7, c8, c9, c10, c11, c12⟩, _, cl⟩ := all13 R.out
            go_wp2_with fail
            refine (ss _).mono ?_
            rintro e w' ⟨rfl, rfl⟩
            by_cases hgm : g ≤ 1 + (m : Int)
            · have hR3 := Lib.hid (hR2.out.trans (if_pos (by omega)))
              go_wp2_with fail
              go_ret
              exact ⟨by rw [hR3.out]; rfl, D.out⟩
            · have hR3 := Lib.hid (hR2.out.trans (if_neg (by omega)))
              go_wp2_with fail
              go_ret
              exact ⟨by rw [hR3.out]; rfl, D.out⟩
          · have hR2 := Lib.hid (hR.out.trans (if_pos ⟨rfl, by omega⟩))
            go_wp2_with fail
            refine (ag _ hPr.out).mono ?_
            rintro e w' ⟨rfl, B⟩
            replace R := Lib.hid (bblk B (lt_of_heap R.out) R.out)
            replace D := Lib.hid (bstep D.out B)
            replace hPr := Lib.hid (hPr.out.up B (Nat.le_refl _))
            clear B c0 c1 c2 c3 c4 c5 c6 c7 c8 c9 c10 c11 c12 cl
            obtain ⟨⟨c0, c1, c2, c3, c4, c5, c6, c7, c8, c9, c10, c11, c12⟩, _, cl⟩ := all13 R.out
            go_wp2_with fail
            go_ret
            exact ⟨by rw [hR2.out]; rfl, D.out⟩
        · have hR2 := Lib.hid (hR.out.trans (if_neg (fun g => by have := g.2; omega)))
          go_wp2_with fail
          refine (sz _).mono ?_
          rintro e w' ⟨rfl, B⟩
          replace R := Lib.hid (bblk B (lt_of_heap R.out) R.out)
          replace D := Lib.hid (bstep D.out B)
          replace hPr := Lib.hid (hPr.out.up B (Nat.le_refl _))
          clear B c0 c1 c2 c3 c4 c5 c6 c7 c8 c9 c10 c11 c12 cl
          obtain ⟨⟨c0, c1, c2, c3, c4, c5, c6, c7, c8, c9, c10, c11, c12⟩, _, cl⟩ := all13 R.out
          go_wp2_with fail
          refine (ss _).mono ?_
          rintro e w' ⟨rfl, rfl⟩
          by_cases hgm : g ≤ 1 + (m : Int)
          · have hR3 := Lib.hid (hR2.out.trans (if_pos (by omega)))
            go_wp2_with fail
            go_ret
            exact ⟨by rw [hR3.out]; rfl, D.out⟩
          · have hR3 := Lib.hid (hR2.out.trans (if_neg (by omega)))
            go_wp2_with fail
            go_ret
            exact ⟨by rw [hR3.out]; rfl, D.out⟩
    · simp only [decide_eq_false hn] at iv
      have hR := Lib.hid (path_bad (n := n) (X := X) (E := E) (fun g => hn g.1))
      go_wp2_with fail
      refine (iv _).mono ?_
      rintro e w' ⟨rfl, rfl⟩
      go_wp2_with fail
      go_ret
      exact ⟨by rw [hR.out]; rfl, D.out⟩
end Go.Proofs.Ytfcjhojkfchccaa

/- The model's l13Answers. -/
namespace Go.Proofs.Ytfcjhojkfchccaa
open Go.RowKit
set_option linter.unusedVariables false

theorem one_no {own x : En} (h : ¬ (enB x = true ∧ x.id = own.id ∧ (x.k = own.k ∧ x.key = own.key ∧ x.v = own.v) ∧ x.st = 1)) : oneB own x = false := by
  cases e : oneB own x with
  | false => rfl
  | true => exact absurd (one_of e) h
theorem answ_no {own : En} {A : List En} {k : Nat} (hk : k < A.length) (h : oneB own (A.getD k en0) = false) : answB own A = false := by
  cases e : answB own A with
  | false => rfl
  | true => rw [(answ_of e).1 _ (enD_mem hk)] at h; cases h
theorem answ_all {own : En} {A : List En} (h : ∀ t, t < A.length → oneB own (A.getD t en0) = true) : answB own A = (enB own && (decide (own.st = 1) && decide (A.length < 5))) := by
  have e : A.all (oneB own) = true := by
    rw [List.all_eq_true]
    intro x hx
    obtain ⟨k, hk, rfl⟩ := mem_enD hx
    exact h k hk
  unfold answB
  rw [e, Bool.true_and]
set_option maxRecDepth 100000 in
set_option maxHeartbeats 8000000 in
theorem sans_any (X : En) (u v : Value) (E : List En) (w : World) (hu : Ids w u X.deps) (h : Ens w v E) :
    Calls Try.prog 25 #[env X u, v] w fun e w' => e = .returned (.bool (answB X E)) ∧ Below w.heap.size w w' := by
  obtain ⟨ua, un, uc, rfl⟩ : ∃ ua un uc, u = .slice ua un uc := by obtain ⟨a, c, e, _⟩ := hu; exact ⟨a, _, c, e⟩
  have ex := fun W (hb : Below w.heap.size w W) => sentry_any X (.slice ua un uc) W (hu.up hb (Nat.le_refl _))
  obtain ⟨a0, ca0, rfl, _, hm, h⟩ := h
  obtain ⟨n, hn⟩ : ∃ n, Hid (E.length = n) := ⟨_, Lib.hid rfl⟩
  rw [hn.out] at hm ⊢
  replace h := Lib.hid h
  obtain ⟨⟨x1, x2⟩, xb, xt, xk, xy, xv, xs, XD⟩ := X
  unfold env at ex
  unfold env
  dsimp only at ex hu ⊢
  have A := Lib.hid (heap_alloc_new w (.cells #[.int .i64 x1, .int .i64 x2, .int .i64 xb, .int .i64 xt, .int .i64 xk, .int .i64 xy, .int .i64 xv, .int .i64 xs, .slice ua un uc] 29))
  have D := Lib.hid ((Below.refl w.heap.size w).alloc (Nat.le_refl _) (.cells #[.int .i64 x1, .int .i64 x2, .int .i64 xb, .int .i64 xt, .int .i64 xk, .int .i64 xy, .int .i64 xv, .int .i64 xs, .slice ua un uc] 29))
  clear hu
  go_enter Try.func25, Try.ntmps25
  go_upto_region 1 with fail
  generalize w.alloc (.cells #[.int .i64 x1, .int .i64 x2, .int .i64 xb, .int .i64 xt, .int .i64 xk, .int .i64 xy, .int .i64 xv, .int .i64 xs, .slice ua un uc] 29) = w1 at A D ⊢
  go_wp2_with fail
  go_loopw [5] (fun i wr => ∃ k : Nat, k ≤ n ∧ i = .int .i64 k ∧ Hid (∀ t, t < k → oneB ⟨(x1, x2), xb, xt, xk, xy, xv, xs, XD⟩ (E.getD t en0) = true) ∧ Hid (wr.heap[w.heap.size]? = some (.cells #[.int .i64 x1, .int .i64 x2, .int .i64 xb, .int .i64 xt, .int .i64 xk, .int .i64 xy, .int .i64 xv, .int .i64 xs, .slice ua un uc] 29 (0, 0))) ∧ Hid (Below w.heap.size w wr)) (fun i _ => n - (intOf i).toNat)
  case atStart => exact ⟨0, Nat.zero_le _, rfl, Lib.hid (fun t ht => absurd ht (Nat.not_lt_zero _)), A, D⟩
  case round =>
    obtain ⟨k, hk, rfl, hS, A2, D2⟩ := hrel
    clear A D
    by_cases hlt : k < n
    · have hkE : k < E.length := by rw [hn.out]; exact hlt
      obtain ⟨b, off, U, ha, hE⟩ := h.out.resolve_left (by have := hn.out; omega)
      subst ha
      have hA := hE.up D2.out (Nat.le_refl _)
      have hbl := hA.lt
      have hP := hA.at_ k hkE
      obtain ⟨ya, yn, yc, hy⟩ : ∃ ua un uc, U k = .slice ua un uc := by obtain ⟨a, c, e, _⟩ := hP.ids; exact ⟨a, _, c, e⟩
      obtain ⟨Y, hY⟩ : ∃ Y, Hid (E.getD k en0 = Y) := ⟨_, Lib.hid rfl⟩
      rw [hy, hY.out] at hP
      obtain ⟨⟨z1, z2⟩, zb, zt, zk, zy, zv, zs, YD⟩ := Y
      have q0 := hP.c0
      have q1 := hP.c1
      have q2 := hP.c2
      have q3 := hP.c3
      have q4 := hP.c4
      have q5 := hP.c5
      have q6 := hP.c6
      have q7 := hP.c7
      have q8 := hP.c8
      have hI := hP.ids
      dsimp only at q0 q1 q2 q3 q4 q5 q6 q7 q8 hI
      clear hA hE hP hy ex
      go_upto_region 5 with fail
      have ey := fun W (hb : Below wr.heap.size wr W) => sentry_any ⟨(z1, z2), zb, zt, zk, zy, zv, zs, YD⟩ (.slice ya yn yc) W (hI.up hb (Nat.le_refl _))
      unfold env at ey
      dsimp only at ey
      have B5 := Lib.hid ((Below.refl wr.heap.size wr).alloc (Nat.le_refl _) (.cells #[.int .i64 z1, .int .i64 z2, .int .i64 zb, .int .i64 zt, .int .i64 zk, .int .i64 zy, .int .i64 zv, .int .i64 zs, .slice ya yn yc] 29))
      have D5 := Lib.hid (bstep D2.out B5.out)
      have A5 := Lib.hid (bblk B5.out (lt_of_heap A2.out) A2.out)
      have G5 := Lib.hid (heap_alloc_new wr (.cells #[.int .i64 z1, .int .i64 z2, .int .i64 zb, .int .i64 zt, .int .i64 zk, .int .i64 zy, .int .i64 zv, .int .i64 zs, .slice ya yn yc] 29))
      clear q0 q1 q2 q3 q4 q5 q6 q7 q8 hI hbl A2 D2
      generalize wr.heap.size = bx at G5 B5 ey ⊢
      generalize wr.alloc (.cells #[.int .i64 z1, .int .i64 z2, .int .i64 zb, .int .i64 zt, .int .i64 zk, .int .i64 zy, .int .i64 zv, .int .i64 zs, .slice ya yn yc] 29) = w5 at A5 D5 G5 B5 ⊢
      obtain ⟨⟨y0, y1, y2, y3, y4, y5, y6, y7, y8⟩, _, yl⟩ := nine_all G5.out
      go_wp2_with fail
      refine (ey _ B5.out).mono ?_
      rintro e w6 ⟨rfl, B⟩
      clear y0 y1 y2 y3 y4 y5 y6 y7 y8 yl ey B5
      replace A5 := Lib.hid (bblk B (lt_of_heap A5.out) A5.out)
      replace G5 := Lib.hid (bblk B (lt_of_heap G5.out) G5.out)
      replace D5 := Lib.hid (bstep D5.out B)
      clear B
      obtain ⟨⟨y0, y1, y2, y3, y4, y5, y6, y7, y8⟩, _, yl⟩ := nine_all G5.out
      obtain ⟨⟨c0, c1, c2, c3, c4, c5, c6, c7, c8⟩, _, cl⟩ := nine_all A5.out
      obtain ⟨q, hyv⟩ : ∃ q, Hid (enB ⟨(z1, z2), zb, zt, zk, zy, zv, zs, YD⟩ = q) := ⟨_, Lib.hid rfl⟩
      rw [hyv.out]
      cases q
      · have hR := Lib.hid (answ_no (own := ⟨(x1, x2), xb, xt, xk, xy, xv, xs, XD⟩) (A := E) hkE (one_no (by rw [hY.out]; exact fun g => by have := hyv.out.symm.trans g.1; cases this)))
        go_wp2_with fail
        go_ret
        exact ⟨by rw [hR.out]; rfl, D5.out⟩
      · by_cases e1 : x1 = z1
        · subst e1
          by_cases e2 : x2 = z2
          · subst e2
            by_cases e3 : xk = zk
            · subst e3
              by_cases e4 : xy = zy
              · subst e4
                by_cases e5 : xv = zv
                · subst e5
                  by_cases e6 : zt = 1
                  · subst e6
                    have hone := Lib.hid (show oneB ⟨(x1, x2), xb, xt, xk, xy, xv, xs, XD⟩ ⟨(x1, x2), zb, 1, xk, xy, xv, zs, YD⟩ = true from by unfold oneB; rw [hyv.out]; simp)
                    go_wp2_with fail
                    go_roundw
                    case rel =>
                      refine ⟨k + 1, by omega, by go_num, Lib.hid (fun t ht => ?_), A5, D5⟩
                      rcases Nat.lt_or_eq_of_le (Nat.le_of_lt_succ ht) with h1 | h1
                      · exact hS.out t h1
                      · rw [h1, hY.out]; exact hone.out
                    case measure => simp [intOf]; omega
                  · have hR := Lib.hid (answ_no (own := ⟨(x1, x2), xb, xt, xk, xy, xv, xs, XD⟩) (A := E) hkE (one_no (by rw [hY.out]; exact fun g => e6 g.2.2.2)))
                    go_wp2_with fail
                    go_ret
                    exact ⟨by rw [hR.out]; rfl, D5.out⟩
                · have e5' : ¬ zv = xv := fun h => e5 h.symm
                  have hR := Lib.hid (answ_no (own := ⟨(x1, x2), xb, xt, xk, xy, xv, xs, XD⟩) (A := E) hkE (one_no (by rw [hY.out]; exact fun g => e5 g.2.2.1.2.2.symm)))
                  go_wp2_with fail
                  go_ret
                  exact ⟨by rw [hR.out]; rfl, D5.out⟩
              · have e4' : ¬ zy = xy := fun h => e4 h.symm
                have hR := Lib.hid (answ_no (own := ⟨(x1, x2), xb, xt, xk, xy, xv, xs, XD⟩) (A := E) hkE (one_no (by rw [hY.out]; exact fun g => e4 g.2.2.1.2.1.symm)))
                go_wp2_with fail
                go_ret
                exact ⟨by rw [hR.out]; rfl, D5.out⟩
            · have e3' : ¬ zk = xk := fun h => e3 h.symm
              have hR := Lib.hid (answ_no (own := ⟨(x1, x2), xb, xt, xk, xy, xv, xs, XD⟩) (A := E) hkE (one_no (by rw [hY.out]; exact fun g => e3 g.2.2.1.1.symm)))
              go_wp2_with fail
              go_ret
              exact ⟨by rw [hR.out]; rfl, D5.out⟩
          · have e2' : ¬ z2 = x2 := fun h => e2 h.symm
            have hR := Lib.hid (answ_no (own := ⟨(x1, x2), xb, xt, xk, xy, xv, xs, XD⟩) (A := E) hkE (one_no (by rw [hY.out]; exact fun g => e2 (congrArg Prod.snd g.2.1).symm)))
            go_wp2_with fail
            go_ret
            exact ⟨by rw [hR.out]; rfl, D5.out⟩
        · have e1' : ¬ z1 = x1 := fun h => e1 h.symm
          have hR := Lib.hid (answ_no (own := ⟨(x1, x2), xb, xt, xk, xy, xv, xs, XD⟩) (A := E) hkE (one_no (by rw [hY.out]; exact fun g => e1 (congrArg Prod.fst g.2.1).symm)))
          go_wp2_with fail
          go_ret
          exact ⟨by rw [hR.out]; rfl, D5.out⟩
    · obtain rfl : k = n := by omega
      have hR := Lib.hid (answ_all (own := ⟨(x1, x2), xb, xt, xk, xy, xv, xs, XD⟩) (A := E) (fun t ht => hS.out t (by rw [← hn.out]; exact ht)))
      obtain ⟨q, hyv⟩ : ∃ q, Hid (enB ⟨(x1, x2), xb, xt, xk, xy, xv, xs, XD⟩ = q) := ⟨_, Lib.hid rfl⟩
      obtain ⟨⟨c0, c1, c2, c3, c4, c5, c6, c7, c8⟩, _, cl⟩ := nine_all A2.out
      go_wp2_with fail
      refine (ex _ D2.out).mono ?_
      rintro e w6 ⟨rfl, B⟩
      clear c0 c1 c2 c3 c4 c5 c6 c7 c8 cl ex
      replace A2 := Lib.hid (bblk B (lt_of_heap A2.out) A2.out)
      replace D2 := Lib.hid (bstep D2.out B)
      clear B
      obtain ⟨⟨c0, c1, c2, c3, c4, c5, c6, c7, c8⟩, _, cl⟩ := nine_all A2.out
      rw [hyv.out]
      have hR2 : answB ⟨(x1, x2), xb, xt, xk, xy, xv, xs, XD⟩ E = (q && (decide (xt = 1) && decide (k < 5))) := by rw [hR.out, hyv.out, hn.out]
      replace hR2 := Lib.hid hR2
      clear hR
      cases q
      · go_wp2_with fail
        go_ret
        exact ⟨by rw [hR2.out]; rfl, D2.out⟩
      · by_cases e6 : xt = 1
        · subst e6
          by_cases h5 : (k : Int) < 5
          · go_wp2_with fail
            go_ret
            exact ⟨by rw [hR2.out, decide_eq_true (show k < 5 by omega)]; rfl, D2.out⟩
          · go_wp2_with fail
            go_ret
            exact ⟨by rw [hR2.out, decide_eq_false (show ¬ k < 5 by omega)]; show Ending.returned (Value.bool (decide ((k : Int) < 5))) = _; rw [decide_eq_false (show ¬ (k : Int) < 5 by omega)]; rfl, D2.out⟩
        · go_wp2_with fail
          go_ret
          exact ⟨by rw [hR2.out, decide_eq_false e6]; rfl, D2.out⟩
end Go.Proofs.Ytfcjhojkfchccaa
