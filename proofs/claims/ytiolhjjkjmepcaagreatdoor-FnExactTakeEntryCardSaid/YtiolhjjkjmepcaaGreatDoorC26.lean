/- Texts laid together. -/
import Derived.Test.YtiolhjjkjmepcaaGreatDoorC02
import Derived.Test.YtiolhjjkjmepcaaGreatDoorC08
import Derived.Test.YtiolhjjkjmepcaaGreatDoorC01
import Derived.Deep.RegionWith
/- Plain facts: a set's ids in order. -/
namespace Go.Proofs.YtiolhjjkjmepcaaGreatDoor
set_option linter.unusedVariables false

/-- The ids of a replica whose bits are m. -/
def bitsL (r m : Nat) : List Pid := (nums m).map fun n : Nat => ((r : Int), (n : Int))
/-- .. of the replicas from r on. -/
def idsFrom (f : Nat → Nat) : Nat → Nat → List Pid
  | _, 0 => []
  | r, k + 1 => bitsL r (f r) ++ idsFrom f (r + 1) k
def idsO (f : Nat → Nat) : List Pid := idsFrom f 0 5
theorem bitsL_len (r m : Nat) : (bitsL r m).length = pc 64 m := by unfold bitsL; rw [List.length_map, nums_len]
theorem bitsL_zero (r : Nat) : bitsL r 0 = [] := by unfold bitsL; rw [nums_zero]; rfl
theorem mem_bitsL {r m : Nat} {x : Pid} : x ∈ bitsL r m ↔ ∃ n : Nat, x = ((r : Int), (n : Int)) ∧ n < 64 ∧ m.testBit n = true := by
  unfold bitsL
  rw [List.mem_map]
  constructor
  · rintro ⟨n, h, rfl⟩; exact ⟨n, rfl, mem_nums.1 h⟩
  · rintro ⟨n, rfl, h⟩; exact ⟨n, mem_nums.2 h, rfl⟩
theorem bitsL_asc (r m : Nat) : Asc (bitsL r m) := by
  unfold bitsL Asc
  rw [List.pairwise_map]
  refine List.Pairwise.imp (R := (· < ·)) (fun {a b} h => ?_) (nums_asc m)
  have h' : a < b := h
  exact ltP_iff.2 (.inr ⟨rfl, by show (a : Int) < (b : Int); omega⟩)
theorem mem_from {f : Nat → Nat} {x : Pid} : ∀ {k r : Nat}, x ∈ idsFrom f r k ↔ ∃ r' n : Nat, x = ((r' : Int), (n : Int)) ∧ r ≤ r' ∧ r' < r + k ∧ n < 64 ∧ (f r').testBit n = true
  | 0, r => by simp [idsFrom]; intros; omega
  | k + 1, r => by
    rw [idsFrom, List.mem_append, mem_bitsL, mem_from]
    constructor
    · rintro (⟨n, rfl, h⟩ | ⟨r', n, rfl, h1, h2, h⟩)
      · exact ⟨r, n, rfl, Nat.le_refl _, by omega, h⟩
      · exact ⟨r', n, rfl, by omega, by omega, h⟩
    · rintro ⟨r', n, rfl, h1, h2, h⟩
      by_cases e : r' = r
      · subst e; exact .inl ⟨n, rfl, h⟩
      · exact .inr ⟨r', n, rfl, by omega, by omega, h⟩
theorem from_asc {f : Nat → Nat} : ∀ (k r : Nat), Asc (idsFrom f r k)
  | 0, r => asc_nil
  | k + 1, r => by
    rw [idsFrom]
    refine List.pairwise_append.2 ⟨bitsL_asc _ _, from_asc k (r + 1), fun x hx y hy => ?_⟩
    obtain ⟨n, rfl, _⟩ := mem_bitsL.1 hx
    obtain ⟨r', n', rfl, h1, _⟩ := mem_from.1 hy
    rw [ltP_iff]; simp; omega
theorem mem_idsO {f : Nat → Nat} {x : Pid} : x ∈ idsO f ↔ ∃ r n : Nat, x = ((r : Int), (n : Int)) ∧ r < 5 ∧ n < 64 ∧ (f r).testBit n = true := by
  unfold idsO
  rw [mem_from]
  constructor
  · rintro ⟨r, n, rfl, _, h2, h⟩; exact ⟨r, n, rfl, by omega, h⟩
  · rintro ⟨r, n, rfl, h2, h⟩; exact ⟨r, n, rfl, by omega, by omega, h⟩
theorem idsO_asc (f : Nat → Nat) : Asc (idsO f) := from_asc 5 0
def manyN (f : Nat → Nat) : Nat := pc 64 (f 0) + pc 64 (f 1) + pc 64 (f 2) + pc 64 (f 3) + pc 64 (f 4)
theorem idsO_len (f : Nat → Nat) : (idsO f).length = manyN f := by
  simp only [idsO, idsFrom, List.length_append, bitsL_len, List.length_nil, manyN, Nat.zero_add, Nat.reduceAdd]; omega
theorem manyN_le (f : Nat → Nat) : manyN f ≤ 320 := by
  unfold manyN
  have h0 := pc_le 64 (f 0); have h1 := pc_le 64 (f 1); have h2 := pc_le 64 (f 2); have h3 := pc_le 64 (f 3); have h4 := pc_le 64 (f 4)
  omega
/-- The lowest bit comes first. -/
theorem bitsL_cons {r m : Nat} (h0 : m ≠ 0) (h : m < 18446744073709551616) : bitsL r m = ((r : Int), ((Lib.ctz 64 m : Nat) : Int)) :: bitsL r (m &&& (m - 1)) := by
  obtain ⟨hk, ht, hlo, hcl⟩ := low_bit h0 h
  refine asc_ext (bitsL_asc r m) (List.pairwise_cons.2 ⟨fun x hx => ?_, bitsL_asc _ _⟩) (fun x => ?_)
  · obtain ⟨n, rfl, hn, hb⟩ := mem_bitsL.1 hx
    rw [hcl, Bool.and_eq_true, decide_eq_true_iff] at hb
    rw [ltP_iff]
    have : ¬ n < Lib.ctz 64 m := fun e => by rw [hlo n e] at hb; cases hb.1
    refine .inr ⟨rfl, ?_⟩
    have := hb.2
    show ((Lib.ctz 64 m : Nat) : Int) < (n : Int)
    omega
  · rw [List.mem_cons, mem_bitsL, mem_bitsL]
    constructor
    · rintro ⟨n, rfl, hn, hb⟩
      by_cases e : n = Lib.ctz 64 m
      · subst e; exact .inl rfl
      · exact .inr ⟨n, rfl, hn, by rw [hcl, hb, decide_eq_true e]; rfl⟩
    · rintro (rfl | ⟨n, rfl, hn, hb⟩)
      · exact ⟨_, rfl, hk, ht⟩
      · rw [hcl, Bool.and_eq_true] at hb
        exact ⟨n, rfl, hn, hb.1⟩

/-- A set of sorted ids has just these. -/
theorem idsO_mask {L : List Pid} (h : srtB L = true) : idsO (mask L) = L := by
  obtain ⟨h1, h2, h3⟩ := srt_of h
  refine asc_ext (idsO_asc _) h3 (fun x => ?_)
  rw [mem_idsO]
  constructor
  · rintro ⟨r, n, rfl, hr, hn, hb⟩; exact (mask_bit h2 r n).1 hb
  · intro hx
    obtain ⟨r, n, rfl, hr, hn, hn2⟩ := id_nat (List.all_eq_true.1 h2 x hx)
    exact ⟨r, n, rfl, hr, by omega, (mask_bit h2 r n).2 hx⟩

/-- Both lists joined. -/
def joinP (a b : List Pid) : List Pid := b.foldl putP a
theorem joinP_asc {a b : List Pid} (ha : Asc a) : Asc (joinP a b) := foldl_asc b ha
theorem joinP_mem {a b : List Pid} {x : Pid} : x ∈ joinP a b ↔ x ∈ a ∨ x ∈ b := foldl_mem b a x
theorem joinP_take {a b : List Pid} {k : Nat} (hk : k < b.length) : joinP a (b.take (k + 1)) = putP (joinP a (b.take k)) (b.getD k nop) := by
  rw [take_next hk]; unfold joinP; rw [List.foldl_append]; rfl
theorem joinP_len (a b : List Pid) : (joinP a b).length ≤ a.length + b.length := (foldl_len b a).2
/-- What DepsJoin answers. -/
def joinR (a b : List Pid) : List Pid × Bool := if srtB a = true ∧ srtB b = true ∧ (joinP a b).length ≤ 12 then (joinP a b, true) else ([], false)
theorem joinR_t {a b : List Pid} (h1 : srtB a = true) (h2 : srtB b = true) (h3 : (joinP a b).length ≤ 12) : joinR a b = (joinP a b, true) := if_pos ⟨h1, h2, h3⟩
theorem joinR_1 {a b : List Pid} (h : srtB a = false) : joinR a b = ([], false) := if_neg fun x => by rw [h] at x; cases x.1
theorem joinR_2 {a b : List Pid} (h : srtB b = false) : joinR a b = ([], false) := if_neg fun x => by rw [h] at x; cases x.2.1
theorem joinR_3 {a b : List Pid} (h : ¬ (joinP a b).length ≤ 12) : joinR a b = ([], false) := if_neg fun x => h x.2.2
theorem idsO_join {a b : List Pid} (ha : srtB a = true) (hb : srtB b = true) : idsO (fun r => setF a r ||| setF b r) = joinP a b := by
  rw [setF_t ha, setF_t hb]
  obtain ⟨a1, a2, a3⟩ := srt_of ha
  obtain ⟨b1, b2, b3⟩ := srt_of hb
  refine asc_ext (idsO_asc _) (joinP_asc a3) (fun x => ?_)
  rw [mem_idsO, joinP_mem]
  constructor
  · rintro ⟨r, n, rfl, hr, hn, hb⟩
    rw [Nat.testBit_or, Bool.or_eq_true, mask_bit a2, mask_bit b2] at hb
    exact hb
  · intro hx
    obtain ⟨r, n, rfl, hr, hn, hn2⟩ := id_nat (x := x) (by rcases hx with h | h; exact List.all_eq_true.1 a2 x h; exact List.all_eq_true.1 b2 x h)
    exact ⟨r, n, rfl, hr, by omega, by rw [Nat.testBit_or, Bool.or_eq_true, mask_bit a2, mask_bit b2]; exact hx⟩
end Go.Proofs.YtiolhjjkjmepcaaGreatDoor

/- What AnswersJoin and PathOf answer: plain facts. -/
namespace Go.Proofs.YtiolhjjkjmepcaaGreatDoor
set_option linter.unusedVariables false

/-- An answer is joined. -/
def ansS (o x : En) : En := { o with seq := max o.seq x.seq, deps := joinP o.deps x.deps }
/-- All answers are joined. -/
def ansE (own : En) (A : List En) : En := A.foldl ansS own
/-- An answer is about the same. -/
def oneB (own x : En) : Bool := enB x && decide (x.id = own.id ∧ (x.k = own.k ∧ x.key = own.key ∧ x.v = own.v) ∧ x.st = 1)
/-- What valid answers are. -/
def answB (own : En) (A : List En) : Bool := A.all (oneB own) && (enB own && (decide (own.st = 1) && decide (A.length < 5)))
/-- What AnswersJoin answers. -/
def ansR (own : En) (A : List En) : En × Bool := if answB own A = true ∧ enB (ansE own A) = true then (ansE own A, true) else (en0, false)
/-- An answer has the same rank and the same ids. -/
def likeB (own x : En) : Bool := decide (x.seq = own.seq ∧ x.deps = own.deps)
theorem take_nextE {A : List En} {k : Nat} (hk : k < A.length) : A.take (k + 1) = A.take k ++ [A.getD k en0] := by
  rw [List.take_add_one, List.getElem?_eq_getElem hk, List.getD_eq_getElem?_getD, List.getElem?_eq_getElem hk]; rfl
theorem ansE_next {own : En} {A : List En} {k : Nat} (hk : k < A.length) : ansE own (A.take (k + 1)) = ansS (ansE own (A.take k)) (A.getD k en0) := by
  rw [take_nextE hk]; unfold ansE; rw [List.foldl_append]; rfl
theorem ansE_keep : ∀ (A : List En) (own : En), (ansE own A).id = own.id ∧ (ansE own A).bal = own.bal ∧ (ansE own A).st = own.st ∧ (ansE own A).k = own.k ∧ (ansE own A).key = own.key ∧ (ansE own A).v = own.v
  | [], own => ⟨rfl, rfl, rfl, rfl, rfl, rfl⟩
  | x :: A, own => by
    obtain ⟨h1, h2, h3, h4, h5, h6⟩ := ansE_keep A (ansS own x)
    exact ⟨h1, h2, h3, h4, h5, h6⟩
theorem ansE_mem : ∀ (A : List En) (own : En) (a : Pid), a ∈ (ansE own A).deps ↔ a ∈ own.deps ∨ ∃ x ∈ A, a ∈ x.deps
  | [], own, a => by simp [ansE]
  | x :: A, own, a => by
    have h := ansE_mem A (ansS own x) a
    show a ∈ (ansE (ansS own x) A).deps ↔ _
    rw [h]
    have e : a ∈ (ansS own x).deps ↔ a ∈ own.deps ∨ a ∈ x.deps := joinP_mem
    rw [e]
    constructor
    · rintro ((h | h) | ⟨y, hy, h⟩)
      · exact .inl h
      · exact .inr ⟨x, List.mem_cons_self .., h⟩
      · exact .inr ⟨y, List.mem_cons_of_mem _ hy, h⟩
    · rintro (h | ⟨y, hy, h⟩)
      · exact .inl (.inl h)
      · rcases List.mem_cons.1 hy with e | hy
        · exact .inl (.inr (by rw [← e]; exact h))
        · exact .inr ⟨y, hy, h⟩
theorem ansE_asc : ∀ (A : List En) (own : En), Asc own.deps → Asc (ansE own A).deps
  | [], own, h => h
  | x :: A, own, h => ansE_asc A (ansS own x) (joinP_asc h)
/-- The greatest rank. -/
def mostS (s : Int) (A : List En) : Int := A.foldl (fun m x => max m x.seq) s
theorem ansE_seq : ∀ (A : List En) (own : En), (ansE own A).seq = mostS own.seq A
  | [], own => rfl
  | x :: A, own => ansE_seq A (ansS own x)
theorem mostS_next {s : Int} {A : List En} {k : Nat} (hk : k < A.length) : mostS s (A.take (k + 1)) = max (mostS s (A.take k)) (A.getD k en0).seq := by
  rw [take_nextE hk]; unfold mostS; rw [List.foldl_append]; rfl
theorem mostS_ge : ∀ (A : List En) (s : Int), s ≤ mostS s A
  | [], s => Int.le_refl _
  | x :: A, s => Int.le_trans (Int.le_max_left _ _) (mostS_ge A (max s x.seq))
theorem mostS_mem : ∀ (A : List En) (s : Int) (x : En), x ∈ A → x.seq ≤ mostS s A
  | [], s, x, h => nomatch h
  | y :: A, s, x, h => by
    rcases List.mem_cons.1 h with e | h
    · rw [e]; exact Int.le_trans (Int.le_max_right _ _) (mostS_ge A (max s y.seq))
    · exact mostS_mem A _ x h
theorem one_of {own x : En} (h : oneB own x = true) : enB x = true ∧ x.id = own.id ∧ (x.k = own.k ∧ x.key = own.key ∧ x.v = own.v) ∧ x.st = 1 := by
  unfold oneB at h
  rw [Bool.and_eq_true, decide_eq_true_eq] at h
  exact ⟨h.1, h.2⟩
theorem answ_of {own : En} {A : List En} (h : answB own A = true) : (∀ x ∈ A, oneB own x = true) ∧ enB own = true ∧ own.st = 1 ∧ A.length < 5 := by
  unfold answB at h
  simp only [Bool.and_eq_true, decide_eq_true_eq, List.all_eq_true] at h
  exact ⟨h.1, h.2.1, h.2.2.1, h.2.2.2⟩
theorem answ_to {own : En} {A : List En} (h1 : ∀ x ∈ A, oneB own x = true) (h2 : enB own = true) (h3 : own.st = 1) (h4 : A.length < 5) : answB own A = true := by
  unfold answB
  simp only [Bool.and_eq_true, decide_eq_true_eq, List.all_eq_true]
  exact ⟨h1, h2, h3, h4⟩
theorem ans_is {own : En} {A : List En} (h : (ansR own A).2 = true) : answB own A = true ∧ enB (ansE own A) = true ∧ ansR own A = (ansE own A, true) := by
  unfold ansR at h ⊢
  split at h
  · rename_i g; exact ⟨g.1, g.2, if_pos g⟩
  · cases h
theorem ans_within {own : En} {A : List En} (h : (ansR own A).2 = true) : (∀ x ∈ A, withinB x.deps (ansE own A).deps = true) ∧ withinB own.deps (ansE own A).deps = true := by
  obtain ⟨h1, h2, _⟩ := ans_is h
  obtain ⟨g1, g2, _⟩ := answ_of h1
  have hs := (enB_of h2).2.2.1
  constructor
  · intro x hx
    unfold withinB
    rw [(enB_of (one_of (g1 x hx)).1).2.2.1, hs]
    simp only [Bool.true_and]
    exact inP_iff.2 fun a ha => (ansE_mem A own a).2 (.inr ⟨x, hx, ha⟩)
  · unfold withinB
    rw [(enB_of g2).2.2.1, hs]
    simp only [Bool.true_and]
    exact inP_iff.2 fun a ha => (ansE_mem A own a).2 (.inl ha)
theorem ans_none {own : En} {A : List En} (h : (ansR own A).2 = true) : ansR own [] = (own, true) := by
  obtain ⟨h1, h2, _⟩ := ans_is h
  obtain ⟨g1, g2, g3, _⟩ := answ_of h1
  have e : answB own [] = true := answ_to (fun _ h => nomatch h) g2 g3 (by decide)
  unfold ansR
  rw [if_pos ⟨e, g2⟩]; rfl
theorem ansS_self {o x : En} (hs : x.seq ≤ o.seq) (ha : Asc o.deps) (hd : ∀ a ∈ x.deps, a ∈ o.deps) : ansS o x = o := by
  have e1 : max o.seq x.seq = o.seq := by omega
  have e2 : joinP o.deps x.deps = o.deps := asc_ext (joinP_asc ha) ha fun a => by
    rw [joinP_mem]
    exact ⟨fun h => h.elim id (hd a), .inl⟩
  unfold ansS
  rw [e1, e2]
theorem ans_more {own : En} {A : List En} (h : (ansR own A).2 = true) (h5 : A.length + 1 < 5) : ansR own (A ++ [(ansR own A).1]) = ansR own A := by
  obtain ⟨h1, h2, h3⟩ := ans_is h
  obtain ⟨g1, g2, g3, g4⟩ := answ_of h1
  rw [h3]
  have e : ansE own (A ++ [ansE own A]) = ansE own A := by
    unfold ansE
    rw [List.foldl_append]
    show ansS (ansE own A) (ansE own A) = ansE own A
    exact ansS_self (Int.le_refl _) (srt_of (enB_of h2).2.2.1).2.2 (fun a ha => ha)
  obtain ⟨k1, _, k3, k4, k5, k6⟩ := ansE_keep A own
  have e2 : answB own (A ++ [ansE own A]) = true := by
    refine answ_to (fun x hx => ?_) g2 g3 (by rw [List.length_append]; simpa using h5)
    rcases List.mem_append.1 hx with hx | hx
    · exact g1 x hx
    · rw [List.mem_singleton] at hx
      rw [hx]
      unfold oneB
      rw [Bool.and_eq_true, decide_eq_true_eq]
      exact ⟨h2, k1, ⟨k4, k5, k6⟩, k3.trans g3⟩
  show ansR own (A ++ [ansE own A]) = _
  unfold ansR
  rw [e, if_pos ⟨e2, h2⟩]
theorem ansE_same : ∀ (A : List En) (own : En), Asc own.deps → (∀ x ∈ A, likeB own x = true) → ansE own A = own
  | [], own, _, _ => rfl
  | x :: A, own, ha, h => by
    have hx := h x (List.mem_cons_self ..)
    unfold likeB at hx
    rw [decide_eq_true_eq] at hx
    have e : ansS own x = own := ansS_self (by omega) ha (fun a h => by rw [hx.2] at h; exact h)
    show ansE (ansS own x) A = own
    rw [e]
    exact ansE_same A own ha fun y hy => h y (List.mem_cons_of_mem _ hy)
end Go.Proofs.YtiolhjjkjmepcaaGreatDoor

/- The model's l13Alike. -/
namespace Go.Proofs.YtiolhjjkjmepcaaGreatDoor
open Go.RowKit
set_option linter.unusedVariables false

theorem ids_ext {A B : List Pid} (hl : A.length = B.length) (h : ∀ t, t < A.length → A.getD t nop = B.getD t nop) : A = B := by
  refine List.ext_getElem hl fun i h1 h2 => ?_
  have := h i h1
  rwa [List.getD_eq_getElem?_getD, List.getD_eq_getElem?_getD, List.getElem?_eq_getElem h1, List.getElem?_eq_getElem h2] at this
theorem like_no {X Y : En} (h : ¬ (Y.seq = X.seq ∧ Y.deps = X.deps)) : likeB X Y = false := decide_eq_false h
theorem like_yes {X Y : En} (h : Y.seq = X.seq ∧ Y.deps = X.deps) : likeB X Y = true := decide_eq_true h
set_option maxRecDepth 100000 in
set_option maxHeartbeats 4000000 in
theorem sali_any (X Y : En) (u v : Value) (w : World) (hu : Ids w u X.deps) (hv : Ids w v Y.deps) :
    Calls Tryz.prog 79 #[env X u, env Y v] w fun e w' => e = .returned (.bool (likeB X Y)) ∧ Below w.heap.size w w' := by
  obtain ⟨ua, uc, rfl, _, hun, hu⟩ := hu
  obtain ⟨va, vc, rfl, _, hvn, hv⟩ := hv
  obtain ⟨n, hn⟩ : ∃ n, Hid (X.deps.length = n) := ⟨_, Lib.hid rfl⟩
  obtain ⟨m, hm⟩ : ∃ n, Hid (Y.deps.length = n) := ⟨_, Lib.hid rfl⟩
  rw [hn.out] at hun ⊢
  rw [hm.out] at hvn ⊢
  replace hu := Lib.hid hu
  replace hv := Lib.hid hv
  unfold env
  have A := Lib.hid ((Below.heap_alloc _ (.cells #[.int .i64 Y.id.1, .int .i64 Y.id.2, .int .i64 Y.bal, .int .i64 Y.st, .int .i64 Y.k, .int .i64 Y.key, .int .i64 Y.v, .int .i64 Y.seq, .slice va m vc] 30) _ (by simp)).trans (heap_alloc_new w (.cells #[.int .i64 X.id.1, .int .i64 X.id.2, .int .i64 X.bal, .int .i64 X.st, .int .i64 X.k, .int .i64 X.key, .int .i64 X.v, .int .i64 X.seq, .slice ua n uc] 30)))
  have R := Lib.hid (heap_alloc_at (w.alloc (.cells #[.int .i64 X.id.1, .int .i64 X.id.2, .int .i64 X.bal, .int .i64 X.st, .int .i64 X.k, .int .i64 X.key, .int .i64 X.v, .int .i64 X.seq, .slice ua n uc] 30)) (.cells #[.int .i64 Y.id.1, .int .i64 Y.id.2, .int .i64 Y.bal, .int .i64 Y.st, .int .i64 Y.k, .int .i64 Y.key, .int .i64 Y.v, .int .i64 Y.seq, .slice va m vc] 30) (w.heap.size + 1) (by simp))
  have D := Lib.hid (((Below.refl w.heap.size w).alloc (Nat.le_refl _) (.cells #[.int .i64 X.id.1, .int .i64 X.id.2, .int .i64 X.bal, .int .i64 X.st, .int .i64 X.k, .int .i64 X.key, .int .i64 X.v, .int .i64 X.seq, .slice ua n uc] 30)).alloc (by simp) (.cells #[.int .i64 Y.id.1, .int .i64 Y.id.2, .int .i64 Y.bal, .int .i64 Y.st, .int .i64 Y.k, .int .i64 Y.key, .int .i64 Y.v, .int .i64 Y.seq, .slice va m vc] 30))
  go_enter Tryz.func79, Tryz.ntmps79
  go_upto_region 1 with fail
  generalize (w.alloc (.cells #[.int .i64 X.id.1, .int .i64 X.id.2, .int .i64 X.bal, .int .i64 X.st, .int .i64 X.k, .int .i64 X.key, .int .i64 X.v, .int .i64 X.seq, .slice ua n uc] 30)).alloc (.cells #[.int .i64 Y.id.1, .int .i64 Y.id.2, .int .i64 Y.bal, .int .i64 Y.st, .int .i64 Y.k, .int .i64 Y.key, .int .i64 Y.v, .int .i64 Y.seq, .slice va m vc] 30) = w1 at A R D ⊢
  obtain ⟨⟨y0, y1, y2, y3, y4, y5, y6, y7, y8⟩, _, yl⟩ := nine_all A.out
  obtain ⟨⟨z0, z1, z2, z3, z4, z5, z6, z7, z8⟩, _, zl⟩ := nine_all R.out
  by_cases hs : X.seq = Y.seq
  · by_cases hl : n = m
    · subst hl
      replace hs := Lib.hid hs
      have hss : Hid (∀ b : Bool, X.deps = Y.deps → likeB X Y = true) := Lib.hid (fun _ e => like_yes ⟨hs.out.symm, e.symm⟩)
      have hse := hs.out
      go_upto_region 3 with fail
      clear y0 y1 y2 y3 y4 y5 y6 y7 y8 z0 z1 z2 z3 z4 z5 z6 z7 z8 yl zl hse
      go_wp2_with fail
      go_loopw [5] (fun i wr => ∃ k : Nat, k ≤ n ∧ i = .int .i64 k ∧ Hid (∀ t, t < k → X.deps.getD t nop = Y.deps.getD t nop) ∧ Hid (Below w1.heap.size w1 wr)) (fun i _ => n - (intOf i).toNat)
      case atStart => exact ⟨0, Nat.zero_le _, rfl, Lib.hid (fun t ht => absurd ht (Nat.not_lt_zero _)), Lib.hid (Below.refl _ _)⟩
      case round =>
        obtain ⟨k, hk, rfl, hS, hnx⟩ := hrel
        have A2 := bblk hnx.out (lt_of_heap A.out) A.out
        have R2 := bblk hnx.out (lt_of_heap R.out) R.out
        obtain ⟨⟨y0, y1, y2, y3, y4, y5, y6, y7, y8⟩, _, yl⟩ := nine_all A2
        obtain ⟨⟨z0, z1, z2, z3, z4, z5, z6, z7, z8⟩, _, zl⟩ := nine_all R2
        clear A2 R2
        by_cases hlt : k < n
        · obtain ⟨b, off, hb0, hb1, hb2⟩ := hu.out.resolve_left (by have := hn.out; omega)
          obtain ⟨c, off', hc0, hc1, hc2⟩ := hv.out.resolve_left (by have := hm.out; omega)
          subst hb0
          subst hc0
          obtain ⟨h0, h1⟩ := hb2 k (by rw [hn.out]; exact hlt)
          obtain ⟨g0, g1⟩ := hc2 k (by rw [hm.out]; exact hlt)
          have DD := bstep D.out hnx.out
          have q0 := (DD.cell (p := ⟨b, off + k * 2, none⟩) hb1).trans h0
          have q1 := (DD.cell (p := ⟨b, off + k * 2 + 1, none⟩) hb1).trans h1
          have r0 := (DD.cell (p := ⟨c, off' + k * 2, none⟩) hc1).trans g0
          have r1 := (DD.cell (p := ⟨c, off' + k * 2 + 1, none⟩) hc1).trans g1
          obtain ⟨x, hx⟩ : ∃ x, Hid (X.deps.getD k nop = x) := ⟨_, Lib.hid rfl⟩
          obtain ⟨y, hy⟩ : ∃ x, Hid (Y.deps.getD k nop = x) := ⟨_, Lib.hid rfl⟩
          rw [hx.out] at q0 q1
          rw [hy.out] at r0 r1
          clear h0 h1 g0 g1 hb2 hc2 DD hss
          obtain ⟨x1, x2⟩ := x
          obtain ⟨x3, x4⟩ := y
          dsimp only at q0 q1 r0 r1
          by_cases e1 : x1 = x3
          · subst e1
            by_cases e2 : x2 = x4
            · subst e2
              go_wp2_with fail
              go_quiet (fail)
              go_wp2_with fail
              go_roundw
              case rel =>
                refine ⟨k + 1, by omega, by go_num, Lib.hid (fun t ht => ?_), Lib.hid (bdrewN hnx.out _)⟩
                rcases Nat.lt_or_eq_of_le (Nat.le_of_lt_succ ht) with h1 | h1
                · exact hS.out t h1
                · rw [h1, hx.out, hy.out]
              case measure => simp [intOf]; omega
            · have hR := Lib.hid (like_no (X := X) (Y := Y) (fun g => e2 (by have := hx.out; rw [← g.2, hy.out] at this; injection this with _ h; exact h.symm)))
              go_wp2_with fail
              go_quiet (fail)
              go_wp2_with fail
              go_ret
              exact ⟨by rw [hR.out]; rfl, bstep D.out (bdrewN hnx.out _)⟩
          · have hR := Lib.hid (like_no (X := X) (Y := Y) (fun g => e1 (by have := hx.out; rw [← g.2, hy.out] at this; injection this with h _; exact h.symm)))
            go_wp2_with fail
            go_quiet (fail)
            go_wp2_with fail
            go_ret
            exact ⟨by rw [hR.out]; rfl, bstep D.out (bdrewN hnx.out _)⟩
        · obtain rfl : k = n := by omega
          have hR := Lib.hid (hss.out true (ids_ext (by rw [hn.out, hm.out]) (fun t ht => hS.out t (by rw [← hn.out]; exact ht))))
          clear hss hu hv
          go_wp2_with fail
          go_ret
          exact ⟨by rw [hR.out]; rfl, bstep D.out hnx.out⟩
    · have hR := Lib.hid (like_no (X := X) (Y := Y) (fun g => hl (by rw [← hn.out, ← hm.out, g.2])))
      replace hs := hs
      go_wp2_with fail
      go_ret
      exact ⟨by rw [hR.out]; rfl, D.out⟩
  · have hR := Lib.hid (like_no (X := X) (Y := Y) (fun g => hs g.1.symm))
    go_wp2_with fail
    go_ret
    exact ⟨by rw [hR.out]; rfl, D.out⟩
end Go.Proofs.YtiolhjjkjmepcaaGreatDoor

/- The model's l14Same. -/
namespace Go.Proofs.YtiolhjjkjmepcaaGreatDoor
open Go.RowKit
set_option linter.unusedVariables false

set_option maxRecDepth 100000 in
set_option maxHeartbeats 4000000 in
theorem ssame14_any (X Y : En) (u v : Value) (w : World) (hu : Ids w u X.deps) (hv : Ids w v Y.deps) :
    Calls Tryz.prog 47 #[env X u, env Y v] w fun e w' => e = .returned (.bool (sameB X Y)) ∧ Below w.heap.size w w' := by
  obtain ⟨ua, un, uc, rfl⟩ : ∃ ua un uc, u = .slice ua un uc := by obtain ⟨a, c, e, _⟩ := hu; exact ⟨a, _, c, e⟩
  obtain ⟨va, vn, vc, rfl⟩ : ∃ ua un uc, v = .slice ua un uc := by obtain ⟨a, c, e, _⟩ := hv; exact ⟨a, _, c, e⟩
  have eq := fun W (hb : Below w.heap.size w W) => sali_any X Y (.slice ua un uc) (.slice va vn vc) W (hu.up hb (Nat.le_refl _)) (hv.up hb (Nat.le_refl _))
  obtain ⟨q, hq⟩ : ∃ q, Hid (likeB X Y = q) := ⟨_, Lib.hid rfl⟩
  simp only [hq.out] at eq
  clear hu hv
  obtain ⟨⟨x1, x2⟩, xb, xt, xk, xy, xv, xs, XD⟩ := X
  obtain ⟨⟨z1, z2⟩, zb, zt, zk, zy, zv, zs, YD⟩ := Y
  unfold env at eq
  unfold env
  dsimp only at eq ⊢
  have A := Lib.hid ((Below.heap_alloc _ (.cells #[.int .i64 z1, .int .i64 z2, .int .i64 zb, .int .i64 zt, .int .i64 zk, .int .i64 zy, .int .i64 zv, .int .i64 zs, .slice va vn vc] 30) _ (by simp)).trans (heap_alloc_new w (.cells #[.int .i64 x1, .int .i64 x2, .int .i64 xb, .int .i64 xt, .int .i64 xk, .int .i64 xy, .int .i64 xv, .int .i64 xs, .slice ua un uc] 30)))
  have R := Lib.hid (heap_alloc_at (w.alloc (.cells #[.int .i64 x1, .int .i64 x2, .int .i64 xb, .int .i64 xt, .int .i64 xk, .int .i64 xy, .int .i64 xv, .int .i64 xs, .slice ua un uc] 30)) (.cells #[.int .i64 z1, .int .i64 z2, .int .i64 zb, .int .i64 zt, .int .i64 zk, .int .i64 zy, .int .i64 zv, .int .i64 zs, .slice va vn vc] 30) (w.heap.size + 1) (by simp))
  have D := Lib.hid (((Below.refl w.heap.size w).alloc (Nat.le_refl _) (.cells #[.int .i64 x1, .int .i64 x2, .int .i64 xb, .int .i64 xt, .int .i64 xk, .int .i64 xy, .int .i64 xv, .int .i64 xs, .slice ua un uc] 30)).alloc (by simp) (.cells #[.int .i64 z1, .int .i64 z2, .int .i64 zb, .int .i64 zt, .int .i64 zk, .int .i64 zy, .int .i64 zv, .int .i64 zs, .slice va vn vc] 30))
  go_enter Tryz.func47, Tryz.ntmps47
  go_upto_region 1 with fail
  generalize (w.alloc (.cells #[.int .i64 x1, .int .i64 x2, .int .i64 xb, .int .i64 xt, .int .i64 xk, .int .i64 xy, .int .i64 xv, .int .i64 xs, .slice ua un uc] 30)).alloc (.cells #[.int .i64 z1, .int .i64 z2, .int .i64 zb, .int .i64 zt, .int .i64 zk, .int .i64 zy, .int .i64 zv, .int .i64 zs, .slice va vn vc] 30) = w1 at A R D ⊢
  obtain ⟨⟨c0, c1, c2, c3, c4, c5, c6, c7, c8⟩, _, cl⟩ := nine_all A.out
  obtain ⟨⟨d0, d1, d2, d3, d4, d5, d6, d7, d8⟩, _, dl⟩ := nine_all R.out
  by_cases ek : xk = zk
  · subst ek
    by_cases ey : xy = zy
    · subst ey
      by_cases ev : xv = zv
      · subst ev
        have hs : Hid (sameB ⟨(x1, x2), xb, xt, xk, xy, xv, xs, XD⟩ ⟨(z1, z2), zb, zt, xk, xy, xv, zs, YD⟩ = q) := Lib.hid (by rw [← hq.out]; unfold sameB likeB; simp [eq_comm])
        go_wp2_with fail
        refine (eq _ D.out).mono ?_
        rintro e w2 ⟨rfl, B⟩
        replace D := Lib.hid (bstep D.out B)
        clear B
        go_wp2_with fail
        go_ret
        exact ⟨by rw [hs.out]; rfl, D.out⟩
      · have hR : Hid (sameB ⟨(x1, x2), xb, xt, xk, xy, xv, xs, XD⟩ ⟨(z1, z2), zb, zt, xk, xy, zv, zs, YD⟩ = false) := Lib.hid (decide_eq_false (fun g => ev g.2.2.1))
        go_wp2_with fail
        go_ret
        exact ⟨by rw [hR.out]; rfl, D.out⟩
    · have hR : Hid (sameB ⟨(x1, x2), xb, xt, xk, xy, xv, xs, XD⟩ ⟨(z1, z2), zb, zt, xk, zy, zv, zs, YD⟩ = false) := Lib.hid (decide_eq_false (fun g => ey g.2.1))
      go_wp2_with fail
      go_ret
      exact ⟨by rw [hR.out]; rfl, D.out⟩
  · have hR : Hid (sameB ⟨(x1, x2), xb, xt, xk, xy, xv, xs, XD⟩ ⟨(z1, z2), zb, zt, zk, zy, zv, zs, YD⟩ = false) := Lib.hid (decide_eq_false (fun g => ek g.1))
    go_wp2_with fail
    go_ret
    exact ⟨by rw [hR.out]; rfl, D.out⟩
end Go.Proofs.YtiolhjjkjmepcaaGreatDoor
