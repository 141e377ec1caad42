/- Texts laid together. -/
import Derived.Test.YtbklkhndjckckaaC05
import Derived.Test.YtbklkhndjckckaaC04
import Derived.Test.YtbklkhndjckckaaC03
import Derived.Deep.RegionHeld3
import Derived.Test.YtbklkhndjckckaaC06
/- The program's has. -/
namespace Go.Proofs.Ytbklkhndjckckaa
open Go.RowKit
set_option linter.unusedVariables false

theorem cast_div (m n : Nat) : (m : Int) / 2 ^ n = ((m / 2 ^ n : Nat) : Int) := by rw [Int.natCast_ediv, Int.natCast_pow]; rfl
theorem bit_and (m n : Nat) (h : m < 2251799813685248) : bits .and .u64 ((m : Int) / 2 ^ n) 1 = (((m / 2 ^ n) % 2 : Nat) : Int) := by
  have e := cast_div m n
  have hd : m / 2 ^ n ≤ m := Nat.div_le_self _ _
  have := bits_and_u64_nat (m / 2 ^ n) 1 (by omega) (by omega)
  rw [e]
  rw [Nat.and_one_is_mod] at this
  exact this

set_option maxRecDepth 100000 in
set_option maxHeartbeats 2000000 in
theorem has_any (f : Nat → Nat) (P : Pid → Prop) (x y : Int) (w : World) (hb : Bits f P) :
    Calls Try.prog 62 #[setV f, .agg #[.int .i64 x, .int .i64 y]] w fun e w' => (∃ q, e = .returned (.bool q) ∧ (q = true ↔ P (x, y))) ∧ Below w.heap.size w w' := by
  have iv := fun w => ivid_any x y w
  have D := ((Below.refl w.heap.size w).alloc (Nat.le_refl _) (.cells #[.int .u64 (f 0), .int .u64 (f 1), .int .u64 (f 2), .int .u64 (f 3), .int .u64 (f 4)] 56)).alloc (by simp) (.cells #[.int .i64 x, .int .i64 y] 31)
  unfold setV
  by_cases hok : idB x y = true
  · obtain ⟨pr, nr, he, hpr, hnr⟩ := ok_nat (a := (x, y)) hok
    obtain ⟨rfl, rfl⟩ := Prod.mk.inj he
    rw [hok] at iv
    have hS : Set5 (w.alloc (.cells #[.int .u64 (f 0), .int .u64 (f 1), .int .u64 (f 2), .int .u64 (f 3), .int .u64 (f 4)] 56)) w.heap.size f := heap_alloc_new w _
    have hS : Set5 ((w.alloc (.cells #[.int .u64 (f 0), .int .u64 (f 1), .int .u64 (f 2), .int .u64 (f 3), .int .u64 (f 4)] 56)).alloc (.cells #[.int .i64 pr, .int .i64 nr] 31)) w.heap.size f := (Below.heap_alloc _ _ _ (by simp)).trans hS
    have c0 := hS.cell hpr
    have hI := heap_alloc_at (w.alloc (.cells #[.int .u64 (f 0), .int .u64 (f 1), .int .u64 (f 2), .int .u64 (f 3), .int .u64 (f 4)] 56)) (.cells #[.int .i64 (pr : Int), .int .i64 (nr : Int)] 31) (w.heap.size + 1) (by simp)
    obtain ⟨b0, b1, _, _⟩ := blk2 hI
    have hm : f pr < 2251799813685248 := hb.lt hpr
    have ba := bit_and (f pr) nr hm
    have hbit : Hid ((f pr).testBit nr = true ↔ P ((pr : Int), (nr : Int))) := Lib.hid (hb.bit pr nr hpr)
    have i5 : (pr : Int) < 5 := by omega
    have n64 : (nr : Int) ≤ 64 := by omega
    have nn : (nr : Int).toNat = nr := by omega
    clear hok he hb hS hI
    go_enter Try.func62, Try.ntmps62
    go_upto_region 1 with fail
    obtain ⟨W, hW⟩ : ∃ W, (w.alloc (.cells #[.int .u64 (f 0), .int .u64 (f 1), .int .u64 (f 2), .int .u64 (f 3), .int .u64 (f 4)] 56)).alloc (.cells #[.int .i64 (pr : Int), .int .i64 (nr : Int)] 31) = W := ⟨_, rfl⟩
    rw [hW] at c0 b0 b1 D ⊢
    have D := Lib.hid D
    clear hW
    refine wp_region_held_drew (S := fun w' => w'.cell? ⟨w.heap.size + 1, 0, none⟩ = some (.int .i64 pr) ∧ w'.cell? ⟨w.heap.size + 1, 1, none⟩ = some (.int .i64 nr) ∧ w'.cell? ⟨w.heap.size, pr, none⟩ = some (.int .u64 (f pr)) ∧ Below W.heap.size W w') (by kernel_rfl) ⟨b0, b1, c0, Below.drew (Below.refl _ _)⟩ (fun hHeld => ?_)
    refine wpAnyH_take (i := 0) (oi := ⟨some 5, _, _, _, _, _⟩) (v := ?_) rfl (by kernel_rfl) (by kernel_rfl) (by kernel_rfl) (fun _ _ _ h => h) (Or.inl ⟨by rfl, ?_⟩) (by assumption) ?_
    rotate_left 1
    · intro w hSw; (try dsimp only at hSw); go_simp; try (with_reducible rfl)
    try simp only [Act.put, List.setIfInBounds_toArray, List.set_cons_zero, List.set_cons_succ]
    refine wpAnyH_ready (rs := [1]) (by kernel_rfl) (by simp) ?_
    refine AllReadyH.cons (o := ⟨some 6, _, _, _, _, _⟩) rfl (fun K hK => ?_) AllReadyH.nil
    go_simp
    refine (iv _).mono ?_
    rintro e w1 ⟨rfl, hb⟩
    go_wp2_with fail
    refine hK.out _ _ ?_ (fun hHeld2 => ?_)
    · exact ⟨cell_later hb hHeld.1, cell_later hb hHeld.2.1, cell_later hb hHeld.2.2.1, hHeld.2.2.2.trans (hb.mono hHeld.2.2.2.size)⟩
    clear hK K hHeld hb
    have hHeld := hHeld2
    clear hHeld2
    try simp only [Act.put, List.setIfInBounds_toArray, List.set_cons_zero, List.set_cons_succ]
    refine wpAnyH_take (i := 2) (oi := ⟨some 7, _, _, _, _, _⟩) (v := ?_) rfl (by kernel_rfl) (by kernel_rfl) (by kernel_rfl) (fun _ _ _ h => h) (Or.inl ⟨by rfl, ?_⟩) (by assumption) ?_
    rotate_left 1
    · intro w hSw; (try dsimp only at hSw); go_simp; try (with_reducible rfl)
    try simp only [Act.put, List.setIfInBounds_toArray, List.set_cons_zero, List.set_cons_succ]
    refine wpAnyH_take (i := 3) (oi := ⟨some 8, _, _, _, _, _⟩) (v := ?_) rfl (by kernel_rfl) (by kernel_rfl) (by kernel_rfl) (fun _ _ _ h => h) (Or.inl ⟨by rfl, ?_⟩) (by assumption) ?_
    rotate_left 1
    · intro w hSw; (try dsimp only at hSw); go_simp; try (with_reducible rfl)
    try simp only [Act.put, List.setIfInBounds_toArray, List.set_cons_zero, List.set_cons_succ]
    refine wpAnyH_take (i := 4) (oi := ⟨some 9, _, _, _, _, _⟩) (v := ?_) rfl (by kernel_rfl) (by kernel_rfl) (by kernel_rfl) (fun _ _ _ h => h) (Or.inl ⟨by rfl, ?_⟩) (by assumption) ?_
    rotate_left 1
    · intro w hSw; (try dsimp only at hSw); go_simp; try (with_reducible rfl)
    try simp only [Act.put, List.setIfInBounds_toArray, List.set_cons_zero, List.set_cons_succ]
    refine wpAnyH_take (i := 5) (oi := ⟨some 10, _, _, _, _, _⟩) (v := ?_) rfl (by kernel_rfl) (by kernel_rfl) (by kernel_rfl) (fun _ _ _ h => h) (Or.inl ⟨by rfl, ?_⟩) (by assumption) ?_
    rotate_left 1
    · intro w hSw; (try dsimp only at hSw); go_simp; try (with_reducible rfl)
    try simp only [Act.put, List.setIfInBounds_toArray, List.set_cons_zero, List.set_cons_succ]
    refine wpAnyH_take (i := 6) (oi := ⟨some 11, _, _, _, _, _⟩) (v := ?_) rfl (by kernel_rfl) (by kernel_rfl) (by kernel_rfl) (fun _ _ _ h => h) (Or.inl ⟨by rfl, ?_⟩) (by assumption) ?_
    rotate_left 1
    · intro w hSw; (try dsimp only at hSw); go_simp; try (with_reducible rfl)
    try simp only [Act.put, List.setIfInBounds_toArray, List.set_cons_zero, List.set_cons_succ]
    refine wpAnyH_take (i := 7) (oi := ⟨some 12, _, _, _, _, _⟩) (v := ?_) rfl (by kernel_rfl) (by kernel_rfl) (by kernel_rfl) (fun _ _ _ h => h) (Or.inl ⟨by rfl, ?_⟩) (by assumption) ?_
    rotate_left 1
    · intro w hSw; (try dsimp only at hSw); go_simp; try (with_reducible rfl)
    try simp only [Act.put, List.setIfInBounds_toArray, List.set_cons_zero, List.set_cons_succ]
    refine wpAnyH_take (i := 8) (oi := ⟨some 13, _, _, _, _, _⟩) (v := ?_) rfl (by kernel_rfl) (by kernel_rfl) (by kernel_rfl) (fun _ _ _ h => h) (Or.inl ⟨by rfl, ?_⟩) (by assumption) ?_
    rotate_left 1
    · intro w hSw; (try dsimp only at hSw); go_simp; try (with_reducible rfl)
    try simp only [Act.put, List.setIfInBounds_toArray, List.set_cons_zero, List.set_cons_succ]
    refine wpAnyH_take (i := 9) (oi := ⟨some 14, _, _, _, _, _⟩) (v := ?_) rfl (by kernel_rfl) (by kernel_rfl) (by kernel_rfl) (fun _ _ _ h => h) (Or.inl ⟨by rfl, ?_⟩) (by assumption) ?_
    rotate_left 1
    · intro w hSw; (try dsimp only at hSw); go_simp; try (with_reducible rfl)
    try simp only [Act.put, List.setIfInBounds_toArray, List.set_cons_zero, List.set_cons_succ]
    refine wpAnyH_take (i := 10) (oi := ⟨some 15, _, _, _, _, _⟩) (v := ?_) rfl (by kernel_rfl) (by kernel_rfl) (by kernel_rfl) (fun _ _ _ h => h) (Or.inl ⟨by rfl, ?_⟩) (by assumption) ?_
    rotate_left 1
    · intro w hSw; (try dsimp only at hSw); go_simp; try (with_reducible rfl)
    try simp only [Act.put, List.setIfInBounds_toArray, List.set_cons_zero, List.set_cons_succ]
    refine wpAnyH_take (i := 11) (oi := ⟨some 16, _, _, _, _, _⟩) (v := ?_) rfl (by kernel_rfl) (by kernel_rfl) (by kernel_rfl) (fun _ _ _ h => h) (Or.inl ⟨by rfl, ?_⟩) (by assumption) ?_
    rotate_left 1
    · intro w hSw; (try dsimp only at hSw); go_simp; try (with_reducible rfl)
    try simp only [Act.put, List.setIfInBounds_toArray, List.set_cons_zero, List.set_cons_succ]
    refine wpAnyH_take (i := 12) (oi := ⟨some 17, _, _, _, _, _⟩) (v := ?_) rfl (by kernel_rfl) (by kernel_rfl) (by kernel_rfl) (fun _ _ _ h => h) (Or.inl ⟨by rfl, ?_⟩) (by assumption) ?_
    rotate_left 1
    · intro w hSw; (try dsimp only at hSw); go_simp; try (with_reducible rfl)
    try simp only [Act.put, List.setIfInBounds_toArray, List.set_cons_zero, List.set_cons_succ]
    refine wpAnyH_take (i := 13) (oi := ⟨some 4, _, _, _, _, _⟩) (v := ?_) rfl (by kernel_rfl) (by kernel_rfl) (by kernel_rfl) (fun _ _ _ h => h) (Or.inl ⟨by rfl, ?_⟩) (by assumption) ?_
    rotate_left 1
    · intro w hSw; (try dsimp only at hSw); go_simp; try (with_reducible rfl)
    try simp only [Act.put, List.setIfInBounds_toArray, List.set_cons_zero, List.set_cons_succ]
    refine wpAnyH_done (by kernel_rfl) ?_ _
    try simp only [Act.put, List.setIfInBounds_toArray, List.set_cons_zero, List.set_cons_succ]
    have D1 := Lib.hid (bstep D.out hHeld.2.2.2)
    clear hHeld D
    go_wp2_with fail
    go_ret
    refine ⟨⟨_, rfl, ?_⟩, D1.out⟩
    rw [← hbit.out, Nat.testBit_eq_decide_div_mod_eq]
    simp only [decide_eq_true_eq]
    obtain ⟨z, hz⟩ : ∃ z : Nat, f pr / 2 ^ nr = z := ⟨_, rfl⟩
    have e : ((f pr : Nat) : Int) / 2 ^ nr = (z : Int) := by rw [← hz]; exact cast_div _ _
    rw [e, hz]
    clear e hz ba
    rw [beq_iff_eq]
    omega
  · have hn : ¬ P (x, y) := fun hp => hok (hb.ok _ hp)
    rw [show idB x y = false by simpa using hok] at iv
    have hI := heap_alloc_at (w.alloc (.cells #[.int .u64 (f 0), .int .u64 (f 1), .int .u64 (f 2), .int .u64 (f 3), .int .u64 (f 4)] 56)) (.cells #[.int .i64 x, .int .i64 y] 31) (w.heap.size + 1) (by simp)
    obtain ⟨b0, b1, _, _⟩ := blk2 hI
    clear hb hok hI
    go_enter Try.func62, Try.ntmps62
    go_upto_region 1 with fail
    obtain ⟨W, hW⟩ : ∃ W, (w.alloc (.cells #[.int .u64 (f 0), .int .u64 (f 1), .int .u64 (f 2), .int .u64 (f 3), .int .u64 (f 4)] 56)).alloc (.cells #[.int .i64 x, .int .i64 y] 31) = W := ⟨_, rfl⟩
    rw [hW] at b0 b1 D ⊢
    have D := Lib.hid D
    clear hW
    refine wp_region_held_drew (S := fun w' => w'.cell? ⟨w.heap.size + 1, 0, none⟩ = some (.int .i64 x) ∧ w'.cell? ⟨w.heap.size + 1, 1, none⟩ = some (.int .i64 y) ∧ Below W.heap.size W w') (by kernel_rfl) ⟨b0, b1, Below.drew (Below.refl _ _)⟩ (fun hHeld => ?_)
    refine wpAnyH_take (i := 0) (oi := ⟨some 5, _, _, _, _, _⟩) (v := ?_) rfl (by kernel_rfl) (by kernel_rfl) (by kernel_rfl) (fun _ _ _ h => h) (Or.inl ⟨by rfl, ?_⟩) (by assumption) ?_
    rotate_left 1
    · intro w hSw; (try dsimp only at hSw); go_simp; try (with_reducible rfl)
    try simp only [Act.put, List.setIfInBounds_toArray, List.set_cons_zero, List.set_cons_succ]
    refine wpAnyH_ready (rs := [1]) (by kernel_rfl) (by simp) ?_
    refine AllReadyH.cons (o := ⟨some 6, _, _, _, _, _⟩) rfl (fun K hK => ?_) AllReadyH.nil
    go_simp
    refine (iv _).mono ?_
    rintro e w1 ⟨rfl, hb⟩
    go_wp2_with fail
    refine hK.out _ _ ?_ (fun hHeld2 => ?_)
    · exact ⟨cell_later hb hHeld.1, cell_later hb hHeld.2.1, hHeld.2.2.trans (hb.mono hHeld.2.2.size)⟩
    clear hK K hHeld hb
    have hHeld := hHeld2
    clear hHeld2
    try simp only [Act.put, List.setIfInBounds_toArray, List.set_cons_zero, List.set_cons_succ]
    refine wpAnyH_take (i := 2) (oi := ⟨some 7, _, _, _, _, _⟩) (v := ?_) rfl (by kernel_rfl) (by kernel_rfl) (by kernel_rfl) (fun _ _ _ h => h) (Or.inl ⟨by rfl, ?_⟩) (by assumption) ?_
    rotate_left 1
    · intro w hSw; (try dsimp only at hSw); go_simp; try (with_reducible rfl)
    try simp only [Act.put, List.setIfInBounds_toArray, List.set_cons_zero, List.set_cons_succ]
    refine wpAnyH_take (i := 3) (oi := ⟨some 8, _, _, _, _, _⟩) (v := undef) rfl (by kernel_rfl) (by kernel_rfl) (by kernel_rfl) (fun _ _ _ h => h) (Or.inr ⟨by rfl, rfl⟩) (by assumption) ?_
    try simp only [Act.put, List.setIfInBounds_toArray, List.set_cons_zero, List.set_cons_succ]
    refine wpAnyH_take (i := 4) (oi := ⟨some 9, _, _, _, _, _⟩) (v := undef) rfl (by kernel_rfl) (by kernel_rfl) (by kernel_rfl) (fun _ _ _ h => h) (Or.inr ⟨by rfl, rfl⟩) (by assumption) ?_
    try simp only [Act.put, List.setIfInBounds_toArray, List.set_cons_zero, List.set_cons_succ]
    refine wpAnyH_take (i := 5) (oi := ⟨some 10, _, _, _, _, _⟩) (v := undef) rfl (by kernel_rfl) (by kernel_rfl) (by kernel_rfl) (fun _ _ _ h => h) (Or.inr ⟨by rfl, rfl⟩) (by assumption) ?_
    try simp only [Act.put, List.setIfInBounds_toArray, List.set_cons_zero, List.set_cons_succ]
    refine wpAnyH_take (i := 6) (oi := ⟨some 11, _, _, _, _, _⟩) (v := undef) rfl (by kernel_rfl) (by kernel_rfl) (by kernel_rfl) (fun _ _ _ h => h) (Or.inr ⟨by rfl, rfl⟩) (by assumption) ?_
    try simp only [Act.put, List.setIfInBounds_toArray, List.set_cons_zero, List.set_cons_succ]
    refine wpAnyH_take (i := 7) (oi := ⟨some 12, _, _, _, _, _⟩) (v := undef) rfl (by kernel_rfl) (by kernel_rfl) (by kernel_rfl) (fun _ _ _ h => h) (Or.inr ⟨by rfl, rfl⟩) (by assumption) ?_
    try simp only [Act.put, List.setIfInBounds_toArray, List.set_cons_zero, List.set_cons_succ]
    refine wpAnyH_take (i := 8) (oi := ⟨some 13, _, _, _, _, _⟩) (v := undef) rfl (by kernel_rfl) (by kernel_rfl) (by kernel_rfl) (fun _ _ _ h => h) (Or.inr ⟨by rfl, rfl⟩) (by assumption) ?_
    try simp only [Act.put, List.setIfInBounds_toArray, List.set_cons_zero, List.set_cons_succ]
    refine wpAnyH_take (i := 9) (oi := ⟨some 14, _, _, _, _, _⟩) (v := undef) rfl (by kernel_rfl) (by kernel_rfl) (by kernel_rfl) (fun _ _ _ h => h) (Or.inr ⟨by rfl, rfl⟩) (by assumption) ?_
    try simp only [Act.put, List.setIfInBounds_toArray, List.set_cons_zero, List.set_cons_succ]
    refine wpAnyH_take (i := 10) (oi := ⟨some 15, _, _, _, _, _⟩) (v := undef) rfl (by kernel_rfl) (by kernel_rfl) (by kernel_rfl) (fun _ _ _ h => h) (Or.inr ⟨by rfl, rfl⟩) (by assumption) ?_
    try simp only [Act.put, List.setIfInBounds_toArray, List.set_cons_zero, List.set_cons_succ]
    refine wpAnyH_take (i := 11) (oi := ⟨some 16, _, _, _, _, _⟩) (v := undef) rfl (by kernel_rfl) (by kernel_rfl) (by kernel_rfl) (fun _ _ _ h => h) (Or.inr ⟨by rfl, rfl⟩) (by assumption) ?_
    try simp only [Act.put, List.setIfInBounds_toArray, List.set_cons_zero, List.set_cons_succ]
    refine wpAnyH_take (i := 12) (oi := ⟨some 17, _, _, _, _, _⟩) (v := ?_) rfl (by kernel_rfl) (by kernel_rfl) (by kernel_rfl) (fun _ _ _ h => h) (Or.inl ⟨by rfl, ?_⟩) (by assumption) ?_
    rotate_left 1
    · intro w hSw; (try dsimp only at hSw); go_simp; try (with_reducible rfl)
    try simp only [Act.put, List.setIfInBounds_toArray, List.set_cons_zero, List.set_cons_succ]
    refine wpAnyH_take (i := 13) (oi := ⟨some 4, _, _, _, _, _⟩) (v := ?_) rfl (by kernel_rfl) (by kernel_rfl) (by kernel_rfl) (fun _ _ _ h => h) (Or.inl ⟨by rfl, ?_⟩) (by assumption) ?_
    rotate_left 1
    · intro w hSw; (try dsimp only at hSw); go_simp; try (with_reducible rfl)
    try simp only [Act.put, List.setIfInBounds_toArray, List.set_cons_zero, List.set_cons_succ]
    refine wpAnyH_done (by kernel_rfl) ?_ _
    try simp only [Act.put, List.setIfInBounds_toArray, List.set_cons_zero, List.set_cons_succ]
    have D1 := Lib.hid (bstep D.out hHeld.2.2)
    clear hHeld D
    go_wp2_with fail
    go_ret
    exact ⟨⟨_, rfl, by simpa using hn⟩, D1.out⟩
end Go.Proofs.Ytbklkhndjckckaa

/- The program's groupWith. -/
namespace Go.Proofs.Ytbklkhndjckckaa
open Go.RowKit
set_option linter.unusedVariables false

/-- A group, as its bits: what is asked of one node. -/
structure Gw (w : World) (gb : Nat) (N : List Nd) (a : Pid) (f r : Nat → Nat) (rd : Bool) : Prop where
  gb : ∃ mv, Gb w gb mv f r rd
  ids : Bits f (fun x => x ∈ groupR N a)
  rch : Bits r (fun x => x ∈ reachR N a)
  rdy : rd = readyR N a

theorem gw_of {w : World} {gb : Nat} {N : List Nd} {i : Nat} {f r : Nat → Nat} {rd : Bool} {mv : Value} (hv : nodB N = true) (hi : i < N.length) {a : Pid} (ha : a ∈ idsN N) (hG : Gb w gb mv f r rd) {Q : List Nat} (hM : GM N i Q f r rd) (hm : Sc (EI N) (N.getD i nd0).id a) : Gw w gb N a f r rd := by
  obtain ⟨j, hj, rfl⟩ := mem_idsN.1 ha
  have h := hM.move ((sc_iff hv hi hj).2 hm) hv hi hj
  refine ⟨⟨mv, hG⟩, h.ids.ext fun x => ?_, h.rch.ext fun x => ?_, ?_⟩
  · rw [mem_groupR]; exact ⟨fun hh => ⟨hv, ha, hh⟩, fun hh => hh.2.2⟩
  · rw [mem_reachR]; exact ⟨fun hh => ⟨hv, hh⟩, fun hh => hh.2⟩
  · exact Bool.eq_iff_iff.2 ⟨fun hr => readyR_iff.2 ⟨hv, ha, h.rdy.1 hr⟩, fun hq => h.rdy.2 (readyR_iff.1 hq).2.2⟩
theorem bits_same {f f' : Nat → Nat} {P P' : Pid → Prop} (h : Bits f P) (h' : Bits f' P') (e : ∀ k, k < 5 → f k = f' k) {x : Pid} (hx : P x) : P' x := by
  obtain ⟨pr, nr, rfl, hpr, _⟩ := ok_nat (h.ok x hx)
  rw [← h'.bit pr nr hpr, ← e pr hpr, h.bit pr nr hpr]; exact hx
theorem gb_same {w : World} {gb : Nat} {mv mv' : Value} {f f' r r' : Nat → Nat} {rd rd' : Bool} (h : Gb w gb mv f r rd) (h' : Gb w gb mv' f' r' rd') : ∀ k, k < 5 → f k = f' k := by
  intro k hk
  have := (h.cf hk).symm.trans (h'.cf hk)
  simp only [Option.some.injEq, Value.int.injEq, true_and] at this
  exact Int.ofNat.inj this
theorem gw_none {w : World} {gb : Nat} {N : List Nd} {a : Pid} {mv : Value} (h : ¬ (nodB N = true ∧ a ∈ idsN N)) (hG : Gb w gb mv (fun _ => 0) (fun _ => 0) false) : Gw w gb N a (fun _ => 0) (fun _ => 0) false := by
  refine ⟨⟨mv, hG⟩, Bits.zero.ext fun x => ⟨fun hh => hh.elim, fun hh => h ⟨(mem_groupR.1 hh).1, (mem_groupR.1 hh).2.1⟩⟩, Bits.zero.ext fun x => ⟨fun hh => hh.elim, fun hh => h ⟨(mem_reachR.1 hh).1, rp_l (mem_reachR.1 hh).2⟩⟩, ?_⟩
  cases hq : readyR N a with
  | false => rfl
  | true => exact absurd ⟨(readyR_iff.1 hq).1, (readyR_iff.1 hq).2.1⟩ h

/-- What groupWith leaves. -/
def GwP (N : List Nd) (a : Pid) (w : World) (e : Ending) (w' : World) : Prop := ∃ gb f r rd, e = .returned (.pointer (some ⟨gb, 0, none⟩)) ∧ Gw w' gb N a f r rd ∧ Below w.heap.size w w'

set_option maxRecDepth 100000 in
set_option maxHeartbeats 4000000 in
theorem gwith_any (u : Value) (N : List Nd) (x y : Int) (w : World) (h : Nds w u N) :
    Calls Try.prog 44 #[u, .agg #[.int .i64 x, .int .i64 y]] w (GwP N (x, y) w) := by
  have D0 := (Below.refl w.heap.size w).alloc (Nat.le_refl _) (.cells #[.int .i64 x, .int .i64 y] 31)
  have gr := groups_any u N _ (h.up D0 (Nat.le_refl _))
  have hI := Lib.hid (heap_alloc_new w (.cells #[.int .i64 x, .int .i64 y] 31))
  have D0 := Lib.hid D0
  clear h
  go_enter Try.func44, Try.ntmps44
  go_wp2_with fail
  refine gr.mono ?_
  rintro e w1 ⟨gs, gv, U, rfl, hrow, hgl, B, hno, hyes⟩
  have D1 := Lib.hid (bstep D0.out B)
  have hI := Lib.hid (bblk (b := w.heap.size) B (by simp) hI.out)
  have hrow := Lib.hid hrow
  have hno := Lib.hid hno
  have hyes := Lib.hid hyes
  obtain ⟨ga, gc, rfl⟩ := row_shape hrow.out
  clear B gr D0
  go_wp2_with fail
  obtain ⟨n, hn⟩ : ∃ n, Hid (gs.length = n) := ⟨_, Lib.hid rfl⟩
  rw [hn.out] at hgl ⊢
  go_loopw [10] (fun i wr => ∃ k : Nat, k ≤ n ∧ i = .int .i64 k ∧ Hid (∀ j, j < k → ∀ i, i < N.length → Grp w1 (gs.getD j 0) N U i → ¬ Sc (EI N) (N.getD i nd0).id (x, y)) ∧ Below w1.heap.size w1 wr) (fun i _ => n - (intOf i).toNat)
  case atStart => exact ⟨0, Nat.zero_le _, rfl, Lib.hid fun j hj => absurd hj (Nat.not_lt_zero _), Below.refl _ _⟩
  case round =>
    obtain ⟨k, hk, rfl, hd, hB⟩ := hrel
    by_cases hlt : k < n
    · have hv : nodB N = true := by
        cases hq : nodB N with
        | true => rfl
        | false => have := hno.out hq; rw [this] at hn; have := hn.out; simp at this; omega
      have hkl : k < gs.length := by rw [hn.out]; exact hlt
      obtain ⟨g4, c4, hge⟩ := own_some hrow.out (by omega)
      have c0 : w1.cell? ⟨g4, k, none⟩ = some (pv (gs.getD k 0)) := by
        have := hrow.out.cells (g := g4) (by rw [hge]; rfl) k (pv (gs.getD k 0)) (by rw [List.getElem?_map, List.getD_eq_getElem?_getD, List.getElem?_eq_getElem hkl]; rfl)
        rw [Addr.add_lit, Nat.zero_add] at this; exact this
      injection hge with hge _ hge3
      subst hge
      subst hge3
      have hbm : gs.getD k 0 ∈ gs := getD_memN hkl
      obtain ⟨i, hi, hG⟩ := (hyes.out hv).2 _ hbm
      obtain ⟨mb, mc, Q, f, r, rd, hG⟩ := hG
      obtain ⟨b, hb⟩ : ∃ b, Hid (gs.getD k 0 = b) := ⟨_, Lib.hid rfl⟩
      rw [hb.out] at c0 hG
      unfold pv at c0
      have c0 := (hB.cell (p := ⟨g4, k, none⟩) (World.block_lt_of_cell? _ _ c0)).trans c0
      have hg4 := World.block_lt_of_cell? _ _ c0
      have hGw := Lib.hid (hG.gb.same (hB.block b hG.gb.lt))
      have hG := Lib.hid hG
      obtain ⟨z1, z2, z3, z4, z5⟩ := hGw.out.fs
      obtain ⟨b0, b1, _, _⟩ := blk2 ((hB.block w.heap.size (lt_of_heap hI.out)).trans hI.out)
      have hs := fun W => has_any f _ x y W hG.out.gm.ids
      unfold setV at hs
      have hgl := hGw.out.lt
      have hil : w.heap.size < wr.heap.size := Nat.lt_of_lt_of_le (lt_of_heap hI.out) hB.size
      have hB := Lib.hid hB
      dsimp only at hg4
      go_wp2_with fail
      go_region_with (go_at_call 62; (with_reducible refine (hs _).mono ?_); rintro e w2 ⟨⟨q, rfl, hq⟩, B⟩; have D2 := Lib.hid (bstep (Below.drew hB.out) B); have hGw := Lib.hid (hGw.out.same ((B.block b hgl).trans rfl)); have hq := Lib.hid hq; clear B hB)
      all_goals
        cases q with
        | true =>
          have hm := hq.out.1 rfl
          have hx : (x, y) ∈ idsN N := sc_in hm (List.mem_map_of_mem (getD_mem hi))
          have R := Lib.hid (gw_of hv hi hx hGw.out hG.out.gm hm)
          clear hm hx hGw
          go_wp2_with fail
          go_ret
          exact ⟨b, f, r, rd, rfl, R.out, bstep D1.out D2.out⟩
        | false =>
          have hm : ¬ Sc (EI N) (N.getD i nd0).id (x, y) := fun h => nomatch (hq.out.2 h)
          have R := Lib.hid (up_to hd.out (fun i' hi' hG' => by
            rw [hb.out] at hG'
            obtain ⟨mb', mc', Q', f', r', rd', hG'⟩ := hG'
            exact fun h => hm (bits_same hG'.gm.ids hG.out.gm.ids (gb_same hG'.gb hG.out.gb) h)))
          clear hGw hm
          go_wp2_with fail
          go_roundw
          case rel => exact ⟨k + 1, by omega, by go_num, R, D2.out⟩
          case measure => simp [intOf]; omega
    · obtain rfl : k = n := by omega
      have hB := Lib.hid hB
      go_wp2_with fail
      go_ret
      refine ⟨wr.heap.size, fun _ => 0, fun _ => 0, false, rfl, gw_none ?_ (mv := .slice none 0 0) ?_, bstep D1.out (hB.out.alloc hB.out.size _)⟩
      · rintro ⟨hv, hx⟩
        obtain ⟨i, hi, he⟩ := mem_idsN.1 hx
        obtain ⟨b, hb, hG⟩ := (hyes.out hv).1 i hi
        obtain ⟨j, hj, rfl⟩ := List.mem_iff_getElem.1 hb
        refine hd.out j (by rw [← hn.out]; exact hj) i hi ?_ (by rw [he]; exact .refl _)
        rw [List.getD_eq_getElem?_getD, List.getElem?_eq_getElem hj]; exact hG
      · exact ⟨_, heap_alloc_new wr _, rfl, rfl, fun k hk => by rcases (show k = 0 ∨ k = 1 ∨ k = 2 ∨ k = 3 ∨ k = 4 by omega) with rfl | rfl | rfl | rfl | rfl <;> rfl, fun k hk => by rcases (show k = 0 ∨ k = 1 ∨ k = 2 ∨ k = 3 ∨ k = 4 by omega) with rfl | rfl | rfl | rfl | rfl <;> rfl, rfl⟩
end Go.Proofs.Ytbklkhndjckckaa

/- The program's within, of sets. -/
namespace Go.Proofs.Ytbklkhndjckckaa
open Go.RowKit
set_option linter.unusedVariables false

/-- Two sets are compared. -/
theorem set_eq (x0 x1 x2 x3 x4 y0 y1 y2 y3 y4 : Int) (w : World) : (binOp .eql 56 (.agg #[.int .u64 x0, .int .u64 x1, .int .u64 x2, .int .u64 x3, .int .u64 x4]) (.agg #[.int .u64 y0, .int .u64 y1, .int .u64 y2, .int .u64 y3, .int .u64 y4])).run Try.prog w = .ok (.bool (decide ([x0, x1, x2, x3, x4] = [y0, y1, y2, y3, y4]))) w := by
  have hp : ∀ (cs : Array Value) (k : Nat) (v : Value), cs[k]? = some v → (part 54 cs k).run Try.prog w = .ok v w := by
    intro cs k v h
    have ha : (isAgg 54).run Try.prog w = .ok false w := by kernel_rfl
    simp [part, ha, h]
  have hs : (sizeOf 54).run Try.prog w = .ok 1 w := by kernel_rfl
  have hu : (underlying 56).run Try.prog w = .ok (.array 5 54) w := by kernel_rfl
  rw [run_eql_struct, show (10000:Nat) = 9998+1+1 from rfl]
  have he : ∀ a b : Int, (Op.equalIn (9998 + 1) 54 (.int .u64 a) (.int .u64 b)).run Try.prog w = .ok (a == b) w := fun a b => run_equalIn_int _ _ _ _ .u64 _ _ Try.underlying54
  rw [Op.equalIn]
  simp [hu, hs, hp, he, Std.Legacy.Range.forIn_eq_forIn_range', Std.Legacy.Range.size, List.range'_succ, List.range'_zero, List.forIn_cons, List.forIn_nil]
  by_cases h0 : x0 = y0 <;> by_cases h1 : x1 = y1 <;> by_cases h2 : x2 = y2 <;> by_cases h3 : x3 = y3 <;> by_cases h4 : x4 = y4 <;> simp [h0, h1, h2, h3, h4]

theorem five_iff (f g : Nat → Nat) : ([(f 0 : Int), (f 1 : Int), (f 2 : Int), (f 3 : Int), (f 4 : Int)] = [(g 0 : Int), (g 1 : Int), (g 2 : Int), (g 3 : Int), (g 4 : Int)]) ↔ ∀ r, r < 5 → f r = g r := by
  constructor
  · intro h r hr
    injection h with h0 h; injection h with h1 h; injection h with h2 h; injection h with h3 h; injection h with h4 h
    rcases (show r = 0 ∨ r = 1 ∨ r = 2 ∨ r = 3 ∨ r = 4 by omega) with rfl | rfl | rfl | rfl | rfl <;> omega
  · intro h
    rw [h 0 (by omega), h 1 (by omega), h 2 (by omega), h 3 (by omega), h 4 (by omega)]

/-- What within answers. -/
def inF (f g : Nat → Nat) : Bool := decide (joinF f g 0 = g 0 ∧ joinF f g 1 = g 1 ∧ joinF f g 2 = g 2 ∧ joinF f g 3 = g 3 ∧ joinF f g 4 = g 4)
theorem five_all (P : Nat → Prop) : (P 0 ∧ P 1 ∧ P 2 ∧ P 3 ∧ P 4) ↔ ∀ r, r < 5 → P r := by
  constructor
  · rintro ⟨h0, h1, h2, h3, h4⟩ r hr
    rcases (show r = 0 ∨ r = 1 ∨ r = 2 ∨ r = 3 ∨ r = 4 by omega) with rfl | rfl | rfl | rfl | rfl <;> assumption
  · intro h
    exact ⟨h 0 (by omega), h 1 (by omega), h 2 (by omega), h 3 (by omega), h 4 (by omega)⟩
theorem inF_iff {f g : Nat → Nat} : inF f g = true ↔ ∀ r, r < 5 → joinF f g r = g r := by
  unfold inF; rw [decide_eq_true_iff]; exact five_all fun r => joinF f g r = g r

theorem ten_up {w wr w' : World} {p q : Nat} {x0 x1 x2 x3 x4 y0 y1 y2 y3 y4 : Value} (B : Below wr.heap.size wr w') (h : ((wr.cell? ⟨p, 0, none⟩ = some x0 ∧ wr.cell? ⟨p, 1, none⟩ = some x1 ∧ wr.cell? ⟨p, 2, none⟩ = some x2 ∧ wr.cell? ⟨p, 3, none⟩ = some x3 ∧ wr.cell? ⟨p, 4, none⟩ = some x4) ∧ wr.cell? ⟨q, 0, none⟩ = some y0 ∧ wr.cell? ⟨q, 1, none⟩ = some y1 ∧ wr.cell? ⟨q, 2, none⟩ = some y2 ∧ wr.cell? ⟨q, 3, none⟩ = some y3 ∧ wr.cell? ⟨q, 4, none⟩ = some y4) ∧ Below w.heap.size w wr) : ((w'.cell? ⟨p, 0, none⟩ = some x0 ∧ w'.cell? ⟨p, 1, none⟩ = some x1 ∧ w'.cell? ⟨p, 2, none⟩ = some x2 ∧ w'.cell? ⟨p, 3, none⟩ = some x3 ∧ w'.cell? ⟨p, 4, none⟩ = some x4) ∧ w'.cell? ⟨q, 0, none⟩ = some y0 ∧ w'.cell? ⟨q, 1, none⟩ = some y1 ∧ w'.cell? ⟨q, 2, none⟩ = some y2 ∧ w'.cell? ⟨q, 3, none⟩ = some y3 ∧ w'.cell? ⟨q, 4, none⟩ = some y4) ∧ Below w.heap.size w w' := by
  obtain ⟨⟨⟨a0, a1, a2, a3, a4⟩, b0, b1, b2, b3, b4⟩, d⟩ := h
  exact ⟨⟨⟨cell_later B a0, cell_later B a1, cell_later B a2, cell_later B a3, cell_later B a4⟩, cell_later B b0, cell_later B b1, cell_later B b2, cell_later B b3, cell_later B b4⟩, bstep d B⟩

set_option maxRecDepth 100000 in
set_option maxHeartbeats 4000000 in
theorem within_any (f g : Nat → Nat) (w : World) (hf : ∀ r, f r < 2251799813685248) (hg : ∀ r, g r < 2251799813685248) :
    Calls Try.prog 71 #[setV f, setV g] w fun e w' => e = .returned (.bool (inF f g)) ∧ Below w.heap.size w w' := by
  have sj := fun w => join_any f g w hf hg
  have se := fun w => set_eq (joinF f g 0) (joinF f g 1) (joinF f g 2) (joinF f g 3) (joinF f g 4) (g 0) (g 1) (g 2) (g 3) (g 4) w
  have hd : decide ([(joinF f g 0 : Int), (joinF f g 1 : Int), (joinF f g 2 : Int), (joinF f g 3 : Int), (joinF f g 4 : Int)] = [(g 0 : Int), (g 1 : Int), (g 2 : Int), (g 3 : Int), (g 4 : Int)]) = inF f g := by
    unfold inF; exact decide_eq_decide.2 ((five_iff _ _).trans (five_all fun r => joinF f g r = g r).symm)
  rw [hd] at se
  clear hd hf hg
  generalize joinF f g = j at sj se
  generalize inF f g = q at se ⊢
  unfold setV at sj ⊢
  go_enter Try.func71, Try.ntmps71
  go_upto_region 1 with fail
  have D0 : Hid (Below w.heap.size w ((w.alloc (.cells #[.int .u64 (f 0), .int .u64 (f 1), .int .u64 (f 2), .int .u64 (f 3), .int .u64 (f 4)] 56)).alloc (.cells #[.int .u64 (g 0), .int .u64 (g 1), .int .u64 (g 2), .int .u64 (g 3), .int .u64 (g 4)] 56)).drew) := Lib.hid (((Below.refl _ _).alloc (Nat.le_refl _) _).alloc (by simp) _).drew
  have A0 : Hid (Set5 ((w.alloc (.cells #[.int .u64 (f 0), .int .u64 (f 1), .int .u64 (f 2), .int .u64 (f 3), .int .u64 (f 4)] 56)).alloc (.cells #[.int .u64 (g 0), .int .u64 (g 1), .int .u64 (g 2), .int .u64 (g 3), .int .u64 (g 4)] 56)) w.heap.size f) := Lib.hid ((Below.heap_alloc _ _ _ (by simp)).trans (heap_alloc_new w _))
  have B0 : Hid (Set5 ((w.alloc (.cells #[.int .u64 (f 0), .int .u64 (f 1), .int .u64 (f 2), .int .u64 (f 3), .int .u64 (f 4)] 56)).alloc (.cells #[.int .u64 (g 0), .int .u64 (g 1), .int .u64 (g 2), .int .u64 (g 3), .int .u64 (g 4)] 56)) (w.heap.size + 1) g) := Lib.hid (heap_alloc_at _ _ _ (by simp))
  have hz : ((w.alloc (.cells #[.int .u64 (f 0), .int .u64 (f 1), .int .u64 (f 2), .int .u64 (f 3), .int .u64 (f 4)] 56)).alloc (.cells #[.int .u64 (g 0), .int .u64 (g 1), .int .u64 (g 2), .int .u64 (g 3), .int .u64 (g 4)] 56)).heap.size = w.heap.size + 2 := by simp
  generalize ((w.alloc (.cells #[.int .u64 (f 0), .int .u64 (f 1), .int .u64 (f 2), .int .u64 (f 3), .int .u64 (f 4)] 56)).alloc (.cells #[.int .u64 (g 0), .int .u64 (g 1), .int .u64 (g 2), .int .u64 (g 3), .int .u64 (g 4)] 56)) = W at D0 A0 B0 hz ⊢
  obtain ⟨a0, a1, a2, a3, a4⟩ := A0.out.five
  obtain ⟨b0, b1, b2, b3, b4⟩ := B0.out.five
  clear A0 B0
  have S0 : Hid (((W.cell? ⟨w.heap.size, 0, none⟩ = some (.int .u64 (f 0)) ∧ W.cell? ⟨w.heap.size, 1, none⟩ = some (.int .u64 (f 1)) ∧ W.cell? ⟨w.heap.size, 2, none⟩ = some (.int .u64 (f 2)) ∧ W.cell? ⟨w.heap.size, 3, none⟩ = some (.int .u64 (f 3)) ∧ W.cell? ⟨w.heap.size, 4, none⟩ = some (.int .u64 (f 4))) ∧ W.cell? ⟨w.heap.size + 1, 0, none⟩ = some (.int .u64 (g 0)) ∧ W.cell? ⟨w.heap.size + 1, 1, none⟩ = some (.int .u64 (g 1)) ∧ W.cell? ⟨w.heap.size + 1, 2, none⟩ = some (.int .u64 (g 2)) ∧ W.cell? ⟨w.heap.size + 1, 3, none⟩ = some (.int .u64 (g 3)) ∧ W.cell? ⟨w.heap.size + 1, 4, none⟩ = some (.int .u64 (g 4))) ∧ Below w.heap.size w W.drew) := Lib.hid ⟨⟨⟨a0, a1, a2, a3, a4⟩, b0, b1, b2, b3, b4⟩, D0.out⟩
  clear a0 a1 a2 a3 a4 b0 b1 b2 b3 b4 D0
  go_region_held3 (fun w' => ((w'.cell? ⟨w.heap.size, 0, none⟩ = some (.int .u64 (f 0)) ∧ w'.cell? ⟨w.heap.size, 1, none⟩ = some (.int .u64 (f 1)) ∧ w'.cell? ⟨w.heap.size, 2, none⟩ = some (.int .u64 (f 2)) ∧ w'.cell? ⟨w.heap.size, 3, none⟩ = some (.int .u64 (f 3)) ∧ w'.cell? ⟨w.heap.size, 4, none⟩ = some (.int .u64 (f 4))) ∧ w'.cell? ⟨w.heap.size + 1, 0, none⟩ = some (.int .u64 (g 0)) ∧ w'.cell? ⟨w.heap.size + 1, 1, none⟩ = some (.int .u64 (g 1)) ∧ w'.cell? ⟨w.heap.size + 1, 2, none⟩ = some (.int .u64 (g 2)) ∧ w'.cell? ⟨w.heap.size + 1, 3, none⟩ = some (.int .u64 (g 3)) ∧ w'.cell? ⟨w.heap.size + 1, 4, none⟩ = some (.int .u64 (g 4))) ∧ Below w.heap.size w w') (first | exact S0.out | exact ten_up (by assumption) (by assumption))
    (first | (go_at_call 34; (with_reducible refine (sj _).mono ?_); rintro e w' ⟨rfl, hb⟩))
  rename_i hHeld
  go_wp2_with fail
  go_ret
  exact ⟨rfl, hHeld.2⟩
end Go.Proofs.Ytbklkhndjckckaa

/- The program's group.free. -/
namespace Go.Proofs.Ytbklkhndjckckaa
open Go.RowKit
set_option linter.unusedVariables false

theorem bits_in {f g : Nat → Nat} {P Q : Pid → Prop} (h : Bits f P) (k : Bits g Q) : inF (nrm f) (nrm g) = true ↔ ∀ x, P x → Q x := by
  rw [inF_iff, ← h.within k]
  constructor
  · intro e r hr
    have := e r hr
    simp only [joinF, nrm, hr, if_true] at this; exact this
  · intro e r hr
    simp only [joinF, nrm, hr, if_true]; exact e r hr

def FreeH (q1 q2 : Bool) (P Q T : Pid → Prop) : Prop := (q1 = true ↔ ∀ x, P x → T x) ∧ (q2 = true ↔ ∀ x, Q x → T x ∨ P x)
/-- What free answers. -/
def FreeP (rd : Bool) (P Q T : Pid → Prop) (w : World) (e : Ending) (w' : World) : Prop := (∃ b : Bool, e = .returned (.bool b) ∧ (b = true ↔ rd = true ∧ ¬ (∀ x, P x → T x) ∧ ∀ x, Q x → T x ∨ P x)) ∧ Below w.heap.size w w'

set_option maxRecDepth 100000 in
set_option maxHeartbeats 4000000 in
theorem free_any (gb : Nat) (mv : Value) (f r R : Nat → Nat) (rd : Bool) (P Q T : Pid → Prop) (w : World) (hG : Gb w gb mv f r rd) (hf : Bits f P) (hr : Bits r Q) (hR : Bits R T) :
    Calls Try.prog 57 #[.pointer (some ⟨gb, 0, none⟩), setV R] w (FreeP rd P Q T w) := by
  have sw1 := fun W => within_any (nrm f) (nrm R) W hf.nrm_lt hR.nrm_lt
  have sj := fun W => join_any (nrm R) (nrm f) W hR.nrm_lt hf.nrm_lt
  have hJ := hR.nrm.join hf.nrm
  have hq1 := bits_in hf hR
  obtain ⟨jq, hjq⟩ : ∃ j, Hid (joinF (nrm R) (nrm f) = j) := ⟨_, Lib.hid rfl⟩
  have hJ : Bits jq (fun x => T x ∨ P x) := by rw [← hjq.out]; exact hJ
  have hq2 := bits_in hr hJ
  have sw2 := fun W => within_any (nrm r) (nrm jq) W hr.nrm_lt hJ.nrm_lt
  rw [hjq.out] at sj
  obtain ⟨q1, hq1e⟩ : ∃ q, inF (nrm f) (nrm R) = q := ⟨_, rfl⟩
  obtain ⟨q2, hq2e⟩ : ∃ q, inF (nrm r) (nrm jq) = q := ⟨_, rfl⟩
  rw [hq1e] at hq1 sw1
  rw [hq2e] at hq2 sw2
  simp only [nrm_set] at sw1 sw2 sj
  have hqq : Hid (FreeH q1 q2 P Q T) := Lib.hid (And.intro hq1 hq2)
  clear hq1 hq2 hq1e hq2e hJ hjq hf hr hR
  unfold setV at sw1 sw2 sj ⊢
  have hA : Hid (Set5 (w.alloc (.cells #[.int .u64 (R 0), .int .u64 (R 1), .int .u64 (R 2), .int .u64 (R 3), .int .u64 (R 4)] 56)) w.heap.size R) := Lib.hid (heap_alloc_new w _)
  have D0 := (Below.refl w.heap.size w).alloc (Nat.le_refl _) (.cells #[.int .u64 (R 0), .int .u64 (R 1), .int .u64 (R 2), .int .u64 (R 3), .int .u64 (R 4)] 56)
  have G1 := Lib.hid (hG.same (D0.block gb hG.lt))
  have D1 := Lib.hid D0
  clear hG D0
  go_enter Try.func57, Try.ntmps57
  go_upto_region 1 with fail
  obtain ⟨W, hW⟩ : ∃ W, w.alloc (.cells #[.int .u64 (R 0), .int .u64 (R 1), .int .u64 (R 2), .int .u64 (R 3), .int .u64 (R 4)] 56) = W := ⟨_, rfl⟩
  rw [hW] at hA G1 D1 ⊢
  obtain ⟨f0, f1, f2, f3, f4⟩ := G1.out.fs
  obtain ⟨r0, r1, r2, r3, r4⟩ := G1.out.rs
  obtain ⟨s0, s1, s2, s3, s4⟩ := hA.out.five
  have g11 := G1.out.c11
  have gl1 := G1.out.lt
  have sl1 := hA.out.lt
  clear hW hA G1
  cases rd with
  | false =>
    go_quiet (fail)
    go_wp2_with fail
    go_ret
    exact ⟨⟨false, rfl, ⟨fun h => (nomatch h), fun h => (nomatch h.1)⟩⟩, bdrewN D1.out _⟩
  | true =>
    cases q1 with
    | true =>
      refine wp_region_held_drew (S := fun w' => w'.cell? ⟨gb, 1, none⟩ = some (.int .u64 (f 0)) ∧ w'.cell? ⟨gb, 2, none⟩ = some (.int .u64 (f 1)) ∧ w'.cell? ⟨gb, 3, none⟩ = some (.int .u64 (f 2)) ∧ w'.cell? ⟨gb, 4, none⟩ = some (.int .u64 (f 3)) ∧ w'.cell? ⟨gb, 5, none⟩ = some (.int .u64 (f 4)) ∧ w'.cell? ⟨gb, 6, none⟩ = some (.int .u64 (r 0)) ∧ w'.cell? ⟨gb, 7, none⟩ = some (.int .u64 (r 1)) ∧ w'.cell? ⟨gb, 8, none⟩ = some (.int .u64 (r 2)) ∧ w'.cell? ⟨gb, 9, none⟩ = some (.int .u64 (r 3)) ∧ w'.cell? ⟨gb, 10, none⟩ = some (.int .u64 (r 4)) ∧ w'.cell? ⟨gb, 11, none⟩ = some (.bool true) ∧ w'.cell? ⟨w.heap.size, 0, none⟩ = some (.int .u64 (R 0)) ∧ w'.cell? ⟨w.heap.size, 1, none⟩ = some (.int .u64 (R 1)) ∧ w'.cell? ⟨w.heap.size, 2, none⟩ = some (.int .u64 (R 2)) ∧ w'.cell? ⟨w.heap.size, 3, none⟩ = some (.int .u64 (R 3)) ∧ w'.cell? ⟨w.heap.size, 4, none⟩ = some (.int .u64 (R 4)) ∧ Below W.heap.size W w') (by kernel_rfl) ⟨f0, f1, f2, f3, f4, r0, r1, r2, r3, r4, g11, s0, s1, s2, s3, s4, Below.drew (Below.refl _ _)⟩ (fun hHeld => ?_)
      refine wpAnyH_take (i := 0) (oi := ⟨some 5, _, _, _, _, _⟩) (v := ?_) rfl (by kernel_rfl) (by kernel_rfl) (by kernel_rfl) (fun _ _ _ h => h) (Or.inl ⟨by rfl, ?_⟩) (by assumption) ?_
      rotate_left 1
      · intro w hSw; (try dsimp only at hSw); go_simp; try (with_reducible rfl)
      try simp only [Act.put, List.setIfInBounds_toArray, List.set_cons_zero, List.set_cons_succ]
      refine wpAnyH_take (i := 1) (oi := ⟨some 6, _, _, _, _, _⟩) (v := ?_) rfl (by kernel_rfl) (by kernel_rfl) (by kernel_rfl) (fun _ _ _ h => h) (Or.inl ⟨by rfl, ?_⟩) (by assumption) ?_
      rotate_left 1
      · intro w hSw; (try dsimp only at hSw); go_simp; try (with_reducible rfl)
      try simp only [Act.put, List.setIfInBounds_toArray, List.set_cons_zero, List.set_cons_succ]
      refine wpAnyH_take (i := 2) (oi := ⟨some 7, _, _, _, _, _⟩) (v := ?_) rfl (by kernel_rfl) (by kernel_rfl) (by kernel_rfl) (fun _ _ _ h => h) (Or.inl ⟨by rfl, ?_⟩) (by assumption) ?_
      rotate_left 1
      · intro w hSw; (try dsimp only at hSw); go_simp; try (with_reducible rfl)
      try simp only [Act.put, List.setIfInBounds_toArray, List.set_cons_zero, List.set_cons_succ]
      refine wpAnyH_take (i := 3) (oi := ⟨some 8, _, _, _, _, _⟩) (v := ?_) rfl (by kernel_rfl) (by kernel_rfl) (by kernel_rfl) (fun _ _ _ h => h) (Or.inl ⟨by rfl, ?_⟩) (by assumption) ?_
      rotate_left 1
      · intro w hSw; (try dsimp only at hSw); go_simp; try (with_reducible rfl)
      try simp only [Act.put, List.setIfInBounds_toArray, List.set_cons_zero, List.set_cons_succ]
      refine wpAnyH_take (i := 4) (oi := ⟨some 9, _, _, _, _, _⟩) (v := ?_) rfl (by kernel_rfl) (by kernel_rfl) (by kernel_rfl) (fun _ _ _ h => h) (Or.inl ⟨by rfl, ?_⟩) (by assumption) ?_
      rotate_left 1
      · intro w hSw; (try dsimp only at hSw); go_simp; try (with_reducible rfl)
      try simp only [Act.put, List.setIfInBounds_toArray, List.set_cons_zero, List.set_cons_succ]
      refine wpAnyH_take (i := 5) (oi := ⟨some 10, _, _, _, _, _⟩) (v := ?_) rfl (by kernel_rfl) (by kernel_rfl) (by kernel_rfl) (fun _ _ _ h => h) (Or.inl ⟨by rfl, ?_⟩) (by assumption) ?_
      rotate_left 1
      · intro w hSw; (try dsimp only at hSw); go_simp; try (with_reducible rfl)
      try simp only [Act.put, List.setIfInBounds_toArray, List.set_cons_zero, List.set_cons_succ]
      refine wpAnyH_take (i := 6) (oi := ⟨some 11, _, _, _, _, _⟩) (v := ?_) rfl (by kernel_rfl) (by kernel_rfl) (by kernel_rfl) (fun _ _ _ h => h) (Or.inl ⟨by rfl, ?_⟩) (by assumption) ?_
      rotate_left 1
      · intro w hSw; (try dsimp only at hSw); go_simp; try (with_reducible rfl)
      try simp only [Act.put, List.setIfInBounds_toArray, List.set_cons_zero, List.set_cons_succ]
      refine wpAnyH_take (i := 7) (oi := ⟨some 12, _, _, _, _, _⟩) (v := ?_) rfl (by kernel_rfl) (by kernel_rfl) (by kernel_rfl) (fun _ _ _ h => h) (Or.inl ⟨by rfl, ?_⟩) (by assumption) ?_
      rotate_left 1
      · intro w hSw; (try dsimp only at hSw); go_simp; try (with_reducible rfl)
      try simp only [Act.put, List.setIfInBounds_toArray, List.set_cons_zero, List.set_cons_succ]
      refine wpAnyH_take (i := 8) (oi := ⟨some 13, _, _, _, _, _⟩) (v := ?_) rfl (by kernel_rfl) (by kernel_rfl) (by kernel_rfl) (fun _ _ _ h => h) (Or.inl ⟨by rfl, ?_⟩) (by assumption) ?_
      rotate_left 1
      · intro w hSw; (try dsimp only at hSw); go_simp; try (with_reducible rfl)
      try simp only [Act.put, List.setIfInBounds_toArray, List.set_cons_zero, List.set_cons_succ]
      refine wpAnyH_take (i := 9) (oi := ⟨some 14, _, _, _, _, _⟩) (v := ?_) rfl (by kernel_rfl) (by kernel_rfl) (by kernel_rfl) (fun _ _ _ h => h) (Or.inl ⟨by rfl, ?_⟩) (by assumption) ?_
      rotate_left 1
      · intro w hSw; (try dsimp only at hSw); go_simp; try (with_reducible rfl)
      try simp only [Act.put, List.setIfInBounds_toArray, List.set_cons_zero, List.set_cons_succ]
      refine wpAnyH_ready (rs := [10]) (by kernel_rfl) (by simp) ?_
      refine AllReadyH.cons (o := ⟨some 15, _, _, _, _, _⟩) rfl (fun K hK => ?_) AllReadyH.nil
      go_simp
      refine (sw1 _).mono ?_
      rintro e w2 ⟨rfl, hb⟩
      go_wp2_with fail
      refine hK.out _ _ ?_ (fun hHeld2 => ?_)
      · exact ⟨cell_later hb hHeld.1, cell_later hb hHeld.2.1, cell_later hb hHeld.2.2.1, cell_later hb hHeld.2.2.2.1, cell_later hb hHeld.2.2.2.2.1, cell_later hb hHeld.2.2.2.2.2.1, cell_later hb hHeld.2.2.2.2.2.2.1, cell_later hb hHeld.2.2.2.2.2.2.2.1, cell_later hb hHeld.2.2.2.2.2.2.2.2.1, cell_later hb hHeld.2.2.2.2.2.2.2.2.2.1, cell_later hb hHeld.2.2.2.2.2.2.2.2.2.2.1, cell_later hb hHeld.2.2.2.2.2.2.2.2.2.2.2.1, cell_later hb hHeld.2.2.2.2.2.2.2.2.2.2.2.2.1, cell_later hb hHeld.2.2.2.2.2.2.2.2.2.2.2.2.2.1, cell_later hb hHeld.2.2.2.2.2.2.2.2.2.2.2.2.2.2.1, cell_later hb hHeld.2.2.2.2.2.2.2.2.2.2.2.2.2.2.2.1, hHeld.2.2.2.2.2.2.2.2.2.2.2.2.2.2.2.2.trans (hb.mono hHeld.2.2.2.2.2.2.2.2.2.2.2.2.2.2.2.2.size)⟩
      clear hK K hHeld hb
      have hHeld := hHeld2
      clear hHeld2
      try simp only [Act.put, List.setIfInBounds_toArray, List.set_cons_zero, List.set_cons_succ]
      refine wpAnyH_take (i := 11) (oi := ⟨some 16, _, _, _, _, _⟩) (v := ?_) rfl (by kernel_rfl) (by kernel_rfl) (by kernel_rfl) (fun _ _ _ h => h) (Or.inl ⟨by rfl, ?_⟩) (by assumption) ?_
      rotate_left 1
      · intro w hSw; (try dsimp only at hSw); go_simp; try (with_reducible rfl)
      try simp only [Act.put, List.setIfInBounds_toArray, List.set_cons_zero, List.set_cons_succ]
      refine wpAnyH_take (i := 12) (oi := ⟨some 17, _, _, _, _, _⟩) (v := ?_) rfl (by kernel_rfl) (by kernel_rfl) (by kernel_rfl) (fun _ _ _ h => h) (Or.inl ⟨by rfl, ?_⟩) (by assumption) ?_
      rotate_left 1
      · intro w hSw; (try dsimp only at hSw); go_simp; try (with_reducible rfl)
      try simp only [Act.put, List.setIfInBounds_toArray, List.set_cons_zero, List.set_cons_succ]
      refine wpAnyH_take (i := 13) (oi := ⟨some 18, _, _, _, _, _⟩) (v := ?_) rfl (by kernel_rfl) (by kernel_rfl) (by kernel_rfl) (fun _ _ _ h => h) (Or.inl ⟨by rfl, ?_⟩) (by assumption) ?_
      rotate_left 1
      · intro w hSw; (try dsimp only at hSw); go_simp; try (with_reducible rfl)
      try simp only [Act.put, List.setIfInBounds_toArray, List.set_cons_zero, List.set_cons_succ]
      refine wpAnyH_take (i := 14) (oi := ⟨some 19, _, _, _, _, _⟩) (v := undef) rfl (by kernel_rfl) (by kernel_rfl) (by kernel_rfl) (fun _ _ _ h => h) (Or.inr ⟨by rfl, rfl⟩) (by assumption) ?_
      try simp only [Act.put, List.setIfInBounds_toArray, List.set_cons_zero, List.set_cons_succ]
      refine wpAnyH_take (i := 15) (oi := ⟨some 20, _, _, _, _, _⟩) (v := undef) rfl (by kernel_rfl) (by kernel_rfl) (by kernel_rfl) (fun _ _ _ h => h) (Or.inr ⟨by rfl, rfl⟩) (by assumption) ?_
      try simp only [Act.put, List.setIfInBounds_toArray, List.set_cons_zero, List.set_cons_succ]
      refine wpAnyH_take (i := 16) (oi := ⟨some 21, _, _, _, _, _⟩) (v := undef) rfl (by kernel_rfl) (by kernel_rfl) (by kernel_rfl) (fun _ _ _ h => h) (Or.inr ⟨by rfl, rfl⟩) (by assumption) ?_
      try simp only [Act.put, List.setIfInBounds_toArray, List.set_cons_zero, List.set_cons_succ]
      refine wpAnyH_take (i := 17) (oi := ⟨some 22, _, _, _, _, _⟩) (v := undef) rfl (by kernel_rfl) (by kernel_rfl) (by kernel_rfl) (fun _ _ _ h => h) (Or.inr ⟨by rfl, rfl⟩) (by assumption) ?_
      try simp only [Act.put, List.setIfInBounds_toArray, List.set_cons_zero, List.set_cons_succ]
      refine wpAnyH_take (i := 18) (oi := ⟨some 23, _, _, _, _, _⟩) (v := undef) rfl (by kernel_rfl) (by kernel_rfl) (by kernel_rfl) (fun _ _ _ h => h) (Or.inr ⟨by rfl, rfl⟩) (by assumption) ?_
      try simp only [Act.put, List.setIfInBounds_toArray, List.set_cons_zero, List.set_cons_succ]
      refine wpAnyH_take (i := 19) (oi := ⟨some 24, _, _, _, _, _⟩) (v := undef) rfl (by kernel_rfl) (by kernel_rfl) (by kernel_rfl) (fun _ _ _ h => h) (Or.inr ⟨by rfl, rfl⟩) (by assumption) ?_
      try simp only [Act.put, List.setIfInBounds_toArray, List.set_cons_zero, List.set_cons_succ]
      refine wpAnyH_take (i := 20) (oi := ⟨some 25, _, _, _, _, _⟩) (v := undef) rfl (by kernel_rfl) (by kernel_rfl) (by kernel_rfl) (fun _ _ _ h => h) (Or.inr ⟨by rfl, rfl⟩) (by assumption) ?_
      try simp only [Act.put, List.setIfInBounds_toArray, List.set_cons_zero, List.set_cons_succ]
      refine wpAnyH_take (i := 21) (oi := ⟨some 26, _, _, _, _, _⟩) (v := undef) rfl (by kernel_rfl) (by kernel_rfl) (by kernel_rfl) (fun _ _ _ h => h) (Or.inr ⟨by rfl, rfl⟩) (by assumption) ?_
      try simp only [Act.put, List.setIfInBounds_toArray, List.set_cons_zero, List.set_cons_succ]
      refine wpAnyH_take (i := 22) (oi := ⟨some 27, _, _, _, _, _⟩) (v := undef) rfl (by kernel_rfl) (by kernel_rfl) (by kernel_rfl) (fun _ _ _ h => h) (Or.inr ⟨by rfl, rfl⟩) (by assumption) ?_
      try simp only [Act.put, List.setIfInBounds_toArray, List.set_cons_zero, List.set_cons_succ]
      refine wpAnyH_take (i := 23) (oi := ⟨some 28, _, _, _, _, _⟩) (v := undef) rfl (by kernel_rfl) (by kernel_rfl) (by kernel_rfl) (fun _ _ _ h => h) (Or.inr ⟨by rfl, rfl⟩) (by assumption) ?_
      try simp only [Act.put, List.setIfInBounds_toArray, List.set_cons_zero, List.set_cons_succ]
      refine wpAnyH_take (i := 24) (oi := ⟨some 29, _, _, _, _, _⟩) (v := undef) rfl (by kernel_rfl) (by kernel_rfl) (by kernel_rfl) (fun _ _ _ h => h) (Or.inr ⟨by rfl, rfl⟩) (by assumption) ?_
      try simp only [Act.put, List.setIfInBounds_toArray, List.set_cons_zero, List.set_cons_succ]
      refine wpAnyH_take (i := 25) (oi := ⟨some 30, _, _, _, _, _⟩) (v := ?_) rfl (by kernel_rfl) (by kernel_rfl) (by kernel_rfl) (fun _ _ _ h => h) (Or.inl ⟨by rfl, ?_⟩) (by assumption) ?_
      rotate_left 1
      · intro w hSw; (try dsimp only at hSw); go_simp; try (with_reducible rfl)
      try simp only [Act.put, List.setIfInBounds_toArray, List.set_cons_zero, List.set_cons_succ]
      refine wpAnyH_take (i := 26) (oi := ⟨some 4, _, _, _, _, _⟩) (v := ?_) rfl (by kernel_rfl) (by kernel_rfl) (by kernel_rfl) (fun _ _ _ h => h) (Or.inl ⟨by rfl, ?_⟩) (by assumption) ?_
      rotate_left 1
      · intro w hSw; (try dsimp only at hSw); go_simp; try (with_reducible rfl)
      try simp only [Act.put, List.setIfInBounds_toArray, List.set_cons_zero, List.set_cons_succ]
      refine wpAnyH_done (by kernel_rfl) ?_ _
      try simp only [Act.put, List.setIfInBounds_toArray, List.set_cons_zero, List.set_cons_succ]
      have D2 := Lib.hid (bstep D1.out hHeld.2.2.2.2.2.2.2.2.2.2.2.2.2.2.2.2)
      clear hHeld D1
      go_wp2_with fail
      go_ret
      exact ⟨⟨false, rfl, ⟨fun h => (nomatch h), fun h => absurd (hqq.out.1.1 rfl) h.2.1⟩⟩, D2.out⟩
    | false =>
      refine wp_region_held_drew (S := fun w' => w'.cell? ⟨gb, 1, none⟩ = some (.int .u64 (f 0)) ∧ w'.cell? ⟨gb, 2, none⟩ = some (.int .u64 (f 1)) ∧ w'.cell? ⟨gb, 3, none⟩ = some (.int .u64 (f 2)) ∧ w'.cell? ⟨gb, 4, none⟩ = some (.int .u64 (f 3)) ∧ w'.cell? ⟨gb, 5, none⟩ = some (.int .u64 (f 4)) ∧ w'.cell? ⟨gb, 6, none⟩ = some (.int .u64 (r 0)) ∧ w'.cell? ⟨gb, 7, none⟩ = some (.int .u64 (r 1)) ∧ w'.cell? ⟨gb, 8, none⟩ = some (.int .u64 (r 2)) ∧ w'.cell? ⟨gb, 9, none⟩ = some (.int .u64 (r 3)) ∧ w'.cell? ⟨gb, 10, none⟩ = some (.int .u64 (r 4)) ∧ w'.cell? ⟨gb, 11, none⟩ = some (.bool true) ∧ w'.cell? ⟨w.heap.size, 0, none⟩ = some (.int .u64 (R 0)) ∧ w'.cell? ⟨w.heap.size, 1, none⟩ = some (.int .u64 (R 1)) ∧ w'.cell? ⟨w.heap.size, 2, none⟩ = some (.int .u64 (R 2)) ∧ w'.cell? ⟨w.heap.size, 3, none⟩ = some (.int .u64 (R 3)) ∧ w'.cell? ⟨w.heap.size, 4, none⟩ = some (.int .u64 (R 4)) ∧ Below W.heap.size W w') (by kernel_rfl) ⟨f0, f1, f2, f3, f4, r0, r1, r2, r3, r4, g11, s0, s1, s2, s3, s4, Below.drew (Below.refl _ _)⟩ (fun hHeld => ?_)
      refine wpAnyH_take (i := 0) (oi := ⟨some 5, _, _, _, _, _⟩) (v := ?_) rfl (by kernel_rfl) (by kernel_rfl) (by kernel_rfl) (fun _ _ _ h => h) (Or.inl ⟨by rfl, ?_⟩) (by assumption) ?_
      rotate_left 1
      · intro w hSw; (try dsimp only at hSw); go_simp; try (with_reducible rfl)
      try simp only [Act.put, List.setIfInBounds_toArray, List.set_cons_zero, List.set_cons_succ]
      refine wpAnyH_take (i := 1) (oi := ⟨some 6, _, _, _, _, _⟩) (v := ?_) rfl (by kernel_rfl) (by kernel_rfl) (by kernel_rfl) (fun _ _ _ h => h) (Or.inl ⟨by rfl, ?_⟩) (by assumption) ?_
      rotate_left 1
      · intro w hSw; (try dsimp only at hSw); go_simp; try (with_reducible rfl)
      try simp only [Act.put, List.setIfInBounds_toArray, List.set_cons_zero, List.set_cons_succ]
      refine wpAnyH_take (i := 2) (oi := ⟨some 7, _, _, _, _, _⟩) (v := ?_) rfl (by kernel_rfl) (by kernel_rfl) (by kernel_rfl) (fun _ _ _ h => h) (Or.inl ⟨by rfl, ?_⟩) (by assumption) ?_
      rotate_left 1
      · intro w hSw; (try dsimp only at hSw); go_simp; try (with_reducible rfl)
      try simp only [Act.put, List.setIfInBounds_toArray, List.set_cons_zero, List.set_cons_succ]
      refine wpAnyH_take (i := 3) (oi := ⟨some 8, _, _, _, _, _⟩) (v := ?_) rfl (by kernel_rfl) (by kernel_rfl) (by kernel_rfl) (fun _ _ _ h => h) (Or.inl ⟨by rfl, ?_⟩) (by assumption) ?_
      rotate_left 1
      · intro w hSw; (try dsimp only at hSw); go_simp; try (with_reducible rfl)
      try simp only [Act.put, List.setIfInBounds_toArray, List.set_cons_zero, List.set_cons_succ]
      refine wpAnyH_take (i := 4) (oi := ⟨some 9, _, _, _, _, _⟩) (v := ?_) rfl (by kernel_rfl) (by kernel_rfl) (by kernel_rfl) (fun _ _ _ h => h) (Or.inl ⟨by rfl, ?_⟩) (by assumption) ?_
      rotate_left 1
      · intro w hSw; (try dsimp only at hSw); go_simp; try (with_reducible rfl)
      try simp only [Act.put, List.setIfInBounds_toArray, List.set_cons_zero, List.set_cons_succ]
      refine wpAnyH_take (i := 5) (oi := ⟨some 10, _, _, _, _, _⟩) (v := ?_) rfl (by kernel_rfl) (by kernel_rfl) (by kernel_rfl) (fun _ _ _ h => h) (Or.inl ⟨by rfl, ?_⟩) (by assumption) ?_
      rotate_left 1
      · intro w hSw; (try dsimp only at hSw); go_simp; try (with_reducible rfl)
      try simp only [Act.put, List.setIfInBounds_toArray, List.set_cons_zero, List.set_cons_succ]
      refine wpAnyH_take (i := 6) (oi := ⟨some 11, _, _, _, _, _⟩) (v := ?_) rfl (by kernel_rfl) (by kernel_rfl) (by kernel_rfl) (fun _ _ _ h => h) (Or.inl ⟨by rfl, ?_⟩) (by assumption) ?_
      rotate_left 1
      · intro w hSw; (try dsimp only at hSw); go_simp; try (with_reducible rfl)
      try simp only [Act.put, List.setIfInBounds_toArray, List.set_cons_zero, List.set_cons_succ]
      refine wpAnyH_take (i := 7) (oi := ⟨some 12, _, _, _, _, _⟩) (v := ?_) rfl (by kernel_rfl) (by kernel_rfl) (by kernel_rfl) (fun _ _ _ h => h) (Or.inl ⟨by rfl, ?_⟩) (by assumption) ?_
      rotate_left 1
      · intro w hSw; (try dsimp only at hSw); go_simp; try (with_reducible rfl)
      try simp only [Act.put, List.setIfInBounds_toArray, List.set_cons_zero, List.set_cons_succ]
      refine wpAnyH_take (i := 8) (oi := ⟨some 13, _, _, _, _, _⟩) (v := ?_) rfl (by kernel_rfl) (by kernel_rfl) (by kernel_rfl) (fun _ _ _ h => h) (Or.inl ⟨by rfl, ?_⟩) (by assumption) ?_
      rotate_left 1
      · intro w hSw; (try dsimp only at hSw); go_simp; try (with_reducible rfl)
      try simp only [Act.put, List.setIfInBounds_toArray, List.set_cons_zero, List.set_cons_succ]
      refine wpAnyH_take (i := 9) (oi := ⟨some 14, _, _, _, _, _⟩) (v := ?_) rfl (by kernel_rfl) (by kernel_rfl) (by kernel_rfl) (fun _ _ _ h => h) (Or.inl ⟨by rfl, ?_⟩) (by assumption) ?_
      rotate_left 1
      · intro w hSw; (try dsimp only at hSw); go_simp; try (with_reducible rfl)
      try simp only [Act.put, List.setIfInBounds_toArray, List.set_cons_zero, List.set_cons_succ]
      refine wpAnyH_ready (rs := [10]) (by kernel_rfl) (by simp) ?_
      refine AllReadyH.cons (o := ⟨some 15, _, _, _, _, _⟩) rfl (fun K hK => ?_) AllReadyH.nil
      go_simp
      refine (sw1 _).mono ?_
      rintro e w2 ⟨rfl, hb⟩
      go_wp2_with fail
      refine hK.out _ _ ?_ (fun hHeld2 => ?_)
      · exact ⟨cell_later hb hHeld.1, cell_later hb hHeld.2.1, cell_later hb hHeld.2.2.1, cell_later hb hHeld.2.2.2.1, cell_later hb hHeld.2.2.2.2.1, cell_later hb hHeld.2.2.2.2.2.1, cell_later hb hHeld.2.2.2.2.2.2.1, cell_later hb hHeld.2.2.2.2.2.2.2.1, cell_later hb hHeld.2.2.2.2.2.2.2.2.1, cell_later hb hHeld.2.2.2.2.2.2.2.2.2.1, cell_later hb hHeld.2.2.2.2.2.2.2.2.2.2.1, cell_later hb hHeld.2.2.2.2.2.2.2.2.2.2.2.1, cell_later hb hHeld.2.2.2.2.2.2.2.2.2.2.2.2.1, cell_later hb hHeld.2.2.2.2.2.2.2.2.2.2.2.2.2.1, cell_later hb hHeld.2.2.2.2.2.2.2.2.2.2.2.2.2.2.1, cell_later hb hHeld.2.2.2.2.2.2.2.2.2.2.2.2.2.2.2.1, hHeld.2.2.2.2.2.2.2.2.2.2.2.2.2.2.2.2.trans (hb.mono hHeld.2.2.2.2.2.2.2.2.2.2.2.2.2.2.2.2.size)⟩
      clear hK K hHeld hb
      have hHeld := hHeld2
      clear hHeld2
      try simp only [Act.put, List.setIfInBounds_toArray, List.set_cons_zero, List.set_cons_succ]
      refine wpAnyH_take (i := 11) (oi := ⟨some 16, _, _, _, _, _⟩) (v := ?_) rfl (by kernel_rfl) (by kernel_rfl) (by kernel_rfl) (fun _ _ _ h => h) (Or.inl ⟨by rfl, ?_⟩) (by assumption) ?_
      rotate_left 1
      · intro w hSw; (try dsimp only at hSw); go_simp; try (with_reducible rfl)
      try simp only [Act.put, List.setIfInBounds_toArray, List.set_cons_zero, List.set_cons_succ]
      refine wpAnyH_take (i := 12) (oi := ⟨some 17, _, _, _, _, _⟩) (v := ?_) rfl (by kernel_rfl) (by kernel_rfl) (by kernel_rfl) (fun _ _ _ h => h) (Or.inl ⟨by rfl, ?_⟩) (by assumption) ?_
      rotate_left 1
      · intro w hSw; (try dsimp only at hSw); go_simp; try (with_reducible rfl)
      try simp only [Act.put, List.setIfInBounds_toArray, List.set_cons_zero, List.set_cons_succ]
      refine wpAnyH_take (i := 13) (oi := ⟨some 18, _, _, _, _, _⟩) (v := ?_) rfl (by kernel_rfl) (by kernel_rfl) (by kernel_rfl) (fun _ _ _ h => h) (Or.inl ⟨by rfl, ?_⟩) (by assumption) ?_
      rotate_left 1
      · intro w hSw; (try dsimp only at hSw); go_simp; try (with_reducible rfl)
      try simp only [Act.put, List.setIfInBounds_toArray, List.set_cons_zero, List.set_cons_succ]
      refine wpAnyH_take (i := 14) (oi := ⟨some 19, _, _, _, _, _⟩) (v := ?_) rfl (by kernel_rfl) (by kernel_rfl) (by kernel_rfl) (fun _ _ _ h => h) (Or.inl ⟨by rfl, ?_⟩) (by assumption) ?_
      rotate_left 1
      · intro w hSw; (try dsimp only at hSw); go_simp; try (with_reducible rfl)
      try simp only [Act.put, List.setIfInBounds_toArray, List.set_cons_zero, List.set_cons_succ]
      refine wpAnyH_take (i := 15) (oi := ⟨some 20, _, _, _, _, _⟩) (v := ?_) rfl (by kernel_rfl) (by kernel_rfl) (by kernel_rfl) (fun _ _ _ h => h) (Or.inl ⟨by rfl, ?_⟩) (by assumption) ?_
      rotate_left 1
      · intro w hSw; (try dsimp only at hSw); go_simp; try (with_reducible rfl)
      try simp only [Act.put, List.setIfInBounds_toArray, List.set_cons_zero, List.set_cons_succ]
      refine wpAnyH_take (i := 16) (oi := ⟨some 21, _, _, _, _, _⟩) (v := ?_) rfl (by kernel_rfl) (by kernel_rfl) (by kernel_rfl) (fun _ _ _ h => h) (Or.inl ⟨by rfl, ?_⟩) (by assumption) ?_
      rotate_left 1
      · intro w hSw; (try dsimp only at hSw); go_simp; try (with_reducible rfl)
      try simp only [Act.put, List.setIfInBounds_toArray, List.set_cons_zero, List.set_cons_succ]
      refine wpAnyH_take (i := 17) (oi := ⟨some 22, _, _, _, _, _⟩) (v := ?_) rfl (by kernel_rfl) (by kernel_rfl) (by kernel_rfl) (fun _ _ _ h => h) (Or.inl ⟨by rfl, ?_⟩) (by assumption) ?_
      rotate_left 1
      · intro w hSw; (try dsimp only at hSw); go_simp; try (with_reducible rfl)
      try simp only [Act.put, List.setIfInBounds_toArray, List.set_cons_zero, List.set_cons_succ]
      refine wpAnyH_take (i := 18) (oi := ⟨some 23, _, _, _, _, _⟩) (v := ?_) rfl (by kernel_rfl) (by kernel_rfl) (by kernel_rfl) (fun _ _ _ h => h) (Or.inl ⟨by rfl, ?_⟩) (by assumption) ?_
      rotate_left 1
      · intro w hSw; (try dsimp only at hSw); go_simp; try (with_reducible rfl)
      try simp only [Act.put, List.setIfInBounds_toArray, List.set_cons_zero, List.set_cons_succ]
      refine wpAnyH_take (i := 19) (oi := ⟨some 24, _, _, _, _, _⟩) (v := ?_) rfl (by kernel_rfl) (by kernel_rfl) (by kernel_rfl) (fun _ _ _ h => h) (Or.inl ⟨by rfl, ?_⟩) (by assumption) ?_
      rotate_left 1
      · intro w hSw; (try dsimp only at hSw); go_simp; try (with_reducible rfl)
      try simp only [Act.put, List.setIfInBounds_toArray, List.set_cons_zero, List.set_cons_succ]
      refine wpAnyH_take (i := 20) (oi := ⟨some 25, _, _, _, _, _⟩) (v := ?_) rfl (by kernel_rfl) (by kernel_rfl) (by kernel_rfl) (fun _ _ _ h => h) (Or.inl ⟨by rfl, ?_⟩) (by assumption) ?_
      rotate_left 1
      · intro w hSw; (try dsimp only at hSw); go_simp; try (with_reducible rfl)
      try simp only [Act.put, List.setIfInBounds_toArray, List.set_cons_zero, List.set_cons_succ]
      refine wpAnyH_take (i := 21) (oi := ⟨some 26, _, _, _, _, _⟩) (v := ?_) rfl (by kernel_rfl) (by kernel_rfl) (by kernel_rfl) (fun _ _ _ h => h) (Or.inl ⟨by rfl, ?_⟩) (by assumption) ?_
      rotate_left 1
      · intro w hSw; (try dsimp only at hSw); go_simp; try (with_reducible rfl)
      try simp only [Act.put, List.setIfInBounds_toArray, List.set_cons_zero, List.set_cons_succ]
      refine wpAnyH_take (i := 22) (oi := ⟨some 27, _, _, _, _, _⟩) (v := ?_) rfl (by kernel_rfl) (by kernel_rfl) (by kernel_rfl) (fun _ _ _ h => h) (Or.inl ⟨by rfl, ?_⟩) (by assumption) ?_
      rotate_left 1
      · intro w hSw; (try dsimp only at hSw); go_simp; try (with_reducible rfl)
      try simp only [Act.put, List.setIfInBounds_toArray, List.set_cons_zero, List.set_cons_succ]
      refine wpAnyH_ready (rs := [23]) (by kernel_rfl) (by simp) ?_
      refine AllReadyH.cons (o := ⟨some 28, _, _, _, _, _⟩) rfl (fun K hK => ?_) AllReadyH.nil
      go_simp
      refine (sj _).mono ?_
      rintro e w3 ⟨rfl, hb⟩
      go_wp2_with fail
      refine hK.out _ _ ?_ (fun hHeld2 => ?_)
      · exact ⟨cell_later hb hHeld.1, cell_later hb hHeld.2.1, cell_later hb hHeld.2.2.1, cell_later hb hHeld.2.2.2.1, cell_later hb hHeld.2.2.2.2.1, cell_later hb hHeld.2.2.2.2.2.1, cell_later hb hHeld.2.2.2.2.2.2.1, cell_later hb hHeld.2.2.2.2.2.2.2.1, cell_later hb hHeld.2.2.2.2.2.2.2.2.1, cell_later hb hHeld.2.2.2.2.2.2.2.2.2.1, cell_later hb hHeld.2.2.2.2.2.2.2.2.2.2.1, cell_later hb hHeld.2.2.2.2.2.2.2.2.2.2.2.1, cell_later hb hHeld.2.2.2.2.2.2.2.2.2.2.2.2.1, cell_later hb hHeld.2.2.2.2.2.2.2.2.2.2.2.2.2.1, cell_later hb hHeld.2.2.2.2.2.2.2.2.2.2.2.2.2.2.1, cell_later hb hHeld.2.2.2.2.2.2.2.2.2.2.2.2.2.2.2.1, hHeld.2.2.2.2.2.2.2.2.2.2.2.2.2.2.2.2.trans (hb.mono hHeld.2.2.2.2.2.2.2.2.2.2.2.2.2.2.2.2.size)⟩
      clear hK K hHeld hb
      have hHeld := hHeld2
      clear hHeld2
      try simp only [Act.put, List.setIfInBounds_toArray, List.set_cons_zero, List.set_cons_succ]
      refine wpAnyH_ready (rs := [24]) (by kernel_rfl) (by simp) ?_
      refine AllReadyH.cons (o := ⟨some 29, _, _, _, _, _⟩) rfl (fun K hK => ?_) AllReadyH.nil
      go_simp
      refine (sw2 _).mono ?_
      rintro e w4 ⟨rfl, hb⟩
      go_wp2_with fail
      refine hK.out _ _ ?_ (fun hHeld2 => ?_)
      · exact ⟨cell_later hb hHeld.1, cell_later hb hHeld.2.1, cell_later hb hHeld.2.2.1, cell_later hb hHeld.2.2.2.1, cell_later hb hHeld.2.2.2.2.1, cell_later hb hHeld.2.2.2.2.2.1, cell_later hb hHeld.2.2.2.2.2.2.1, cell_later hb hHeld.2.2.2.2.2.2.2.1, cell_later hb hHeld.2.2.2.2.2.2.2.2.1, cell_later hb hHeld.2.2.2.2.2.2.2.2.2.1, cell_later hb hHeld.2.2.2.2.2.2.2.2.2.2.1, cell_later hb hHeld.2.2.2.2.2.2.2.2.2.2.2.1, cell_later hb hHeld.2.2.2.2.2.2.2.2.2.2.2.2.1, cell_later hb hHeld.2.2.2.2.2.2.2.2.2.2.2.2.2.1, cell_later hb hHeld.2.2.2.2.2.2.2.2.2.2.2.2.2.2.1, cell_later hb hHeld.2.2.2.2.2.2.2.2.2.2.2.2.2.2.2.1, hHeld.2.2.2.2.2.2.2.2.2.2.2.2.2.2.2.2.trans (hb.mono hHeld.2.2.2.2.2.2.2.2.2.2.2.2.2.2.2.2.size)⟩
      clear hK K hHeld hb
      have hHeld := hHeld2
      clear hHeld2
      try simp only [Act.put, List.setIfInBounds_toArray, List.set_cons_zero, List.set_cons_succ]
      refine wpAnyH_take (i := 25) (oi := ⟨some 30, _, _, _, _, _⟩) (v := ?_) rfl (by kernel_rfl) (by kernel_rfl) (by kernel_rfl) (fun _ _ _ h => h) (Or.inl ⟨by rfl, ?_⟩) (by assumption) ?_
      rotate_left 1
      · intro w hSw; (try dsimp only at hSw); go_simp; try (with_reducible rfl)
      try simp only [Act.put, List.setIfInBounds_toArray, List.set_cons_zero, List.set_cons_succ]
      refine wpAnyH_take (i := 26) (oi := ⟨some 4, _, _, _, _, _⟩) (v := ?_) rfl (by kernel_rfl) (by kernel_rfl) (by kernel_rfl) (fun _ _ _ h => h) (Or.inl ⟨by rfl, ?_⟩) (by assumption) ?_
      rotate_left 1
      · intro w hSw; (try dsimp only at hSw); go_simp; try (with_reducible rfl)
      try simp only [Act.put, List.setIfInBounds_toArray, List.set_cons_zero, List.set_cons_succ]
      refine wpAnyH_done (by kernel_rfl) ?_ _
      try simp only [Act.put, List.setIfInBounds_toArray, List.set_cons_zero, List.set_cons_succ]
      have D2 := Lib.hid (bstep D1.out hHeld.2.2.2.2.2.2.2.2.2.2.2.2.2.2.2.2)
      clear hHeld D1
      go_wp2_with fail
      go_ret
      exact ⟨⟨q2, rfl, ⟨fun h => ⟨rfl, fun hh => (nomatch (hqq.out.1.2 hh)), hqq.out.2.1 h⟩, fun h => hqq.out.2.2 h.2.2⟩⟩, D2.out⟩
end Go.Proofs.Ytbklkhndjckckaa
