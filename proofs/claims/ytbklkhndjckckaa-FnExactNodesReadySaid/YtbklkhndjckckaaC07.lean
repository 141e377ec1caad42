/- Texts laid together. -/
import Derived.Test.YtbklkhndjckckaaC05
import Derived.Test.YtbklkhndjckckaaC04
import Derived.Test.YtbklkhndjckckaaC03
import Derived.Deep.RegionHeld3
import Derived.Test.YtbklkhndjckckaaC06
import Derived.Test.YtbklkhndjckckaaC02
import Derived.Deep.AppendSrc
import Derived.Deep.RegionWith
import Derived.Test.YtbklkhndjckckaaC01
/- The program's has. -/
namespace Go.Proofs.Ytbklkhndjckckaa
open Go.RowKit
set_option linter.unusedVariables false

theorem cast_div (m n : Nat) : (m : Int) / 2 ^ n = ((m / 2 ^ n : Nat) : Int) := by rw [Int.natCast_ediv, Int.natCast_pow]; rfl
theorem bit_and (m n : Nat) (h : m < 2251799813685248) : bits .and .u64 ((m : Int) / 2 ^ n) 1 = (((m / 2 ^ n) % 2 : Nat) : Int) := by
  have e := cast_div m n
  have hd : m / 2 ^ n ≤ m := Nat.div_le_self _ _
  have := bits_and_u64_nat (m / 2 ^ n) 1 (by omega) (by omega)
  rw [e]
  rw [Nat.and_one_is_mod] at this
  exact this

set_option maxRecDepth 100000 in
set_option maxHeartbeats 2000000 in
theorem has_any (f : Nat → Nat) (P : Pid → Prop) (x y : Int) (w : World) (hb : Bits f P) :
    Calls Try.prog 62 #[setV f, .agg #[.int .i64 x, .int .i64 y]] w fun e w' => (∃ q, e = .returned (.bool q) ∧ (q = true ↔ P (x, y))) ∧ Below w.heap.size w w' := by
  have iv := fun w => ivid_any x y w
  have D := ((Below.refl w.heap.size w).alloc (Nat.le_refl _) (.cells #[.int .u64 (f 0), .int .u64 (f 1), .int .u64 (f 2), .int .u64 (f 3), .int .u64 (f 4)] 56)).alloc (by simp) (.cells #[.int .i64 x, .int .i64 y] 31)
  unfold setV
  by_cases hok : idB x y = true
  · obtain ⟨pr, nr, he, hpr, hnr⟩ := ok_nat (a := (x, y)) hok
    obtain ⟨rfl, rfl⟩ := Prod.mk.inj he
    rw [hok] at iv
    have hS : Set5 (w.alloc (.cells #[.int .u64 (f 0), .int .u64 (f 1), .int .u64 (f 2), .int .u64 (f 3), .int .u64 (f 4)] 56)) w.heap.size f := heap_alloc_new w _
    have hS : Set5 ((w.alloc (.cells #[.int .u64 (f 0), .int .u64 (f 1), .int .u64 (f 2), .int .u64 (f 3), .int .u64 (f 4)] 56)).alloc (.cells #[.int .i64 pr, .int .i64 nr] 31)) w.heap.size f := (Below.heap_alloc _ _ _ (by simp)).trans hS
    have c0 := hS.cell hpr
    have hI := heap_alloc_at (w.alloc (.cells #[.int .u64 (f 0), .int .u64 (f 1), .int .u64 (f 2), .int .u64 (f 3), .int .u64 (f 4)] 56)) (.cells #[.int .i64 (pr : Int), .int .i64 (nr : Int)] 31) (w.heap.size + 1) (by simp)
    obtain ⟨b0, b1, _, _⟩ := blk2 hI
    have hm : f pr < 2251799813685248 := hb.lt hpr
    have ba := bit_and (f pr) nr hm
    have hbit : Hid ((f pr).testBit nr = true ↔ P ((pr : Int), (nr : Int))) := Lib.hid (hb.bit pr nr hpr)
    have i5 : (pr : Int) < 5 := by omega
    have n64 : (nr : Int) ≤ 64 := by omega
    have nn : (nr : Int).toNat = nr := by omega
    clear hok he hb hS hI
    go_enter Try.func62, Try.ntmps62
    go_upto_region 1 with fail
    obtain ⟨W, hW⟩ : ∃ W, (w.alloc (.cells #[.int .u64 (f 0), .int .u64 (f 1), .int .u64 (f 2), .int .u64 (f 3), .int .u64 (f 4)] 56)).alloc (.cells #[.int .i64 (pr : Int), .int .i64 (nr : Int)] 31) = W := ⟨_, rfl⟩
    rw [hW] at c0 b0 b1 D ⊢
    have D := Lib.hid D
    clear hW
    refine wp_region_held_drew (S := fun w' => w'.cell? ⟨w.heap.size + 1, 0, none⟩ = some (.int .i64 pr) ∧ w'.cell? ⟨w.heap.size + 1, 1, none⟩ = some (.int .i64 nr) ∧ w'.cell? ⟨w.heap.size, pr, none⟩ = some (.int .u64 (f pr)) ∧ Below W.heap.size W w') (by kernel_rfl) ⟨b0, b1, c0, Below.drew (Below.refl _ _)⟩ (fun hHeld => ?_)
    refine wpAnyH_take (i := 0) (oi := ⟨some 5, _, _, _, _, _⟩) (v := ?_) rfl (by kernel_rfl) (by kernel_rfl) (by kernel_rfl) (fun _ _ _ h => h) (Or.inl ⟨by rfl, ?_⟩) (by assumption) ?_
    rotate_left 1
    · intro w hSw; (try dsimp only at hSw); go_simp; try (with_reducible rfl)
    try simp only [Act.put, List.setIfInBounds_toArray, List.set_cons_zero, List.set_cons_succ]
    refine wpAnyH_ready (rs := [1]) (by kernel_rfl) (by simp) ?_
    refine AllReadyH.cons (o := ⟨some 6, _, _, _, _, _⟩) rfl (fun K hK => ?_) AllReadyH.nil
    go_simp
    refine (iv _).mono ?_
    rintro e w1 ⟨rfl, hb⟩
    go_wp2_with fail
    refine hK.out _ _ ?_ (fun hHeld2 => ?_)
    · exact ⟨cell_later hb hHeld.1, cell_later hb hHeld.2.1, cell_later hb hHeld.2.2.1, hHeld.2.2.2.trans (hb.mono hHeld.2.2.2.size)⟩
    clear hK K hHeld hb
    have hHeld := hHeld2
    clear hHeld2
    try simp only [Act.put, List.setIfInBounds_toArray, List.set_cons_zero, List.set_cons_succ]
    refine wpAnyH_take (i := 2) (oi := ⟨some 7, _, _, _, _, _⟩) (v := ?_) rfl (by kernel_rfl) (by kernel_rfl) (by kernel_rfl) (fun _ _ _ h => h) (Or.inl ⟨by rfl, ?_⟩) (by assumption) ?_
    rotate_left 1
    · intro w hSw; (try dsimp only at hSw); go_simp; try (with_reducible rfl)
    try simp only [Act.put, List.setIfInBounds_toArray, List.set_cons_zero, List.set_cons_succ]
    refine wpAnyH_take (i := 3) (oi := ⟨some 8, _, _, _, _, _⟩) (v := ?_) rfl (by kernel_rfl) (by kernel_rfl) (by kernel_rfl) (fun _ _ _ h => h) (Or.inl ⟨by rfl, ?_⟩) (by assumption) ?_
    rotate_left 1
    · intro w hSw; (try dsimp only at hSw); go_simp; try (with_reducible rfl)
    try simp only [Act.put, List.setIfInBounds_toArray, List.set_cons_zero, List.set_cons_succ]
    refine wpAnyH_take (i := 4) (oi := ⟨some 9, _, _, _, _, _⟩) (v := ?_) rfl (by kernel_rfl) (by kernel_rfl) (by kernel_rfl) (fun _ _ _ h => h) (Or.inl ⟨by rfl, ?_⟩) (by assumption) ?_
    rotate_left 1
    · intro w hSw; (try dsimp only at hSw); go_simp; try (with_reducible rfl)
    try simp only [Act.put, List.setIfInBounds_toArray, List.set_cons_zero, List.set_cons_succ]
    refine wpAnyH_take (i := 5) (oi := ⟨some 10, _, _, _, _, _⟩) (v := ?_) rfl (by kernel_rfl) (by kernel_rfl) (by kernel_rfl) (fun _ _ _ h => h) (Or.inl ⟨by rfl, ?_⟩) (by assumption) ?_
    rotate_left 1
    · intro w hSw; (try dsimp only at hSw); go_simp; try (with_reducible rfl)
    try simp only [Act.put, List.setIfInBounds_toArray, List.set_cons_zero, List.set_cons_succ]
    refine wpAnyH_take (i := 6) (oi := ⟨some 11, _, _, _, _, _⟩) (v := ?_) rfl (by kernel_rfl) (by kernel_rfl) (by kernel_rfl) (fun _ _ _ h => h) (Or.inl ⟨by rfl, ?_⟩) (by assumption) ?_
    rotate_left 1
    · intro w hSw; (try dsimp only at hSw); go_simp; try (with_reducible rfl)
    try simp only [Act.put, List.setIfInBounds_toArray, List.set_cons_zero, List.set_cons_succ]
    refine wpAnyH_take (i := 7) (oi := ⟨some 12, _, _, _, _, _⟩) (v := ?_) rfl (by kernel_rfl) (by kernel_rfl) (by kernel_rfl) (fun _ _ _ h => h) (Or.inl ⟨by rfl, ?_⟩) (by assumption) ?_
    rotate_left 1
    · intro w hSw; (try dsimp only at hSw); go_simp; try (with_reducible rfl)
    try simp only [Act.put, List.setIfInBounds_toArray, List.set_cons_zero, List.set_cons_succ]
    refine wpAnyH_take (i := 8) (oi := ⟨some 13, _, _, _, _, _⟩) (v := ?_) rfl (by kernel_rfl) (by kernel_rfl) (by kernel_rfl) (fun _ _ _ h => h) (Or.inl ⟨by rfl, ?_⟩) (by assumption) ?_
    rotate_left 1
    · intro w hSw; (try dsimp only at hSw); go_simp; try (with_reducible rfl)
    try simp only [Act.put, List.setIfInBounds_toArray, List.set_cons_zero, List.set_cons_succ]
    refine wpAnyH_take (i := 9) (oi := ⟨some 14, _, _, _, _, _⟩) (v := ?_) rfl (by kernel_rfl) (by kernel_rfl) (by kernel_rfl) (fun _ _ _ h => h) (Or.inl ⟨by rfl, ?_⟩) (by assumption) ?_
    rotate_left 1
    · intro w hSw; (try dsimp only at hSw); go_simp; try (with_reducible rfl)
    try simp only [Act.put, List.setIfInBounds_toArray, List.set_cons_zero, List.set_cons_succ]
    refine wpAnyH_take (i := 10) (oi := ⟨some 15, _, _, _, _, _⟩) (v := ?_) rfl (by kernel_rfl) (by kernel_rfl) (by kernel_rfl) (fun _ _ _ h => h) (Or.inl ⟨by rfl, ?_⟩) (by assumption) ?_
    rotate_left 1
    · intro w hSw; (try dsimp only at hSw); go_simp; try (with_reducible rfl)
    try simp only [Act.put, List.setIfInBounds_toArray, List.set_cons_zero, List.set_cons_succ]
    refine wpAnyH_take (i := 11) (oi := ⟨some 16, _, _, _, _, _⟩) (v := ?_) rfl (by kernel_rfl) (by kernel_rfl) (by kernel_rfl) (fun _ _ _ h => h) (Or.inl ⟨by rfl, ?_⟩) (by assumption) ?_
    rotate_left 1
    · intro w hSw; (try dsimp only at hSw); go_simp; try (with_reducible rfl)
    try simp only [Act.put, List.setIfInBounds_toArray, List.set_cons_zero, List.set_cons_succ]
    refine wpAnyH_take (i := 12) (oi := ⟨some 17, _, _, _, _, _⟩) (v := ?_) rfl (by kernel_rfl) (by kernel_rfl) (by kernel_rfl) (fun _ _ _ h => h) (Or.inl ⟨by rfl, ?_⟩) (by assumption) ?_
    rotate_left 1
    · intro w hSw; (try dsimp only at hSw); go_simp; try (with_reducible rfl)
    try simp only [Act.put, List.setIfInBounds_toArray, List.set_cons_zero, List.set_cons_succ]
    refine wpAnyH_take (i := 13) (oi := ⟨some 4, _, _, _, _, _⟩) (v := ?_) rfl (by kernel_rfl) (by kernel_rfl) (by kernel_rfl) (fun _ _ _ h => h) (Or.inl ⟨by rfl, ?_⟩) (by assumption) ?_
    rotate_left 1
    · intro w hSw; (try dsimp only at hSw); go_simp; try (with_reducible rfl)
    try simp only [Act.put, List.setIfInBounds_toArray, List.set_cons_zero, List.set_cons_succ]
    refine wpAnyH_done (by kernel_rfl) ?_ _
    try simp only [Act.put, List.setIfInBounds_toArray, List.set_cons_zero, List.set_cons_succ]
    have D1 := Lib.hid (bstep D.out hHeld.2.2.2)
    clear hHeld D
    go_wp2_with fail
    go_ret
    refine ⟨⟨_, rfl, ?_⟩, D1.out⟩
    rw [← hbit.out, Nat.testBit_eq_decide_div_mod_eq]
    simp only [decide_eq_true_eq]
    obtain ⟨z, hz⟩ : ∃ z : Nat, f pr / 2 ^ nr = z := ⟨_, rfl⟩
    have e : ((f pr : Nat) : Int) / 2 ^ nr = (z : Int) := by rw [← hz]; exact cast_div _ _
    rw [e, hz]
    clear e hz ba
    rw [beq_iff_eq]
    omega
  · have hn : ¬ P (x, y) := fun hp => hok (hb.ok _ hp)
    rw [show idB x y = false by simpa using hok] at iv
    have hI := heap_alloc_at (w.alloc (.cells #[.int .u64 (f 0), .int .u64 (f 1), .int .u64 (f 2), .int .u64 (f 3), .int .u64 (f 4)] 56)) (.cells #[.int .i64 x, .int .i64 y] 31) (w.heap.size + 1) (by simp)
    obtain ⟨b0, b1, _, _⟩ := blk2 hI
    clear hb hok hI
    go_enter Try.func62, Try.ntmps62
    go_upto_region 1 with fail
    obtain ⟨W, hW⟩ : ∃ W, (w.alloc (.cells #[.int .u64 (f 0), .int .u64 (f 1), .int .u64 (f 2), .int .u64 (f 3), .int .u64 (f 4)] 56)).alloc (.cells #[.int .i64 x, .int .i64 y] 31) = W := ⟨_, rfl⟩
    rw [hW] at b0 b1 D ⊢
    have D := Lib.hid D
    clear hW
    refine wp_region_held_drew (S := fun w' => w'.cell? ⟨w.heap.size + 1, 0, none⟩ = some (.int .i64 x) ∧ w'.cell? ⟨w.heap.size + 1, 1, none⟩ = some (.int .i64 y) ∧ Below W.heap.size W w') (by kernel_rfl) ⟨b0, b1, Below.drew (Below.refl _ _)⟩ (fun hHeld => ?_)
    refine wpAnyH_take (i := 0) (oi := ⟨some 5, _, _, _, _, _⟩) (v := ?_) rfl (by kernel_rfl) (by kernel_rfl) (by kernel_rfl) (fun _ _ _ h => h) (Or.inl ⟨by rfl, ?_⟩) (by assumption) ?_
    rotate_left 1
    · intro w hSw; (try dsimp only at hSw); go_simp; try (with_reducible rfl)
    try simp only [Act.put, List.setIfInBounds_toArray, List.set_cons_zero, List.set_cons_succ]
    refine wpAnyH_ready (rs := [1]) (by kernel_rfl) (by simp) ?_
    refine AllReadyH.cons (o := ⟨some 6, _, _, _, _, _⟩) rfl (fun K hK => ?_) AllReadyH.nil
    go_simp
    refine (iv _).mono ?_
    rintro e w1 ⟨rfl, hb⟩
    go_wp2_with fail
    refine hK.out _ _ ?_ (fun hHeld2 => ?_)
    · exact ⟨cell_later hb hHeld.1, cell_later hb hHeld.2.1, hHeld.2.2.trans (hb.mono hHeld.2.2.size)⟩
    clear hK K hHeld hb
    have hHeld := hHeld2
    clear hHeld2
    try simp only [Act.put, List.setIfInBounds_toArray, List.set_cons_zero, List.set_cons_succ]
    refine wpAnyH_take (i := 2) (oi := ⟨some 7, _, _, _, _, _⟩) (v := ?_) rfl (by kernel_rfl) (by kernel_rfl) (by kernel_rfl) (fun _ _ _ h => h) (Or.inl ⟨by rfl, ?_⟩) (by assumption) ?_
    rotate_left 1
    · intro w hSw; (try dsimp only at hSw); go_simp; try (with_reducible rfl)
    try simp only [Act.put, List.setIfInBounds_toArray, List.set_cons_zero, List.set_cons_succ]
    refine wpAnyH_take (i := 3) (oi := ⟨some 8, _, _, _, _, _⟩) (v := undef) rfl (by kernel_rfl) (by kernel_rfl) (by kernel_rfl) (fun _ _ _ h => h) (Or.inr ⟨by rfl, rfl⟩) (by assumption) ?_
    try simp only [Act.put, List.setIfInBounds_toArray, List.set_cons_zero, List.set_cons_succ]
    refine wpAnyH_take (i := 4) (oi := ⟨some 9, _, _, _, _, _⟩) (v := undef) rfl (by kernel_rfl) (by kernel_rfl) (by kernel_rfl) (fun _ _ _ h => h) (Or.inr ⟨by rfl, rfl⟩) (by assumption) ?_
    try simp only [Act.put, List.setIfInBounds_toArray, List.set_cons_zero, List.set_cons_succ]
    refine wpAnyH_take (i := 5) (oi := ⟨some 10, _, _, _, _, _⟩) (v := undef) rfl (by kernel_rfl) (by kernel_rfl) (by kernel_rfl) (fun _ _ _ h => h) (Or.inr ⟨by rfl, rfl⟩) (by assumption) ?_
    try simp only [Act.put, List.setIfInBounds_toArray, List.set_cons_zero, List.set_cons_succ]
    refine wpAnyH_take (i := 6) (oi := ⟨some 11, _, _, _, _, _⟩) (v := undef) rfl (by kernel_rfl) (by kernel_rfl) (by kernel_rfl) (fun _ _ _ h => h) (Or.inr ⟨by rfl, rfl⟩) (by assumption) ?_
    try simp only [Act.put, List.setIfInBounds_toArray, List.set_cons_zero, List.set_cons_succ]
    refine wpAnyH_take (i := 7) (oi := ⟨some 12, _, _, _, _, _⟩) (v := undef) rfl (by kernel_rfl) (by kernel_rfl) (by kernel_rfl) (fun _ _ _ h => h) (Or.inr ⟨by rfl, rfl⟩) (by assumption) ?_
    try simp only [Act.put, List.setIfInBounds_toArray, List.set_cons_zero, List.set_cons_succ]
    refine wpAnyH_take (i := 8) (oi := ⟨some 13, _, _, _, _, _⟩) (v := undef) rfl (by kernel_rfl) (by kernel_rfl) (by kernel_rfl) (fun _ _ _ h => h) (Or.inr ⟨by rfl, rfl⟩) (by assumption) ?_
    try simp only [Act.put, List.setIfInBounds_toArray, List.set_cons_zero, List.set_cons_succ]
    refine wpAnyH_take (i := 9) (oi := ⟨some 14, _, _, _, _, _⟩) (v := undef) rfl (by kernel_rfl) (by kernel_rfl) (by kernel_rfl) (fun _ _ _ h => h) (Or.inr ⟨by rfl, rfl⟩) (by assumption) ?_
    try simp only [Act.put, List.setIfInBounds_toArray, List.set_cons_zero, List.set_cons_succ]
    refine wpAnyH_take (i := 10) (oi := ⟨some 15, _, _, _, _, _⟩) (v := undef) rfl (by kernel_rfl) (by kernel_rfl) (by kernel_rfl) (fun _ _ _ h => h) (Or.inr ⟨by rfl, rfl⟩) (by assumption) ?_
    try simp only [Act.put, List.setIfInBounds_toArray, List.set_cons_zero, List.set_cons_succ]
    refine wpAnyH_take (i := 11) (oi := ⟨some 16, _, _, _, _, _⟩) (v := undef) rfl (by kernel_rfl) (by kernel_rfl) (by kernel_rfl) (fun _ _ _ h => h) (Or.inr ⟨by rfl, rfl⟩) (by assumption) ?_
    try simp only [Act.put, List.setIfInBounds_toArray, List.set_cons_zero, List.set_cons_succ]
    refine wpAnyH_take (i := 12) (oi := ⟨some 17, _, _, _, _, _⟩) (v := ?_) rfl (by kernel_rfl) (by kernel_rfl) (by kernel_rfl) (fun _ _ _ h => h) (Or.inl ⟨by rfl, ?_⟩) (by assumption) ?_
    rotate_left 1
    · intro w hSw; (try dsimp only at hSw); go_simp; try (with_reducible rfl)
    try simp only [Act.put, List.setIfInBounds_toArray, List.set_cons_zero, List.set_cons_succ]
    refine wpAnyH_take (i := 13) (oi := ⟨some 4, _, _, _, _, _⟩) (v := ?_) rfl (by kernel_rfl) (by kernel_rfl) (by kernel_rfl) (fun _ _ _ h => h) (Or.inl ⟨by rfl, ?_⟩) (by assumption) ?_
    rotate_left 1
    · intro w hSw; (try dsimp only at hSw); go_simp; try (with_reducible rfl)
    try simp only [Act.put, List.setIfInBounds_toArray, List.set_cons_zero, List.set_cons_succ]
    refine wpAnyH_done (by kernel_rfl) ?_ _
    try simp only [Act.put, List.setIfInBounds_toArray, List.set_cons_zero, List.set_cons_succ]
    have D1 := Lib.hid (bstep D.out hHeld.2.2)
    clear hHeld D
    go_wp2_with fail
    go_ret
    exact ⟨⟨_, rfl, by simpa using hn⟩, D1.out⟩
end Go.Proofs.Ytbklkhndjckckaa

/- The program's groupWith. -/
namespace Go.Proofs.Ytbklkhndjckckaa
open Go.RowKit
set_option linter.unusedVariables false

/-- A group, as its bits: what is asked of one node. -/
structure Gw (w : World) (gb : Nat) (N : List Nd) (a : Pid) (f r : Nat → Nat) (rd : Bool) : Prop where
  gb : ∃ mv, Gb w gb mv f r rd
  ids : Bits f (fun x => x ∈ groupR N a)
  rch : Bits r (fun x => x ∈ reachR N a)
  rdy : rd = readyR N a

theorem gw_of {w : World} {gb : Nat} {N : List Nd} {i : Nat} {f r : Nat → Nat} {rd : Bool} {mv : Value} (hv : nodB N = true) (hi : i < N.length) {a : Pid} (ha : a ∈ idsN N) (hG : Gb w gb mv f r rd) {Q : List Nat} (hM : GM N i Q f r rd) (hm : Sc (EI N) (N.getD i nd0).id a) : Gw w gb N a f r rd := by
  obtain ⟨j, hj, rfl⟩ := mem_idsN.1 ha
  have h := hM.move ((sc_iff hv hi hj).2 hm) hv hi hj
  refine ⟨⟨mv, hG⟩, h.ids.ext fun x => ?_, h.rch.ext fun x => ?_, ?_⟩
  · rw [mem_groupR]; exact ⟨fun hh => ⟨hv, ha, hh⟩, fun hh => hh.2.2⟩
  · rw [mem_reachR]; exact ⟨fun hh => ⟨hv, hh⟩, fun hh => hh.2⟩
  · exact Bool.eq_iff_iff.2 ⟨fun hr => readyR_iff.2 ⟨hv, ha, h.rdy.1 hr⟩, fun hq => h.rdy.2 (readyR_iff.1 hq).2.2⟩
theorem bits_same {f f' : Nat → Nat} {P P' : Pid → Prop} (h : Bits f P) (h' : Bits f' P') (e : ∀ k, k < 5 → f k = f' k) {x : Pid} (hx : P x) : P' x := by
  obtain ⟨pr, nr, rfl, hpr, _⟩ := ok_nat (h.ok x hx)
  rw [← h'.bit pr nr hpr, ← e pr hpr, h.bit pr nr hpr]; exact hx
theorem gb_same {w : World} {gb : Nat} {mv mv' : Value} {f f' r r' : Nat → Nat} {rd rd' : Bool} (h : Gb w gb mv f r rd) (h' : Gb w gb mv' f' r' rd') : ∀ k, k < 5 → f k = f' k := by
  intro k hk
  have := (h.cf hk).symm.trans (h'.cf hk)
  simp only [Option.some.injEq, Value.int.injEq, true_and] at this
  exact Int.ofNat.inj this
theorem gw_none {w : World} {gb : Nat} {N : List Nd} {a : Pid} {mv : Value} (h : ¬ (nodB N = true ∧ a ∈ idsN N)) (hG : Gb w gb mv (fun _ => 0) (fun _ => 0) false) : Gw w gb N a (fun _ => 0) (fun _ => 0) false := by
  refine ⟨⟨mv, hG⟩, Bits.zero.ext fun x => ⟨fun hh => hh.elim, fun hh => h ⟨(mem_groupR.1 hh).1, (mem_groupR.1 hh).2.1⟩⟩, Bits.zero.ext fun x => ⟨fun hh => hh.elim, fun hh => h ⟨(mem_reachR.1 hh).1, rp_l (mem_reachR.1 hh).2⟩⟩, ?_⟩
  cases hq : readyR N a with
  | false => rfl
  | true => exact absurd ⟨(readyR_iff.1 hq).1, (readyR_iff.1 hq).2.1⟩ h

/-- What groupWith leaves. -/
def GwP (N : List Nd) (a : Pid) (w : World) (e : Ending) (w' : World) : Prop := ∃ gb f r rd, e = .returned (.pointer (some ⟨gb, 0, none⟩)) ∧ Gw w' gb N a f r rd ∧ Below w.heap.size w w'

set_option maxRecDepth 100000 in
set_option maxHeartbeats 4000000 in
theorem gwith_any (u : Value) (N : List Nd) (x y : Int) (w : World) (h : Nds w u N) :
    Calls Try.prog 44 #[u, .agg #[.int .i64 x, .int .i64 y]] w (GwP N (x, y) w) := by
  have D0 := (Below.refl w.heap.size w).alloc (Nat.le_refl _) (.cells #[.int .i64 x, .int .i64 y] 31)
  have gr := groups_any u N _ (h.up D0 (Nat.le_refl _))
  have hI := Lib.hid (heap_alloc_new w (.cells #[.int .i64 x, .int .i64 y] 31))
  have D0 := Lib.hid D0
  clear h
  go_enter Try.func44, Try.ntmps44
  go_wp2_with fail
  refine gr.mono ?_
  rintro e w1 ⟨gs, gv, U, rfl, hrow, hgl, B, hno, hyes⟩
  have D1 := Lib.hid (bstep D0.out B)
  have hI := Lib.hid (bblk (b := w.heap.size) B (by simp) hI.out)
  have hrow := Lib.hid hrow
  have hno := Lib.hid hno
  have hyes := Lib.hid hyes
  obtain ⟨ga, gc, rfl⟩ := row_shape hrow.out
  clear B gr D0
  go_wp2_with fail
  obtain ⟨n, hn⟩ : ∃ n, Hid (gs.length = n) := ⟨_, Lib.hid rfl⟩
  rw [hn.out] at hgl ⊢
  go_loopw [10] (fun i wr => ∃ k : Nat, k ≤ n ∧ i = .int .i64 k ∧ Hid (∀ j, j < k → ∀ i, i < N.length → Grp w1 (gs.getD j 0) N U i → ¬ Sc (EI N) (N.getD i nd0).id (x, y)) ∧ Below w1.heap.size w1 wr) (fun i _ => n - (intOf i).toNat)
  case atStart => exact ⟨0, Nat.zero_le _, rfl, Lib.hid fun j hj => absurd hj (Nat.not_lt_zero _), Below.refl _ _⟩
  case round =>
    obtain ⟨k, hk, rfl, hd, hB⟩ := hrel
    by_cases hlt : k < n
    · have hv : nodB N = true := by
        cases hq : nodB N with
        | true => rfl
        | false => have := hno.out hq; rw [this] at hn; have := hn.out; simp at this; omega
      have hkl : k < gs.length := by rw [hn.out]; exact hlt
      obtain ⟨g4, c4, hge⟩ := own_some hrow.out (by omega)
      have c0 : w1.cell? ⟨g4, k, none⟩ = some (pv (gs.getD k 0)) := by
        have := hrow.out.cells (g := g4) (by rw [hge]; rfl) k (pv (gs.getD k 0)) (by rw [List.getElem?_map, List.getD_eq_getElem?_getD, List.getElem?_eq_getElem hkl]; rfl)
        rw [Addr.add_lit, Nat.zero_add] at this; exact this
      injection hge with hge _ hge3
      subst hge
      subst hge3
      have hbm : gs.getD k 0 ∈ gs := getD_memN hkl
      obtain ⟨i, hi, hG⟩ := (hyes.out hv).2 _ hbm
      obtain ⟨mb, mc, Q, f, r, rd, hG⟩ := hG
      obtain ⟨b, hb⟩ : ∃ b, Hid (gs.getD k 0 = b) := ⟨_, Lib.hid rfl⟩
      rw [hb.out] at c0 hG
      unfold pv at c0
      have c0 := (hB.cell (p := ⟨g4, k, none⟩) (World.block_lt_of_cell? _ _ c0)).trans c0
      have hg4 := World.block_lt_of_cell? _ _ c0
      have hGw := Lib.hid (hG.gb.same (hB.block b hG.gb.lt))
      have hG := Lib.hid hG
      obtain ⟨z1, z2, z3, z4, z5⟩ := hGw.out.fs
      obtain ⟨b0, b1, _, _⟩ := blk2 ((hB.block w.heap.size (lt_of_heap hI.out)).trans hI.out)
      have hs := fun W => has_any f _ x y W hG.out.gm.ids
      unfold setV at hs
      have hgl := hGw.out.lt
      have hil : w.heap.size < wr.heap.size := Nat.lt_of_lt_of_le (lt_of_heap hI.out) hB.size
      have hB := Lib.hid hB
      dsimp only at hg4
      go_wp2_with fail
      go_region_with (go_at_call 62; (with_reducible refine (hs _).mono ?_); rintro e w2 ⟨⟨q, rfl, hq⟩, B⟩; have D2 := Lib.hid (bstep (Below.drew hB.out) B); have hGw := Lib.hid (hGw.out.same ((B.block b hgl).trans rfl)); have hq := Lib.hid hq; clear B hB)
      all_goals
        cases q with
        | true =>
          have hm := hq.out.1 rfl
          have hx : (x, y) ∈ idsN N := sc_in hm (List.mem_map_of_mem (getD_mem hi))
          have R := Lib.hid (gw_of hv hi hx hGw.out hG.out.gm hm)
          clear hm hx hGw
          go_wp2_with fail
          go_ret
          exact ⟨b, f, r, rd, rfl, R.out, bstep D1.out D2.out⟩
        | false =>
          have hm : ¬ Sc (EI N) (N.getD i nd0).id (x, y) := fun h => nomatch (hq.out.2 h)
          have R := Lib.hid (up_to hd.out (fun i' hi' hG' => by
            rw [hb.out] at hG'
            obtain ⟨mb', mc', Q', f', r', rd', hG'⟩ := hG'
            exact fun h => hm (bits_same hG'.gm.ids hG.out.gm.ids (gb_same hG'.gb hG.out.gb) h)))
          clear hGw hm
          go_wp2_with fail
          go_roundw
          case rel => exact ⟨k + 1, by omega, by go_num, R, D2.out⟩
          case measure => simp [intOf]; omega
    · obtain rfl : k = n := by omega
      have hB := Lib.hid hB
      go_wp2_with fail
      go_ret
      refine ⟨wr.heap.size, fun _ => 0, fun _ => 0, false, rfl, gw_none ?_ (mv := .slice none 0 0) ?_, bstep D1.out (hB.out.alloc hB.out.size _)⟩
      · rintro ⟨hv, hx⟩
        obtain ⟨i, hi, he⟩ := mem_idsN.1 hx
        obtain ⟨b, hb, hG⟩ := (hyes.out hv).1 i hi
        obtain ⟨j, hj, rfl⟩ := List.mem_iff_getElem.1 hb
        refine hd.out j (by rw [← hn.out]; exact hj) i hi ?_ (by rw [he]; exact .refl _)
        rw [List.getD_eq_getElem?_getD, List.getElem?_eq_getElem hj]; exact hG
      · exact ⟨_, heap_alloc_new wr _, rfl, rfl, fun k hk => by rcases (show k = 0 ∨ k = 1 ∨ k = 2 ∨ k = 3 ∨ k = 4 by omega) with rfl | rfl | rfl | rfl | rfl <;> rfl, fun k hk => by rcases (show k = 0 ∨ k = 1 ∨ k = 2 ∨ k = 3 ∨ k = 4 by omega) with rfl | rfl | rfl | rfl | rfl <;> rfl, rfl⟩
end Go.Proofs.Ytbklkhndjckckaa

/- The program's NodesReady. -/
namespace Go.Proofs.Ytbklkhndjckckaa
open Go.RowKit
set_option linter.unusedVariables false

set_option maxRecDepth 100000 in
theorem iready_any (u : Value) (N : List Nd) (x y : Int) (w : World) (h : Nds w u N) :
    Calls Try.prog 15 #[u, .agg #[.int .i64 x, .int .i64 y]] w fun e w' => e = .returned (.bool (readyR N (x, y))) ∧ Below w.heap.size w w' := by
  have D0 := (Below.refl w.heap.size w).alloc (Nat.le_refl _) (.cells #[.int .i64 x, .int .i64 y] 31)
  have gr := gwith_any u N x y _ (h.up D0 (Nat.le_refl _))
  have D0 := Lib.hid D0
  clear h
  go_enter Try.func15, Try.ntmps15
  go_wp2_with fail
  refine gr.mono ?_
  rintro e w1 ⟨gb, f, r, rd, rfl, hG, B⟩
  obtain ⟨mv, hb⟩ := hG.gb
  have c11 := hb.c11
  have hl := hb.lt
  have hr := Lib.hid hG.rdy
  have D1 := Lib.hid (bstep D0.out B)
  clear gr B hG hb D0
  go_wp2_with fail
  go_ret
  first | exact ⟨ret_bool hr.out, D1.out⟩ | exact ⟨hr.out, D1.out⟩
end Go.Proofs.Ytbklkhndjckckaa

/- The model's l3Put. -/
namespace Go.Proofs.Ytbklkhndjckckaa
open Go.RowKit
set_option linter.unusedVariables false

theorem infoP : (Try.prog.info? 31).map (fun i => (i.zero, i.size, i.bytes)) = some (some (.agg #[.int .i64 0, .int .i64 0]), 2, 16) := by kernel_rfl

/-- A slice of ids that is being built: in memory from B on, in a block of its own. -/
def Row (w : World) (B : Nat) (v : Value) (O : List Pid) : Prop := w.ownsRow B 31 2 v O.length (flatP O) ∧ v ≠ .slice none 0 0

theorem row_new (w : World) (B : Nat) (hB : B ≤ w.heap.size) : Row (w.alloc (.cells #[] 31)) B (.slice (some ⟨w.heap.size, 0, none⟩) 0 0) [] :=
  ⟨World.ownsRow_made _ #[] 0 hB (Nat.zero_le _) rfl, by simp⟩
theorem Row.shape {w : World} {B : Nat} {v : Value} {O : List Pid} (h : Row w B v O) : ∃ g cap, v = .slice (some ⟨g, 0, none⟩) O.length cap ∧ B ≤ g ∧ g < w.heap.size ∧ O.length ≤ cap ∧ cap ≤ maxLen := by
  rcases h.1.2 with ⟨rfl, _⟩ | ⟨g, cap, cur, rfl, h1, h2, h3, h4, h5, h6⟩
  · exact absurd rfl h.2
  · exact ⟨g, cap, rfl, h1, lt_of_heap h2, h3, h4⟩
theorem Row.own {w : World} {B : Nat} {v : Value} {O : List Pid} (h : Row w B v O) (hl : O.length ≤ 2000000) : ∃ b, B ≤ b ∧ OwnP w b v O := OwnP.of_row h.1 rfl hl h.2
/-- Other memory may turn. -/
theorem Row.up {w w' : World} {B : Nat} {v : Value} {O : List Pid} (h : Row w B v O) (hb : Below w.heap.size w w') : Row w' B v O := by
  refine ⟨?_, h.2⟩
  refine ⟨h.1.1, ?_⟩
  rcases h.1.2 with h1 | ⟨g, cap, cur, e, h1, h2, h3⟩
  · exact .inl h1
  · exact .inr ⟨g, cap, cur, e, h1, (hb.block g (lt_of_heap h2)).trans h2, h3⟩
theorem Row.put {w w' : World} {B : Nat} {v v' : Value} {O : List Pid} {x y : Int} (h : Row w B v O) (hown : w'.ownsRow B 31 2 v' (O.length + 1) (flatP O ++ [.int .i64 x, .int .i64 y])) (hn : v' ≠ .slice none 0 0) : Row w' B v' (O ++ [(x, y)]) :=
  ⟨by rw [flatP_app]; simpa [flatP, idv] using hown, hn⟩
/-- What an append leaves of elder memory. -/
theorem grown_below {w w' : World} {B : Nat} {v : Value} {O : List Pid} (h : Row w B v O) (hg : w.grownBy w' (Value.ownBlock v)) (hB : B ≤ w.heap.size) : Below B w w' := by
  obtain ⟨g, cap, rfl, h1, _⟩ := h.shape
  exact ⟨hg.os, hg.tape, hg.output, hg.size, fun k hk => hg.block k (by omega) (fun e => by simp [Value.ownBlock] at e; omega)⟩

/-- What is left of l3Put's loop. -/
theorem put_in {O L : List Pid} {a x : Pid} {k : Nat} (hk : k < L.length) (hx : L.getD k nop = x) (h : O ++ putF true a (L.drop k) = putP L a) : (O ++ [x]) ++ putF true a (L.drop (k + 1)) = putP L a := by
  rw [← h, drop_next hk, hx]; simp [putF]
theorem put_miss {O L : List Pid} {a x : Pid} {k : Nat} (hk : k < L.length) (hx : L.getD k nop = x) (hl : ltP a x = false) (h : O ++ putF false a (L.drop k) = putP L a) : (O ++ [x]) ++ putF false a (L.drop (k + 1)) = putP L a := by
  rw [← h, drop_next hk, hx, putF_miss hl]; simp
theorem put_hit {O L : List Pid} {a x : Pid} {k : Nat} (hk : k < L.length) (hx : L.getD k nop = x) (hl : ltP a x = true) (h : O ++ putF false a (L.drop k) = putP L a) : (O ++ [a] ++ [x]) ++ putF true a (L.drop (k + 1)) = putP L a := by
  rw [← h, drop_next hk, hx, putF_hit hl]; simp
theorem put_len {O L : List Pid} {a : Pid} {d : Bool} {k : Nat} (h : O ++ putF d a (L.drop k) = putP L a) : O.length ≤ L.length + 1 := by
  have := congrArg List.length h
  rw [List.length_append] at this
  have := (len_putP L a).2
  omega

theorem two_cells (w : World) (t : TypeId) (x y : Value) (n : Nat) (hn : n = w.heap.size) : ∀ j u, [x, y][j]? = some u → (w.alloc (.cells #[x, y] t)).cell? ((⟨n, 0, none⟩ : Addr).add j) = some u := by
  subst hn
  intro j u hj
  match j, hj with
  | 0, hj => simp at hj; subst hj; simp [Addr.add]
  | 1, hj => simp at hj; subst hj; simp [Addr.add]
  | j + 2, hj => simp at hj

theorem put_mid {w wc w4 : World} {v v' : Value} {O : List Pid} {x y p r : Int} {o : Obj} (D : Below w.heap.size w wc) (hA : wc.heap[w.heap.size]? = some (.cells #[.int .i64 x, .int .i64 y] 31 (0, 0))) (hR : Row wc (w.heap.size + 1) v O)
    (hown : w4.ownsRow (w.heap.size + 1) 31 2 v' (O.length + 1) (flatP O ++ [.int .i64 p, .int .i64 r])) (hg : (wc.alloc o).grownBy w4 (Value.ownBlock v)) (hn : v' ≠ .slice none 0 0) :
    Row w4 (w.heap.size + 1) v' (O ++ [(p, r)]) ∧ w4.heap[w.heap.size]? = some (.cells #[.int .i64 x, .int .i64 y] 31 (0, 0)) ∧ Below w.heap.size w w4 := by
  have hR1 : Row (wc.alloc o) (w.heap.size + 1) v O := hR.up ((Below.refl _ _).alloc (Nat.le_refl _) _)
  have hs := lt_of_heap hA
  have B4 := grown_below hR1 hg (by simp; omega)
  exact ⟨hR.put hown hn, (B4.block w.heap.size (by omega)).trans ((Below.heap_alloc _ _ _ hs).trans hA), (D.alloc D.size _).trans (B4.mono (by omega))⟩

/-- What l3Put leaves. -/
def PutPost (L : List Pid) (a : Pid) (w : World) (e : Ending) (w' : World) : Prop :=
  ∃ b u, w.heap.size ≤ b ∧ e = .returned u ∧ OwnP w' b u (putP L a) ∧ Below w.heap.size w w'

/-- The loop's relation: the box of the id lies at w's end. -/
def PutRel (L : List Pid) (x y : Int) (w : World) (k : Nat) (v : Value) (d : Bool) (wr : World) : Prop :=
  ∃ O : List Pid, Row wr (w.heap.size + 1) v O ∧ O ++ putF d (x, y) (L.drop k) = putP L (x, y) ∧ wr.heap[w.heap.size]? = some (.cells #[.int .i64 x, .int .i64 y] 31 (0, 0)) ∧ Below w.heap.size w wr

set_option maxRecDepth 100000 in
set_option maxHeartbeats 4000000 in
theorem sput_at (b off ca : Nat) (L : List Pid) (x y : Int) (w : World) (hb : b < w.heap.size) (hm : L.length ≤ 1900000) (h : ∀ i, i < L.length → w.cell? ⟨b, off + i * 2, none⟩ = some (.int .i64 (L.getD i nop).1) ∧ w.cell? ⟨b, off + i * 2 + 1, none⟩ = some (.int .i64 (L.getD i nop).2)) :
    Calls Try.prog 55 #[.slice (some ⟨b, off, none⟩) L.length ca, .agg #[.int .i64 x, .int .i64 y]] w (PutPost L (x, y) w) := by
  obtain ⟨i0, hi, hz0, hz1, hz2⟩ := info_parts infoP
  have sh := shas_at b off ca L x y
  have h := Lib.hid h
  obtain ⟨n, hn⟩ : ∃ n, Hid (L.length = n) := ⟨_, Lib.hid rfl⟩
  obtain ⟨d0, hd0⟩ : ∃ q, Hid (hasP L (x, y) = q) := ⟨_, Lib.hid rfl⟩
  rw [hn.out] at hm sh ⊢
  rw [hd0.out] at sh
  have R0 : Hid (Row ((w.alloc (.cells #[.int .i64 x, .int .i64 y] 31)).alloc (.cells #[] 31)) (w.heap.size + 1) (.slice (some ⟨w.heap.size + 1, 0, none⟩) 0 0) []) := Lib.hid (by have := row_new (w.alloc (.cells #[.int .i64 x, .int .i64 y] 31)) (w.heap.size + 1) (by simp); simpa using this)
  go_enter Try.func55, Try.ntmps55
  go_wp2_with fail
  refine (sh _ (by simp; omega) (by omega) (fun i hi' => ?_)).mono ?_
  · have D0 : Below w.heap.size w ((w.alloc (.cells #[.int .i64 x, .int .i64 y] 31)).alloc (.cells #[] 31)) := ((Below.refl _ _).alloc (Nat.le_refl _) _).alloc (by simp) _
    rw [D0.cell (p := ⟨b, off + i * 2, none⟩) hb, D0.cell (p := ⟨b, off + i * 2 + 1, none⟩) hb]
    exact h.out i (by rw [hn.out]; exact hi')
  rintro e w1 ⟨rfl, hb1⟩
  have R1 : Hid (PutRel L x y w 0 (.slice (some ⟨w.heap.size + 1, 0, none⟩) 0 0) d0 w1) := Lib.hid ⟨[], R0.out.up hb1, by rw [← hd0.out]; rfl, (hb1.block w.heap.size (by simp; omega)).trans ((Below.heap_alloc _ _ _ (by simp)).trans (heap_alloc_new w _)), (((Below.refl _ _).alloc (Nat.le_refl _) _).alloc (by simp) _).trans (hb1.mono (by simp; omega))⟩
  clear R0 hb1 sh hd0
  go_wp2_with fail
  go_loopw [5, 6, 7] (fun v d i wr => ∃ (k : Nat) (q : Bool), k ≤ n ∧ i = .int .i64 k ∧ d = .bool q ∧ PutRel L x y w k v q wr) (fun _ _ i _ => n - (intOf i).toNat)
  case atStart => exact ⟨0, d0, Nat.zero_le _, rfl, rfl, R1.out⟩
  case round =>
    obtain ⟨k, q, hk, rfl, rfl, O, hR, hE, hA, hnx⟩ := hrel
    clear R1
    have hOl := put_len hE
    rw [hn.out] at hOl
    have hR := Lib.hid hR
    have hE := Lib.hid hE
    obtain ⟨x0, x1, _, _⟩ := blk2 hA
    have hs := lt_of_heap hA
    have hA := Lib.hid hA
    by_cases hlt : k < n
    · obtain ⟨h0, h1⟩ := h.out k (by rw [hn.out]; exact hlt)
      have q0 := (hnx.cell (p := ⟨b, off + k * 2, none⟩) hb).trans h0
      have q1 := (hnx.cell (p := ⟨b, off + k * 2 + 1, none⟩) hb).trans h1
      clear h0 h1
      obtain ⟨c, hc⟩ : ∃ c, Hid (L.getD k nop = c) := ⟨_, Lib.hid rfl⟩
      rw [hc.out] at q0 q1
      obtain ⟨p, r⟩ := c
      dsimp only at q0 q1
      have hnx := Lib.hid hnx
      have q00 := Lib.hid (h.out k (by rw [hn.out]; exact hlt)).1
      have q01 := Lib.hid (h.out k (by rw [hn.out]; exact hlt)).2
      rw [hc.out] at q00 q01
      cases q
      · by_cases hlt2 : ltB x y p r = true
        · have sl := slt_any x y p r
          rw [hlt2] at sl
          have F := Lib.hid (put_hit (by rw [hn.out]; exact hlt) hc.out (show ltP (x, y) (p, r) = true from hlt2) hE.out)
          clear hlt2 h
          go_wp2_with fail
          go_region_with (go_at_call 43; (with_reducible refine (sl _).mono ?_); rintro e w2 ⟨rfl, B⟩; have D2 := Lib.hid (bstep (Below.drew hnx.out) B); have A2 := Lib.hid ((Below.block B _ hs).trans (show wr.drew.heap[w.heap.size]? = _ from hA.out)); have R2 := Lib.hid ((Row.up hR.out (Below.drew (Below.refl _ _))).up B); obtain ⟨x0, x1, _, _⟩ := blk2 A2.out; have q0 := cell_later B (show wr.drew.cell? _ = _ from q0); have q1 := cell_later B (show wr.drew.cell? _ = _ from q1); have hs := lt_of_heap A2.out; have sz := Below.size B; clear B hA hR hnx)
          all_goals
            go_wp2_with (at_builtin; refine wpList_append_own _ rfl _ _ 25 rfl (w.heap.size + 1) 31 i0 (.agg #[.int .i64 0, .int .i64 0]) 2 16 Try.underlying25 hi hz0 hz1 hz2 rfl (by decide) _ _ _ rfl (R2.out.1.alloc _) ⟨w2.heap.size, 0, none⟩ 1 1 [.int .i64 x, .int .i64 y] rfl rfl ?c1 ?c2 ?c3 ?c4 ?c5 ?_)
            case c1 => exact two_cells _ _ _ _ _ (by simp)
            case c2 => intro u hu; simp at hu; rcases hu with rfl | rfl <;> rfl
            case c3 => unfold maxLen; first | omega | (simp; omega)
            case c4 => first | omega | (simp; omega)
            case c5 => first | omega | (simp; omega)
            intro v3 w3 hown' hgrow hnil
            obtain ⟨R1, R2', R3⟩ := put_mid D2.out A2.out R2.out hown' hgrow (fun e => hnil e)
            have R4 := Lib.hid R1
            have A4 := Lib.hid R2'
            have D4 := Lib.hid R3
            have hb4 : Below w2.heap.size w2 w2 := Below.refl _ _
            have q0' : w3.cell? ⟨b, off + k * 2, none⟩ = some (.int .i64 p) := (Below.cell R3 (p := ⟨b, off + k * 2, none⟩) hb).trans q00.out
            have q1' : w3.cell? ⟨b, off + k * 2 + 1, none⟩ = some (.int .i64 r) := (Below.cell R3 (p := ⟨b, off + k * 2 + 1, none⟩) hb).trans q01.out
            obtain ⟨x0', x1', _, _⟩ := blk2 A4.out
            have hs' := lt_of_heap A4.out
            have hOl' : (O ++ [(x, y)]).length ≤ 1900002 := by simp; omega
            clear hown' hgrow hnil R1 R2' R3 hb4 q0 q1 x0 x1 D2 A2 R2
            obtain ⟨O2, hO2⟩ : ∃ O2, O ++ [(x, y)] = O2 := ⟨_, rfl⟩
            rw [hO2] at R4 F hOl'
            clear hO2
            go_wp2_with (at_builtin; refine wpList_append_own _ rfl _ _ 25 rfl (w.heap.size + 1) 31 i0 (.agg #[.int .i64 0, .int .i64 0]) 2 16 Try.underlying25 hi hz0 hz1 hz2 rfl (by decide) _ _ _ rfl (R4.out.1.alloc _) ⟨w3.heap.size, 0, none⟩ 1 1 [.int .i64 p, .int .i64 r] rfl rfl ?c1 ?c2 ?c3 ?c4 ?c5 ?_)
            case c1 => exact two_cells _ _ _ _ _ (by simp)
            case c2 => intro u hu; simp at hu; rcases hu with rfl | rfl <;> rfl
            case c3 => unfold maxLen; first | omega | (simp; omega)
            case c4 => first | omega | (simp; omega)
            case c5 => first | omega | (simp; omega)
            intro v' w4 hown' hgrow hnil
            obtain ⟨R1, R2', R3⟩ := put_mid D4.out A4.out R4.out hown' hgrow (fun e => hnil e)
            have RR : Hid (PutRel L x y w (k + 1) v' true w4) := Lib.hid ⟨_, R1, F.out, R2', R3⟩
            clear hown' hgrow hnil R1 R2' R3 F hE
            go_wp2_with fail
            go_roundw
            case rel => exact ⟨k + 1, true, by omega, by go_num, rfl, RR.out⟩
            case measure => simp [intOf]; omega
        · have hlt2 : ltB x y p r = false := by simpa using hlt2
          have sl := slt_any x y p r
          rw [hlt2] at sl
          have F := Lib.hid (put_miss (by rw [hn.out]; exact hlt) hc.out (show ltP (x, y) (p, r) = false from hlt2) hE.out)
          clear hlt2 h
          go_wp2_with fail
          go_region_with (go_at_call 43; (with_reducible refine (sl _).mono ?_); rintro e w2 ⟨rfl, B⟩; have D2 := Lib.hid (bstep (Below.drew hnx.out) B); have A2 := Lib.hid ((Below.block B _ hs).trans (show wr.drew.heap[w.heap.size]? = _ from hA.out)); have R2 := Lib.hid ((Row.up hR.out (Below.drew (Below.refl _ _))).up B); obtain ⟨x0, x1, _, _⟩ := blk2 A2.out; have q0 := cell_later B (show wr.drew.cell? _ = _ from q0); have q1 := cell_later B (show wr.drew.cell? _ = _ from q1); have hs := lt_of_heap A2.out; have sz := Below.size B; clear B hA hR hnx)
          all_goals
            go_wp2_with (at_builtin; refine wpList_append_own _ rfl _ _ 25 rfl (w.heap.size + 1) 31 i0 (.agg #[.int .i64 0, .int .i64 0]) 2 16 Try.underlying25 hi hz0 hz1 hz2 rfl (by decide) _ _ _ rfl (R2.out.1.alloc _) ⟨w2.heap.size, 0, none⟩ 1 1 [.int .i64 p, .int .i64 r] rfl rfl ?c1 ?c2 ?c3 ?c4 ?c5 ?_)
            case c1 => exact two_cells _ _ _ _ _ (by simp)
            case c2 => intro u hu; simp at hu; rcases hu with rfl | rfl <;> rfl
            case c3 => unfold maxLen; first | omega | (simp; omega)
            case c4 => first | omega | (simp; omega)
            case c5 => first | omega | (simp; omega)
            intro v' w4 hown' hgrow hnil
            obtain ⟨R1, R2', R3⟩ := put_mid D2.out A2.out R2.out hown' hgrow (fun e => hnil e)
            have RR : Hid (PutRel L x y w (k + 1) v' false w4) := Lib.hid ⟨_, R1, F.out, R2', R3⟩
            clear hown' hgrow hnil R1 R2' R3 F hE
            go_wp2_with fail
            go_roundw
            case rel => exact ⟨k + 1, false, by omega, by go_num, rfl, RR.out⟩
            case measure => simp [intOf]; omega
      · have F := Lib.hid (put_in (by rw [hn.out]; exact hlt) hc.out hE.out)
        clear h
        go_wp2_with fail
        go_quiet (fail)
        go_wp2_with (at_builtin; refine wpList_append_own _ rfl _ _ 25 rfl (w.heap.size + 1) 31 i0 (.agg #[.int .i64 0, .int .i64 0]) 2 16 Try.underlying25 hi hz0 hz1 hz2 rfl (by decide) _ _ _ rfl ((hR.out.up (bdrewN (Below.refl _ _) _)).1.alloc _) ⟨wr.heap.size, 0, none⟩ 1 1 [.int .i64 p, .int .i64 r] rfl rfl ?c1 ?c2 ?c3 ?c4 ?c5 ?_)
        case c1 => exact two_cells _ _ _ _ _ (by simp)
        case c2 => intro u hu; simp at hu; rcases hu with rfl | rfl <;> rfl
        case c3 => unfold maxLen; first | omega | (simp; omega)
        case c4 => first | omega | (simp; omega)
        case c5 => first | omega | (simp; omega)
        intro v' w4 hown' hgrow hnil
        obtain ⟨R1, R2', R3⟩ := put_mid (bdrewN hnx.out _) (show (wr.drewN _).heap[w.heap.size]? = _ from hA.out) (hR.out.up (bdrewN (Below.refl _ _) _)) hown' hgrow (fun e => hnil e)
        have RR : Hid (PutRel L x y w (k + 1) v' true w4) := Lib.hid ⟨_, R1, F.out, R2', R3⟩
        clear hR hA hnx hown' hgrow hnil R1 R2' R3 F hE
        go_wp2_with fail
        go_roundw
        case rel => exact ⟨k + 1, true, by omega, by go_num, rfl, RR.out⟩
        case measure => simp [intOf]; omega
    · obtain rfl : k = n := by omega
      have hdr : L.drop k = [] := List.drop_eq_nil_of_le (by rw [hn.out]; exact Nat.le_refl _)
      have hE2 := hE.out
      rw [hdr] at hE2
      have hE2 := Lib.hid hE2
      have hnx := Lib.hid hnx
      clear h hE hdr
      cases q
      · skip
        go_wp2_with (at_builtin; refine wpList_append_own _ rfl _ _ 25 rfl (w.heap.size + 1) 31 i0 (.agg #[.int .i64 0, .int .i64 0]) 2 16 Try.underlying25 hi hz0 hz1 hz2 rfl (by decide) _ _ _ rfl (hR.out.1.alloc _) ⟨wr.heap.size, 0, none⟩ 1 1 [.int .i64 x, .int .i64 y] rfl rfl ?c1 ?c2 ?c3 ?c4 ?c5 ?_)
        case c1 => exact two_cells _ _ _ _ _ (by simp)
        case c2 => intro u hu; simp at hu; rcases hu with rfl | rfl <;> rfl
        case c3 => unfold maxLen; first | omega | (simp; omega)
        case c4 => first | omega | (simp; omega)
        case c5 => first | omega | (simp; omega)
        intro v' w4 hown' hgrow hnil
        obtain ⟨R1, R2', R3⟩ := put_mid hnx.out hA.out hR.out hown' hgrow (fun e => hnil e)
        obtain ⟨g, hg, hO⟩ := R1.own (by simp; omega)
        rw [show O ++ [(x, y)] = putP L (x, y) from hE2.out] at hO
        have hO := Lib.hid hO
        have D4 := Lib.hid R3
        clear hown' hgrow hnil R1 R2' R3 hR hA hnx
        go_wp2_with fail
        go_ret
        exact ⟨g, _, by omega, rfl, hO.out, D4.out⟩
      · obtain ⟨g, hg, hO⟩ := hR.out.own (by omega)
        rw [show O = putP L (x, y) from (List.append_nil O).symm.trans hE2.out] at hO
        have hO := Lib.hid hO
        clear hR hA
        go_wp2_with fail
        go_ret
        exact ⟨g, _, by omega, rfl, hO.out, hnx.out⟩

theorem Row.parts {w : World} {B g n cap : Nat} {O : List Pid} (h : Row w B (.slice (some ⟨g, 0, none⟩) n cap) O) : ∃ cur, w.heap[g]? = some (.cells cur 31 (0, 0)) ∧ cur.size = cap * 2 ∧ O.length = n ∧ (∀ j, j < cap * 2 → (w.cell? ⟨g, j, none⟩).isSome = true) ∧ (∀ j, w.frozen? ⟨g, j, none⟩ = false) ∧ (∀ j, j < n * 2 → w.cell? ⟨g, j, none⟩ = (flatP O)[j]?) := by
  rcases h.1.2 with ⟨e, _⟩ | ⟨g', cap', cur, e, h1, h2, h3, h4, h5, h6⟩
  · exact absurd e h.2
  · injection e with e1 e2 e3
    injection e1 with e1
    injection e1 with e1
    subst e1 e2 e3
    refine ⟨cur, h2, h5, rfl, fun j hj => ?_, fun j => by simp [World.frozen?, h2], fun j hj => ?_⟩
    · rw [cell_of_cells h2, Array.getElem?_eq_getElem (by omega)]; rfl
    · rw [cell_of_cells h2, ← h6, List.getElem?_take, if_pos hj]; simp
end Go.Proofs.Ytbklkhndjckckaa

/- A queue of ids: taken from ahead, appended behind. -/
namespace Go.Proofs.Ytbklkhndjckckaa
open Go.RowKit
set_option linter.unusedVariables false

theorem setCells_exc (g : Nat) : ∀ (vs : List Value) (o : Nat) (w : World), Exc (fun b => b = g) w (w.setCells g o vs)
  | [], o, w => Exc.refl _ _
  | v :: r, o, w => ((Exc.refl (fun b => b = g) w).set (b := g) (.inl rfl) o v).trans (setCells_exc g r (o + 1) _) (fun b _ h => h)
theorem setCells_size (g : Nat) : ∀ (vs : List Value) (o : Nat) (w : World), (w.setCells g o vs).heap.size = w.heap.size
  | [], o, w => rfl
  | v :: r, o, w => by
    show ((w.setCell ⟨g, o, none⟩ v).setCells g (o + 1) r).heap.size = _
    rw [setCells_size g r]; exact World.size_setCell _ _ _

/-- A slice of ids at some place of a block. -/
def Que (w : World) (g : Nat) (v : Value) (L : List Pid) : Prop :=
  ∃ off cap, v = .slice (some ⟨g, off, none⟩) L.length cap ∧ g < w.heap.size ∧ L.length ≤ cap ∧ cap ≤ maxLen ∧ (∀ j, j < L.length * 2 → w.cell? ⟨g, off + j, none⟩ = (flatP L)[j]?) ∧ ∀ j, j < cap * 2 → (w.cell? ⟨g, off + j, none⟩).isSome = true ∧ w.frozen? ⟨g, off + j, none⟩ = false
theorem Que.lt {w : World} {g : Nat} {v : Value} {L : List Pid} (h : Que w g v L) : g < w.heap.size := by obtain ⟨_, _, _, h, _⟩ := h; exact h
theorem Que.shape {w : World} {g : Nat} {v : Value} {L : List Pid} (h : Que w g v L) : ∃ off cap, v = .slice (some ⟨g, off, none⟩) L.length cap ∧ L.length ≤ cap := by obtain ⟨o, c, e, _, h, _⟩ := h; exact ⟨o, c, e, h⟩
theorem Que.same {w w' : World} {g : Nat} {v : Value} {L : List Pid} (h : Que w g v L) (hb : w'.heap[g]? = w.heap[g]?) (hs : w.heap.size ≤ w'.heap.size) : Que w' g v L := by
  obtain ⟨off, cap, e, h2, h3, h4, h5, h6⟩ := h
  refine ⟨off, cap, e, Nat.lt_of_lt_of_le h2 hs, h3, h4, fun j hj => ?_, fun j hj => ?_⟩
  · rw [World.cell?_of_block (a := ⟨g, off + j, none⟩) hb]; exact h5 j hj
  · rw [World.cell?_of_block (a := ⟨g, off + j, none⟩) hb, World.frozen?_of_block (a := ⟨g, off + j, none⟩) hb]; exact h6 j hj
theorem Que.up {w w' : World} {g : Nat} {v : Value} {L : List Pid} (h : Que w g v L) (hb : Below w.heap.size w w') : Que w' g v L := h.same (hb.block g h.lt) hb.size
theorem que_new (w : World) : Que (w.alloc (.cells #[] 31)) w.heap.size (.slice (some ⟨w.heap.size, 0, none⟩) 0 0) [] :=
  ⟨0, 0, rfl, by simp, Nat.le_refl _, Nat.zero_le _, fun j hj => absurd hj (by simp), fun j hj => absurd hj (by simp)⟩
theorem Que.read {w : World} {g : Nat} {v : Value} {L : List Pid} (h : Que w g v L) (hl : L.length ≤ 2000000) : Ids w v L := by
  obtain ⟨off, cap, rfl, h2, h3, h4, h5, h6⟩ := h
  refine ⟨_, cap, rfl, h3, hl, .inr ⟨g, off, rfl, h2, fun i hi => ?_⟩⟩
  have := flatP_get L i hi
  rw [show (⟨g, off + i * 2 + 1, none⟩ : Addr) = ⟨g, off + (i * 2 + 1), none⟩ from rfl, h5 _ (by omega), h5 _ (by omega)]
  exact this
/-- The first one is taken. -/
theorem Que.pop {w : World} {g off cap : Nat} {a : Pid} {L : List Pid} (h : Que w g (.slice (some ⟨g, off, none⟩) (L.length + 1) cap) (a :: L)) :
    (cap ≠ 1 → Que w g (.slice (some ⟨g, off + 2, none⟩) L.length (cap - 1)) L) ∧ (cap = 1 → Que w g (.slice (some ⟨g, off, none⟩) L.length 0) L) := by
  obtain ⟨off', cap', e, h2, h3, h4, h5, h6⟩ := h
  injection e with e1 e2 e3
  injection e1 with e1
  injection e1 with e4 e5
  subst e3; subst e5
  have hs : ∀ j, (flatP (a :: L))[j + 2]? = (flatP L)[j]? := fun j => by simp [flatP, idv]
  have h3' : L.length + 1 ≤ cap := by simpa using h3
  constructor
  · intro hc
    refine ⟨off + 2, cap - 1, rfl, h2, by omega, by omega, fun j hj => ?_, fun j hj => ?_⟩
    · rw [Nat.add_assoc, Nat.add_comm 2 j, h5 (j + 2) (by simp; omega), hs]
    · rw [Nat.add_assoc, Nat.add_comm 2 j]; exact h6 (j + 2) (by omega)
  · intro hc
    have : L = [] := List.eq_nil_of_length_eq_zero (by omega)
    subst this
    exact ⟨off, 0, rfl, h2, by simp, by omega, fun j hj => absurd hj (by simp), fun j hj => absurd hj (by simp)⟩

/-- Ids as what is appended. -/
theorem ids_src {P : Program} {w : World} {v : Value} {M : List Pid} {t e : TypeId} (hk : P.underlying t = some (.slice e)) (h : Ids w v M) : Src P 2 t v M.length (flatP M) w := by
  obtain ⟨a, cap, rfl, h1, h2, h3⟩ := h
  cases a with
  | none =>
    rcases h3 with h3 | ⟨b, off, e, _⟩
    · have : M = [] := List.eq_nil_of_length_eq_zero h3
      subst this
      exact Src.ofNil w hk cap
    · cases e
  | some a =>
    refine Src.ofSlice w hk a M.length cap (flatP M) (flatP_len M) (fun j u hu => ?_) (flatP_one M)
    rcases h3 with h3 | ⟨b, off, e, _, h4⟩
    · have : M = [] := List.eq_nil_of_length_eq_zero h3
      subst this
      simp [flatP] at hu
    · cases e
      have hj : j < M.length * 2 := by
        have := (List.getElem?_eq_some_iff.1 hu).1
        rw [flatP_len] at this; exact this
      obtain ⟨q1, q2⟩ := h4 (j / 2) (by omega)
      obtain ⟨r1, r2⟩ := flatP_get M (j / 2) (by omega)
      rw [Addr.add_lit]
      rcases Nat.mod_two_eq_zero_or_one j with e | e
      · have ej : j / 2 * 2 = j := by omega
        rw [ej] at q1 r1
        rw [q1, ← r1]; exact hu
      · have ej : j / 2 * 2 + 1 = j := by omega
        rw [Nat.add_assoc, ej] at q2; rw [ej] at r2
        rw [q2, ← r2]; exact hu

/-- Ids are appended. -/
theorem run_append_que {P : Program} (w : World) (g : Nat) (t ty : TypeId) (i : TypeInfo) (ht : P.underlying t = some (.slice 31)) (hi : P.info? 31 = some i) (hz : i.zero = some (.agg #[.int .i64 0, .int .i64 0])) (hs : i.size = 2) (hby : i.bytes = 16)
    {v x : Value} {L M : List Pid} (hq : Que w g v L) (hM : Ids w x M) (hl : L.length + M.length ≤ 1000000) :
    ∃ v' w', (Builtin.append_ #[t, t] ty #[v, x]).run P w = .ok v' w' ∧ ∃ g', (g' = g ∨ w.heap.size ≤ g') ∧ Que w' g' v' (L ++ M) ∧ Exc (fun b => b = g) w w' := by
  have src := ids_src ht hM
  obtain ⟨off, cap, rfl, h2, h3, h4, h5, h6⟩ := hq
  have fl := flatP_len M
  by_cases hr : L.length + M.length ≤ cap
  · have hsome : ∀ j, j < (flatP M).length → (w.cell? ⟨g, off + L.length * 2 + j, none⟩).isSome = true := fun j hj => by rw [Nat.add_assoc]; exact (h6 _ (by omega)).1
    have hrun := run_append_room_src (P := P) w t t ty _ i ht hi g off L.length cap x M.length (flatP M) (by rw [hs]; exact src) hr
      (fun j hj => by rw [hs]; exact hsome j hj) (fun j hj => by rw [hs, Nat.add_assoc]; exact (h6 _ (by omega)).2)
    rw [hs] at hrun
    have hin := World.cell?_setCells_in g (flatP M) (off + L.length * 2) w hsome
    refine ⟨_, _, hrun, g, .inl rfl, ⟨off, cap, by rw [List.length_append], by rw [setCells_size]; exact h2, by rw [List.length_append]; exact hr, h4, fun j hj => ?_, fun j hj => ⟨?_, ?_⟩⟩, setCells_exc g _ _ _⟩
    · rw [flatP_app]
      rw [List.length_append] at hj
      by_cases hjl : j < L.length * 2
      · rw [World.cell?_setCells_out g _ _ _ _ (fun _ _ => Or.inl (by show off + j < off + L.length * 2; omega)), List.getElem?_append_left (by rw [flatP_len]; exact hjl)]
        exact h5 j hjl
      · have := hin (j - L.length * 2) (by omega)
        rw [show off + L.length * 2 + (j - L.length * 2) = off + j by omega] at this
        rw [List.getElem?_append_right (by rw [flatP_len]; omega), flatP_len]; exact this.trans (List.getElem?_eq_getElem (by omega)).symm
    · by_cases hjl : L.length * 2 ≤ j ∧ j < L.length * 2 + M.length * 2
      · have := hin (j - L.length * 2) (by omega)
        rw [show off + L.length * 2 + (j - L.length * 2) = off + j by omega] at this
        rw [this]; rfl
      · rw [World.cell?_setCells_out g _ _ _ _ (fun _ _ => by show off + j < off + L.length * 2 ∨ off + L.length * 2 + (flatP M).length ≤ off + j; omega)]
        exact (h6 j hj).1
    · rw [World.frozen?_setCells]; exact (h6 j hj).2
  · have hold : (Builtin.firstCells i.size L.length (.slice (some ⟨g, off, none⟩) L.length cap)).run P w.drew = .ok (flatP L).toArray w.drew := by
      rw [hs]
      refine run_firstCells_some w.drew 2 L.length ⟨g, off, none⟩ L.length cap (flatP L) (flatP_len L) (fun j u hu => ?_)
      rw [Addr.add_lit]
      have hj := (List.getElem?_eq_some_iff.1 hu).1
      rw [flatP_len] at hj
      exact (h5 j hj).trans hu
    have hrun := run_append_grow_src (P := P) w t t ty _ i _ ht hi hz (some ⟨g, off, none⟩) L.length cap (flatP L) hold x M.length (flatP M) (by rw [hs]; exact src) (by omega) (by omega) (by rw [hby]; exact growslice_fits (by omega) (by omega))
    have hge := grownCap_ge w (L.length + M.length) cap 31
    have hcm := grownCap_le_maxLen w (L.length + M.length) cap 31 (by unfold maxLen; omega)
    have hcell : ∀ j, (w.drew.alloc (.cells ((flatP L ++ flatP M).toArray ++ Builtin.zeroCells (Value.cells (.agg #[.int .i64 0, .int .i64 0])) (grownCap w (L.length + M.length) cap 31 - (L.length + M.length))) 31)).cell? ⟨w.heap.size, 0 + j, none⟩ = ((flatP L ++ flatP M).toArray ++ Builtin.zeroCells (Value.cells (.agg #[.int .i64 0, .int .i64 0])) (grownCap w (L.length + M.length) cap 31 - (L.length + M.length)))[j]? := fun j => by
      rw [Nat.zero_add]; exact World.cell?_alloc_new w.drew _ _ j
    have hsz : ((flatP L ++ flatP M).toArray ++ Builtin.zeroCells (Value.cells (.agg #[.int .i64 0, .int .i64 0])) (grownCap w (L.length + M.length) cap 31 - (L.length + M.length))).size = grownCap w (L.length + M.length) cap 31 * 2 := by
      rw [Array.size_append, List.size_toArray, List.length_append, flatP_len, flatP_len, size_zeroCells]
      show _ + _ * 2 = _
      omega
    refine ⟨_, _, hrun, w.heap.size, .inr (Nat.le_refl _), ⟨0, _, by rw [List.length_append], by simp, by rw [List.length_append]; exact hge, hcm, fun j hj => ?_, fun j hj => ⟨?_, ?_⟩⟩, ((Exc.refl _ w).drew).alloc _⟩
    · rw [hcell, flatP_app]
      rw [List.length_append] at hj
      rw [Array.getElem?_append_left (by simp only [List.size_toArray, List.length_append, flatP_len]; omega), List.getElem?_toArray]
    · rw [hcell, Array.getElem?_eq_getElem (by rw [hsz]; exact hj)]; rfl
    · exact World.frozen?_alloc_new w.drew _ _ _

theorem wpList_append_que {P : Program} (w : World) {ops : Array Oper} {rest : List Oper} {o : Oper} {a : Act} {Q : Exit → Act → World → Prop} (hgd : o.guard = none) (s x : Operand) (t : TypeId)
    (ho : o.op = .call { callee := .builtin .append, args := #[s, x], argTypes := #[t, t] }) (g : Nat) (i : TypeInfo) (ht : P.underlying t = some (.slice 31)) (hi : P.info? 31 = some i) (hz : i.zero = some (.agg #[.int .i64 0, .int .i64 0])) (hs : i.size = 2) (hby : i.bytes = 16)
    (v xv : Value) (L M : List Pid) (hv : a.eval s = v) (hx : a.eval x = xv) (hq : Que w g v L) (hM : Ids w xv M) (hl : L.length + M.length ≤ 1000000)
    (h : ∀ v' w' g', Hid ((g' = g ∨ w.heap.size ≤ g') ∧ Que w' g' v' (L ++ M) ∧ Exc (fun b => b = g) w w') → wpList P ops Q rest (a.put o.dst v') w') : wpList P ops Q (o :: rest) a w := by
  refine wpList_plain hgd fun K hK => ?_
  obtain ⟨v', w', hr, g', h1, h2, h3⟩ := run_append_que (P := P) w g t o.type i ht hi hz hs hby hq hM hl
  unfold Oper.wp execOp
  simp only [ho, resolve, invoke, builtin, Sem.run_bind, Sem.run_pure, Result.andThen_ok, List.map_toArray, List.map_cons, List.map_nil, hv, hx, hr]
  exact hK _ _ (h v' w' g' (Lib.hid ⟨h1, h2, h3⟩))
end Go.Proofs.Ytbklkhndjckckaa

/- Plain facts: how the model finds what is reached, groups, what is ready, and the order. -/
namespace Go.Proofs.Ytbklkhndjckckaa
set_option linter.unusedVariables false

/-- What the search knows: O are found, T are to be looked at. -/
structure Rq (N : List Nd) (a : Pid) (O T : List Pid) : Prop where
  asc : Asc O
  out : ∀ x ∈ O, Rp (EI N) a x
  todo : ∀ x ∈ T, x ∈ idsN N → Rp (EI N) a x
  dir : ∀ x, EI N a x → x ∈ O ∨ x ∈ T
  on : ∀ y ∈ O, ∀ x, EI N y x → x ∈ O ∨ x ∈ T
theorem Rq.start {N : List Nd} (hv : nodB N = true) {x : Nd} (hx : x ∈ N) : Rq N x.id [] x.deps :=
  ⟨asc_nil, fun _ h => (nomatch h), fun y hy hi => Rp.one ⟨hi, x, hx, rfl, hy⟩, fun y ⟨_, x', hx', e, hd⟩ => .inr (by rw [getD_uniq hv hx' hx e] at hd; exact hd), fun _ h => nomatch h⟩
theorem Rq.skip {N : List Nd} {a b : Pid} {O T : List Pid} (h : Rq N a O (b :: T)) (hb : ¬ b ∈ idsN N ∨ b ∈ O) : Rq N a O T := by
  have key : ∀ x, x ∈ idsN N → x ∈ O ∨ x ∈ b :: T → x ∈ O ∨ x ∈ T := fun x hx hh => by
    rcases hh with hh | hh
    · exact .inl hh
    · rcases List.mem_cons.1 hh with e | hh
      · subst e; exact .inl (hb.resolve_left (fun hn => hn hx))
      · exact .inr hh
  exact ⟨h.asc, h.out, fun x hx => h.todo x (List.mem_cons_of_mem _ hx), fun x hx => key x hx.r (h.dir x hx), fun y hy x hx => key x hx.r (h.on y hy x hx)⟩
theorem Rq.put {N : List Nd} (hv : nodB N = true) {a : Pid} {y : Nd} {O T : List Pid} (h : Rq N a O (y.id :: T)) (hy : y ∈ N) : Rq N a (putP O y.id) (T ++ y.deps) := by
  have hb : Rp (EI N) a y.id := h.todo _ List.mem_cons_self (List.mem_map_of_mem hy)
  have key : ∀ x, x ∈ O ∨ x ∈ y.id :: T → x ∈ putP O y.id ∨ x ∈ T ++ y.deps := fun x hh => by
    rw [mem_putP, List.mem_append]
    rcases hh with hh | hh
    · exact .inl (.inr hh)
    · rcases List.mem_cons.1 hh with e | hh
      · exact .inl (.inl e)
      · exact .inr (.inl hh)
  refine ⟨asc_putP h.asc, fun x hx => ?_, fun x hx hi => ?_, fun x hx => key x (h.dir x hx), fun z hz x hx => ?_⟩
  · rcases (mem_putP _ _ _).1 hx with e | hx
    · subst e; exact hb
    · exact h.out x hx
  · rcases List.mem_append.1 hx with hx | hx
    · exact h.todo x (List.mem_cons_of_mem _ hx) hi
    · exact hb.rt_r (.one ⟨hi, y, hy, rfl, hx⟩)
  · rcases (mem_putP _ _ _).1 hz with e | hz
    · subst e
      obtain ⟨_, y', hy', e, hd⟩ := hx
      rw [getD_uniq hv hy' hy e] at hd
      exact .inr (List.mem_append_right _ hd)
    · exact key x (h.on z hz x hx)
theorem Rq.done {N : List Nd} (hv : nodB N = true) {a : Pid} {O : List Pid} (h : Rq N a O []) : O = selP N (Rp (EI N) a) := by
  refine selP_ext (nod_of hv).2.2 h.asc fun x => ⟨fun hx => ⟨rp_r (h.out x hx), h.out x hx⟩, fun hx => ?_⟩
  obtain ⟨_, c, h1, h2⟩ := hx
  refine h2.closed (P := fun x => x ∈ O) (fun i hi j hj => ?_) ?_
  · exact (h.on i hi j hj).resolve_right (by simp)
  · exact (h.dir c h1).resolve_right (by simp)
theorem asc_in_len {N : List Nd} (hv : nodB N = true) {O : List Pid} (h : Asc O) (hi : ∀ x ∈ O, x ∈ idsN N) : O.length ≤ N.length := by
  rw [selP_ext (P := fun x => x ∈ O) (nod_of hv).2.2 h (fun x => ⟨fun hx => ⟨hi x hx, hx⟩, fun hx => hx.2⟩)]
  exact selP_len N _
theorem Rq.len {N : List Nd} (hv : nodB N = true) {a : Pid} {O T : List Pid} (h : Rq N a O T) : O.length ≤ N.length := asc_in_len hv h.asc fun x hx => rp_r (h.out x hx)
theorem nod_deps {N : List Nd} (hv : nodB N = true) {k : Nat} (hk : k < N.length) : srtB (N.getD k nd0).deps = true := by
  have := (nod_of hv).2.1 _ (getD_mem hk)
  simp only [ndB, Bool.and_eq_true] at this
  exact this.2.2.1
theorem nod_dlen {N : List Nd} (hv : nodB N = true) {k : Nat} (hk : k < N.length) : (N.getD k nd0).deps.length ≤ 12 := (srt_of (nod_deps hv hk)).1
/-- How much is left. -/
def mu (O T : List Pid) : Nat := 13 * (12 - O.length) + T.length
theorem mu_put {N : List Nd} (hv : nodB N = true) {a : Pid} {y : Nd} {O T : List Pid} (h : Rq N a O (y.id :: T)) (hy : y ∈ N) (hn : ¬ y.id ∈ O) (hd : y.deps.length ≤ 12) : mu (putP O y.id) (T ++ y.deps) < mu O (y.id :: T) := by
  have h1 := (h.put hv hy).len hv
  have h2 := (nod_of hv).1
  unfold mu
  rw [putP_out hn, len_insB] at h1 ⊢
  rw [List.length_append, List.length_cons]
  omega

theorem sc_parts {N : List Nd} {a b : Pid} : Sc (EI N) a b ↔ b = a ∨ Rp (EI N) a b ∧ Rp (EI N) b a := by
  constructor
  · rintro ⟨h1, h2⟩
    rcases h1.cases with e | h1
    · exact .inl e.symm
    · rcases h2.cases with e | h2
      · exact .inl e
      · exact .inr ⟨h1, h2⟩
  · rintro (e | ⟨h1, h2⟩)
    · subst e; exact .refl _
    · exact ⟨h1.rt, h2.rt⟩

open Classical in
/-- Those of the first k nodes with a property. -/
noncomputable def selK (N : List Nd) (P : Pid → Prop) (k : Nat) : List Pid := ((idsN N).take k).filter fun a => decide (P a)
theorem selK_zero (N : List Nd) (P : Pid → Prop) : selK N P 0 = [] := by unfold selK; simp
open Classical in
theorem selK_next {N : List Nd} {P : Pid → Prop} {k : Nat} (hk : k < N.length) (h : P (N.getD k nd0).id) : selK N P (k + 1) = selK N P k ++ [(N.getD k nd0).id] := by
  unfold selK
  rw [take_next (by rw [idsN_len]; exact hk), List.filter_append, idsN_get hk, List.filter_cons, if_pos (decide_eq_true h), List.filter_nil]
open Classical in
theorem selK_miss {N : List Nd} {P : Pid → Prop} {k : Nat} (hk : k < N.length) (h : ¬ P (N.getD k nd0).id) : selK N P (k + 1) = selK N P k := by
  unfold selK
  rw [take_next (by rw [idsN_len]; exact hk), List.filter_append, idsN_get hk, List.filter_cons, if_neg (by rw [decide_eq_true_eq]; exact h), List.filter_nil, List.append_nil]
theorem selK_all (N : List Nd) (P : Pid → Prop) : selK N P N.length = selP N P := by
  unfold selK selP; rw [List.take_of_length_le (by rw [idsN_len]; exact Nat.le_refl _)]
theorem selK_len (N : List Nd) (P : Pid → Prop) (k : Nat) : (selK N P k).length ≤ k := by
  unfold selK
  refine Nat.le_trans (List.length_filter_le _ _) ?_
  rw [List.length_take]; omega

/-- The soonest one of some: as far as they have been looked at. -/
def FirstP (N : List Nd) (L D : List Pid) (k : Nat) (o : Option Pid) : Prop :=
  match o with
  | none => ∀ x ∈ L.take k, x ∈ D
  | some a => a ∈ L.take k ∧ ¬ a ∈ D ∧ ∀ x ∈ L.take k, x ∈ D ∨ x = a ∨ Soon N a x
theorem FirstP.start (N : List Nd) (L D : List Pid) : FirstP N L D 0 none := fun x hx => by simp at hx
theorem FirstP.known {N : List Nd} {L D : List Pid} {k : Nat} {o : Option Pid} (h : FirstP N L D k o) (hk : k < L.length) (hd : L.getD k nop ∈ D) : FirstP N L D (k + 1) o := by
  unfold FirstP at *
  rw [take_next hk]
  cases o with
  | none =>
    intro x hx
    rcases List.mem_append.1 hx with hx | hx
    · exact h x hx
    · rw [List.mem_singleton] at hx; rw [hx]; exact hd
  | some a =>
    refine ⟨List.mem_append_left _ h.1, h.2.1, fun x hx => ?_⟩
    rcases List.mem_append.1 hx with hx | hx
    · exact h.2.2 x hx
    · rw [List.mem_singleton] at hx; rw [hx]; exact .inl hd
theorem FirstP.later {N : List Nd} {L D : List Pid} {k : Nat} {a : Pid} (h : FirstP N L D k (some a)) (hk : k < L.length) (hs : ¬ Soon N (L.getD k nop) a) : FirstP N L D (k + 1) (some a) := by
  unfold FirstP at *
  rw [take_next hk]
  refine ⟨List.mem_append_left _ h.1, h.2.1, fun x hx => ?_⟩
  rcases List.mem_append.1 hx with hx | hx
  · exact h.2.2 x hx
  · rw [List.mem_singleton] at hx
    subst hx
    rcases Soon.tri N a (L.getD k nop) with hh | hh | hh
    · exact .inr (.inr hh)
    · exact .inr (.inl hh.symm)
    · exact absurd hh hs
theorem FirstP.take {N : List Nd} {L D : List Pid} {k : Nat} {o : Option Pid} (h : FirstP N L D k o) (hk : k < L.length) (hd : ¬ L.getD k nop ∈ D) (hs : ∀ a, o = some a → Soon N (L.getD k nop) a) : FirstP N L D (k + 1) (some (L.getD k nop)) := by
  unfold FirstP at *
  rw [take_next hk]
  refine ⟨List.mem_append_right _ (List.mem_singleton.2 rfl), hd, fun x hx => ?_⟩
  rcases List.mem_append.1 hx with hx | hx
  · cases o with
    | none => exact .inl (h x hx)
    | some a =>
      have hsa := hs a rfl
      rcases h.2.2 x hx with hh | hh | hh
      · exact .inl hh
      · subst hh; exact .inr (.inr hsa)
      · exact .inr (.inr (hsa.trans hh))
  · rw [List.mem_singleton] at hx; exact .inr (.inl hx)
/-- What l5First answers. -/
def FirstA (N : List Nd) (L D : List Pid) : Option Pid → Prop
  | none => ∀ x ∈ L, x ∈ D
  | some a => a ∈ L ∧ ¬ a ∈ D ∧ ∀ x ∈ L, x ∈ D ∨ x = a ∨ Soon N a x
theorem FirstP.all {N : List Nd} {L D : List Pid} {o : Option Pid} (h : FirstP N L D L.length o) : FirstA N L D o := by
  unfold FirstP at h
  rw [List.take_length] at h
  cases o <;> exact h

/-- A group that is being put behind others: M are there already. -/
structure Gro (N : List Nd) (a : Pid) (A M : List Pid) : Prop where
  sub : ∀ x ∈ M, Sc (EI N) a x
  srt : M.Pairwise (Soon N)
  low : ∀ x ∈ M, ∀ y, Sc (EI N) a y → ¬ y ∈ M → Soon N x y
theorem Gro.start (N : List Nd) (a : Pid) (A : List Pid) : Gro N a A [] := ⟨fun _ h => (nomatch h), List.Pairwise.nil, fun _ h => nomatch h⟩
theorem Gro.next {N : List Nd} {a b : Pid} {A M : List Pid} (h : Gro N a A M) (hb : Sc (EI N) a b) (hn : ¬ b ∈ A ++ M) (hl : ∀ x, Sc (EI N) a x → x ∈ A ++ M ∨ x = b ∨ Soon N b x) (hA : ∀ x, Sc (EI N) a x → ¬ x ∈ A) : Gro N a A (M ++ [b]) := by
  have hbM : ¬ b ∈ M := fun hh => hn (List.mem_append_right _ hh)
  refine ⟨fun x hx => ?_, List.pairwise_append.2 ⟨h.srt, List.pairwise_singleton _ _, fun x hx y hy => ?_⟩, fun x hx y hy hny => ?_⟩
  · rcases List.mem_append.1 hx with hx | hx
    · exact h.sub x hx
    · rw [List.mem_singleton] at hx; rw [hx]; exact hb
  · rw [List.mem_singleton] at hy
    subst hy; exact h.low x hx _ hb hbM
  · have hyM : ¬ y ∈ M := fun hh => hny (List.mem_append_left _ hh)
    rcases List.mem_append.1 hx with hx | hx
    · exact h.low x hx y hy hyM
    · rw [List.mem_singleton] at hx
      subst hx
      rcases hl y hy with hh | hh | hh
      · rcases List.mem_append.1 hh with hh | hh
        · exact absurd hh (hA y hy)
        · exact absurd hh hyM
      · exact absurd (List.mem_append_right _ (List.mem_singleton.2 hh)) hny
      · exact hh
/-- What has run so far, of the whole order. -/
def Pre (N : List Nd) (A : List Pid) : Prop := Clo N (fun b => b ∈ A) ∧ A.Nodup ∧ (∀ x ∈ A, x ∈ idsN N) ∧ ∀ L, Ord N (fun b => b ∈ A) L → Ord N (fun _ => False) (A ++ L)
theorem Pre.start (N : List Nd) : Pre N [] := ⟨fun a b h => (nomatch h), List.nodup_nil, fun _ h => (nomatch h), fun L h => by simpa using h⟩
theorem Pre.stop {N : List Nd} {A : List Pid} (h : Pre N A) (hn : ∀ a, ¬ FreeI N (fun b => b ∈ A) a) : Ord N (fun _ => False) A := by
  have := h.2.2.2 [] (.stop _ hn); simpa using this
theorem Pre.next {N : List Nd} {A M : List Pid} {a : Pid} (h : Pre N A) (hi : FreeI N (fun b => b ∈ A) a) (hf : ∀ b, FreeI N (fun b => b ∈ A) b → b = a ∨ Soon N a b) (hM : ∀ b, b ∈ M ↔ Sc (EI N) a b) (hs : M.Pairwise (Soon N)) : Pre N (A ++ M) := by
  have hR : (fun b => b ∈ A ++ M) = fun b => b ∈ A ∨ b ∈ M := by funext b; exact propext List.mem_append
  have hnew := hi.new hM h.1
  refine ⟨by rw [hR]; exact hi.clo hM h.1, List.nodup_append.2 ⟨h.2.1, soon_nodup hs, fun x hx y hy e => ?_⟩, fun x hx => ?_, fun L hL => ?_⟩
  · subst e; exact (hnew x hy).1 hx
  · rcases List.mem_append.1 hx with hx | hx
    · exact h.2.2.1 x hx
    · exact (hnew x hx).2.1
  · rw [hR] at hL
    rw [List.append_assoc]
    exact h.2.2.2 _ (.run _ a M L hi hf hM hs hL)
theorem nodup_len : ∀ {A B : List Pid}, A.Nodup → (∀ x ∈ A, x ∈ B) → A.length ≤ B.length
  | [], B, _, _ => Nat.zero_le _
  | a :: A, B, h, hs => by
    have h' := List.nodup_cons.1 h
    have ha := hs a List.mem_cons_self
    obtain ⟨X, Y, rfl⟩ := List.append_of_mem ha
    have := nodup_len (B := X ++ Y) h'.2 fun x hx => by
      have hxx := hs x (List.mem_cons_of_mem _ hx)
      rcases List.mem_append.1 hxx with h1 | h1
      · exact List.mem_append_left _ h1
      · rcases List.mem_cons.1 h1 with e | h1
        · subst e; exact absurd hx h'.1
        · exact List.mem_append_right _ h1
    simp only [List.length_append, List.length_cons] at this ⊢
    omega
theorem Pre.len {N : List Nd} {A : List Pid} (h : Pre N A) : A.length ≤ N.length := by rw [← idsN_len]; exact nodup_len h.2.1 h.2.2.1
/-- With as many as there are nodes, all have run. -/
theorem Pre.full {N : List Nd} {A : List Pid} (h : Pre N A) (hl : N.length ≤ A.length) : ∀ a, ¬ FreeI N (fun b => b ∈ A) a := by
  intro a hf
  have := nodup_len (A := a :: A) (B := idsN N) (List.nodup_cons.2 ⟨hf.2.1, h.2.1⟩) (fun x hx => by
    rcases List.mem_cons.1 hx with e | hx
    · subst e; exact hf.1
    · exact h.2.2.1 x hx)
  rw [idsN_len, List.length_cons] at this
  omega
end Go.Proofs.Ytbklkhndjckckaa

/- The model's l5At. -/
namespace Go.Proofs.Ytbklkhndjckckaa
open Go.RowKit
set_option linter.unusedVariables false

/-- Where a node is. -/
def AtP (N : List Nd) (a : Pid) (z : Int) : Prop := (z = -1 ∧ ¬ a ∈ idsN N) ∨ ∃ k : Nat, z = k ∧ k < N.length ∧ (N.getD k nd0).id = a
theorem AtP.none {N : List Nd} {a : Pid} (h : ∀ j, j < N.length → ¬ (N.getD j nd0).id = a) : AtP N a (-1) := by
  refine .inl ⟨rfl, fun hm => ?_⟩
  obtain ⟨k, hk, e⟩ := mem_idsN.1 hm
  exact h k hk e

set_option maxRecDepth 100000 in
set_option maxHeartbeats 2000000 in
theorem sat_at (b off ca : Nat) (N : List Nd) (x y : Int) (w : World) (hb : b < w.heap.size) (hm : N.length ≤ 2000000) (h : ∀ i, i < N.length → NdIn w b (off + i * 4) (N.getD i nd0)) :
    Calls Try.prog 53 #[.slice (some ⟨b, off, none⟩) N.length ca, .agg #[.int .i64 x, .int .i64 y]] w fun e w' => (∃ z, e = .returned (.int .i64 z) ∧ AtP N (x, y) z) ∧ Below w.heap.size w w' := by
  have h := Lib.hid h
  obtain ⟨n, hn⟩ : ∃ n, Hid (N.length = n) := ⟨_, Lib.hid rfl⟩
  rw [hn.out] at hm ⊢
  go_enter Try.func53, Try.ntmps53
  go_wp2_with fail
  go_loopw [5] (fun i wr => ∃ k : Nat, k ≤ n ∧ i = .int .i64 k ∧ Hid (∀ j, j < k → ¬ (N.getD j nd0).id = (x, y)) ∧ wr.cell? ⟨w.heap.size, 0, none⟩ = some (.int .i64 x) ∧ wr.cell? ⟨w.heap.size, 1, none⟩ = some (.int .i64 y) ∧ Below w.heap.size w wr) (fun i _ => n - (intOf i).toNat)
  case atStart => exact ⟨0, Nat.zero_le _, rfl, Lib.hid (fun j hj => absurd hj (Nat.not_lt_zero _)), by go_simp, by go_simp, (Below.refl _ _).alloc (Nat.le_refl _) _⟩
  case round =>
    obtain ⟨k, hk, rfl, hno, x0, x1, hnx⟩ := hrel
    by_cases hlt : k < n
    · obtain ⟨_, _, _, h0, h1, _, _, _⟩ := h.out k (by rw [hn.out]; exact hlt)
      have q0 := (hnx.cell (p := ⟨b, off + k * 4, none⟩) hb).trans h0
      have q1 := (hnx.cell (p := ⟨b, off + k * 4 + 1, none⟩) hb).trans h1
      clear h0 h1
      obtain ⟨c, hc⟩ : ∃ c, Hid ((N.getD k nd0).id = c) := ⟨_, Lib.hid rfl⟩
      rw [hc.out] at q0 q1
      obtain ⟨p, r⟩ := c
      dsimp only at q0 q1
      have hnx := Lib.hid hnx
      clear h
      by_cases e1 : p = x
      · subst e1
        by_cases e2 : r = y
        · subst e2
          have R := Lib.hid (show AtP N (p, r) k from .inr ⟨k, rfl, by rw [hn.out]; exact hlt, hc.out⟩)
          go_wp2_with fail
          go_quiet (fail)
          go_wp2_with fail
          go_ret
          exact ⟨⟨_, rfl, R.out⟩, bdrewN hnx.out _⟩
        · have R := Lib.hid (up_to hno.out (show ¬ (N.getD k nd0).id = (p, y) by rw [hc.out]; intro e; exact e2 (congrArg Prod.snd e)))
          go_wp2_with fail
          go_quiet (fail)
          go_wp2_with fail
          go_roundw
          case rel => exact ⟨k + 1, by omega, by go_num, R, by go_simp, by go_simp, bdrewN hnx.out _⟩
          case measure => simp [intOf]; omega
      · have R := Lib.hid (up_to hno.out (show ¬ (N.getD k nd0).id = (x, y) by rw [hc.out]; intro e; exact e1 (congrArg Prod.fst e)))
        go_wp2_with fail
        go_quiet (fail)
        go_wp2_with fail
        go_roundw
        case rel => exact ⟨k + 1, by omega, by go_num, R, by go_simp, by go_simp, bdrewN hnx.out _⟩
        case measure => simp [intOf]; omega
    · obtain rfl : k = n := by omega
      have R := Lib.hid (AtP.none (N := N) (fun j hj => hno.out j (by rw [← hn.out]; exact hj)))
      have hnx := Lib.hid hnx
      clear h hno
      go_wp2_with fail
      go_ret
      exact ⟨⟨_, rfl, R.out⟩, hnx.out⟩

theorem sat_nil (a : Option Addr) (ca : Nat) (x y : Int) (w : World) :
    Calls Try.prog 53 #[.slice a 0 ca, .agg #[.int .i64 x, .int .i64 y]] w fun e w' => (∃ z, e = .returned (.int .i64 z) ∧ AtP [] (x, y) z) ∧ Below w.heap.size w w' := by
  have R : AtP [] (x, y) (-1) := .inl ⟨rfl, by simp [idsN]⟩
  go_enter Try.func53, Try.ntmps53
  go_wp2_with fail
  refine wp_loop_rounds 1 ?_
  rw [rounds_succ]
  go_wp2_with fail
  go_ret
  exact ⟨⟨_, rfl, R⟩, (Below.refl _ _).alloc (Nat.le_refl _) _⟩

theorem sat_any (u : Value) (N : List Nd) (x y : Int) (w : World) (h : Nds w u N) :
    Calls Try.prog 53 #[u, .agg #[.int .i64 x, .int .i64 y]] w fun e w' => (∃ z, e = .returned (.int .i64 z) ∧ AtP N (x, y) z) ∧ Below w.heap.size w w' := by
  obtain ⟨a, cap, rfl, h1, h2, h3⟩ := h
  rcases h3 with h3 | ⟨b, off, rfl, h4, h5⟩
  · obtain rfl : N = [] := List.length_eq_zero_iff.1 h3
    exact sat_nil a cap x y w
  · exact sat_at b off cap N x y w h4 h2 h5
end Go.Proofs.Ytbklkhndjckckaa

/- The laws' copies of ids. -/
namespace Go.Proofs.Ytbklkhndjckckaa
open Go.RowKit
set_option linter.unusedVariables false

theorem toId_any (r n : Int) (w : World) :
    Calls Try.prog 25 #[.agg #[.int .i64 r, .int .i64 n]] w fun e w' => e = .returned (.agg #[.int .i64 r, .int .i64 n]) ∧ Below w.heap.size w w' := by
  go_enter Try.func25, Try.ntmps25
  go_wp2_with fail
  exact bodyPost_ret (v := .agg #[.int .i64 r, .int .i64 n]) (by simp [results, Try.results25, go_sem]) rfl ⟨rfl, by repeat (first | with_reducible exact Below.refl _ _ | with_reducible refine Below.setCell ?_ (by first | (simp; done) | (simp; omega)) _ | with_reducible refine Below.alloc ?_ (by first | (simp; done) | (simp; omega)) _)⟩

end Go.Proofs.Ytbklkhndjckckaa
