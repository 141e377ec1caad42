/- CommandsClash of the program, at two valid commands of one key. -/
import Derived.Test.YtmekkjnegmeogaaKc
namespace Go.Proofs.Ytmekkjnegmeogaa
open Go.RowKit
set_option linter.unusedVariables false

theorem as_rr (v : Value) (w : World) : (Instr.typeAssert (.iface 79 v) 64 79 true).run Try.prog w = .ok (.tuple #[v, .bool true]) w := by kernel_rfl
theorem as_rp (v : Value) (w : World) : (Instr.typeAssert (.iface 79 v) 64 81 true).run Try.prog w = .ok (.tuple #[.agg #[.int .i64 0, .int .i64 0], .bool false]) w := by kernel_rfl
theorem as_ra (v : Value) (w : World) : (Instr.typeAssert (.iface 79 v) 64 82 true).run Try.prog w = .ok (.tuple #[.agg #[.int .i64 0, .int .i64 0], .bool false]) w := by kernel_rfl
theorem as_pr (v : Value) (w : World) : (Instr.typeAssert (.iface 81 v) 64 79 true).run Try.prog w = .ok (.tuple #[.agg #[.int .i64 0], .bool false]) w := by kernel_rfl
theorem as_pp (v : Value) (w : World) : (Instr.typeAssert (.iface 81 v) 64 81 true).run Try.prog w = .ok (.tuple #[v, .bool true]) w := by kernel_rfl
theorem as_pa (v : Value) (w : World) : (Instr.typeAssert (.iface 81 v) 64 82 true).run Try.prog w = .ok (.tuple #[.agg #[.int .i64 0, .int .i64 0], .bool false]) w := by kernel_rfl
theorem as_ar (v : Value) (w : World) : (Instr.typeAssert (.iface 82 v) 64 79 true).run Try.prog w = .ok (.tuple #[.agg #[.int .i64 0], .bool false]) w := by kernel_rfl
theorem as_ap (v : Value) (w : World) : (Instr.typeAssert (.iface 82 v) 64 81 true).run Try.prog w = .ok (.tuple #[.agg #[.int .i64 0, .int .i64 0], .bool false]) w := by kernel_rfl
theorem as_aa (v : Value) (w : World) : (Instr.typeAssert (.iface 82 v) 64 82 true).run Try.prog w = .ok (.tuple #[v, .bool true]) w := by kernel_rfl
theorem as_nr (v : Value) (w : World) : (Instr.typeAssert (.iface 84 v) 64 79 true).run Try.prog w = .ok (.tuple #[.agg #[.int .i64 0], .bool false]) w := by kernel_rfl
theorem as_np (v : Value) (w : World) : (Instr.typeAssert (.iface 84 v) 64 81 true).run Try.prog w = .ok (.tuple #[.agg #[.int .i64 0, .int .i64 0], .bool false]) w := by kernel_rfl
theorem as_na (v : Value) (w : World) : (Instr.typeAssert (.iface 84 v) 64 82 true).run Try.prog w = .ok (.tuple #[.agg #[.int .i64 0, .int .i64 0], .bool false]) w := by kernel_rfl

set_option maxHeartbeats 4000000 in
theorem iclash_no (k key v k' key' v' : Int) (w : World) (h : ¬ (cvB k key v = true ∧ cvB k' key' v' = true ∧ key = key')) :
    Calls Try.prog 28 #[.agg #[.int .i64 k, .int .i64 key, .int .i64 v], .agg #[.int .i64 k', .int .i64 key', .int .i64 v']] w fun e w' => e = .returned (.bool (clB k key v k' key' v')) ∧ Below w.heap.size w w' := by
  have s1 := act_any k key v
  have s2 := act_any k' key' v'
  have e : clB k key v k' key' v' = false := by
    unfold clB kcB
    by_cases h1 : cvB k key v = true
    · by_cases h2 : cvB k' key' v' = true
      · have h3 : ¬ key = key' := fun h3 => h ⟨h1, h2, h3⟩
        simp [h3]
      · simp [h2]
    · simp [h1]
  rw [e]; clear e
  have main : (cvB k key v = false) ∨ (cvB k key v = true ∧ cvB k' key' v' = false) ∨ (cvB k key v = true ∧ cvB k' key' v' = true ∧ (key == key') = false) := by
    by_cases h1 : cvB k key v = true
    · by_cases h2 : cvB k' key' v' = true
      · exact .inr (.inr ⟨h1, h2, by simpa using fun h3 => h ⟨h1, h2, h3⟩⟩)
      · exact .inr (.inl ⟨h1, by simpa using h2⟩)
    · exact .inl (by simpa using h1)
  clear h
  generalize actV k key v = x1 at s1
  generalize actV k' key' v' = x2 at s2
  generalize hq1 : cvB k key v = q1 at s1 main
  generalize hq2 : cvB k' key' v' = q2 at s2 main
  clear hq1 hq2
  rcases main with rfl | ⟨rfl, rfl⟩ | ⟨rfl, rfl, hkk⟩
  all_goals
    go_enter Try.func28, Try.ntmps28
    go_wp2_with fail
    refine (s1 _).mono ?_
    rintro e w1 ⟨rfl, hb1⟩
    obtain ⟨A1, B1, z1, D1⟩ := boxes2 hb1
    obtain ⟨a1, a2, a3, _, _, _⟩ := blk3 A1
    obtain ⟨b1, b2, b3, _, _, _⟩ := blk3 B1
    have A1 := Lib.hid A1; have B1 := Lib.hid B1; have D1 := Lib.hid D1; clear hb1
    go_wp2_with fail
    refine (s2 _).mono ?_
    rintro e w2 ⟨rfl, hb2⟩
    have A2 := (hb2.block w.heap.size (by omega)).trans A1.out
    have B2 := (hb2.block (w.heap.size + 1) (by omega)).trans B1.out
    obtain ⟨c1, c2, c3, _, _, _⟩ := blk3 A2
    obtain ⟨d1, d2, d3, _, _, _⟩ := blk3 B2
    have D2 := Lib.hid (D1.out.trans (hb2.mono (by omega)))
    have z2 := hb2.size
    clear hb2 A2 B2 a1 a2 a3 b1 b2 b3
    go_wp2_with fail
    go_ret
    exact ⟨rfl, D2.out⟩

set_option maxHeartbeats 1000000 in
theorem iclash_rr (key : Int) (w : World) (h1 : 0 ≤ key) (h2 : key ≤ 5) :
    Calls Try.prog 28 #[.agg #[.int .i64 0, .int .i64 key, .int .i64 0], .agg #[.int .i64 0, .int .i64 key, .int .i64 0]] w fun e w' => e = .returned (.bool false) ∧ Below w.heap.size w w' := by
  have s1 := fun w => act_r key w h1 h2
  have s2 := fun w => act_r key w h1 h2
  have tp := as_rp
  have ta := as_ra
  have hm : ∀ w : World, (method 202 79 (.agg #[.int .i64 key]) "loop.example/leaderlesslog/impl.clashes").run Try.prog w = .ok (65, (.agg #[.int .i64 key])) w := fun _ => by kernel_rfl
  go_enter Try.func28, Try.ntmps28
  go_wp2_with fail
  refine (s1 _).mono ?_
  rintro e w1 ⟨rfl, hb1⟩
  obtain ⟨A1, B1, z1, D1⟩ := boxes2 hb1
  obtain ⟨a1, a2, a3, _, _, _⟩ := blk3 A1
  obtain ⟨b1, b2, b3, _, _, _⟩ := blk3 B1
  have A1 := Lib.hid A1; have B1 := Lib.hid B1; have D1 := Lib.hid D1; clear hb1
  go_wp2_with fail
  refine (s2 _).mono ?_
  rintro e w2 ⟨rfl, hb2⟩
  have A2 := (hb2.block w.heap.size (by omega)).trans A1.out
  have B2 := (hb2.block (w.heap.size + 1) (by omega)).trans B1.out
  obtain ⟨c1, c2, c3, _, _, _⟩ := blk3 A2
  obtain ⟨d1, d2, d3, _, _, _⟩ := blk3 B2
  have D2 := Lib.hid (D1.out.trans (hb2.mono (by omega)))
  have z2 := hb2.size
  have z2 : w.heap.size + 2 ≤ w2.heap.size := by omega
  clear hb2 A2 B2 a1 a2 a3 b1 b2 b3 s1 s2
  go_wp2
  go_ret
  exact ⟨rfl, by have X := D2.out; clear D2; repeat (first | with_reducible exact X | with_reducible refine Below.alloc ?_ (by omega) _)⟩
set_option maxHeartbeats 1000000 in
theorem iclash_rp (key v' : Int) (w : World) (h1 : 0 ≤ key) (h2 : key ≤ 5) (h5 : 0 ≤ v') (h6 : v' ≤ 99) :
    Calls Try.prog 28 #[.agg #[.int .i64 0, .int .i64 key, .int .i64 0], .agg #[.int .i64 1, .int .i64 key, .int .i64 v']] w fun e w' => e = .returned (.bool true) ∧ Below w.heap.size w w' := by
  have s1 := fun w => act_r key w h1 h2
  have s2 := fun w => act_p key v' w h1 h2 h5 h6
  have tp := as_pp
  have ta := as_pa
  have hm : ∀ w : World, (method 202 79 (.agg #[.int .i64 key]) "loop.example/leaderlesslog/impl.clashes").run Try.prog w = .ok (65, (.agg #[.int .i64 key])) w := fun _ => by kernel_rfl
  go_enter Try.func28, Try.ntmps28
  go_wp2_with fail
  refine (s1 _).mono ?_
  rintro e w1 ⟨rfl, hb1⟩
  obtain ⟨A1, B1, z1, D1⟩ := boxes2 hb1
  obtain ⟨a1, a2, a3, _, _, _⟩ := blk3 A1
  obtain ⟨b1, b2, b3, _, _, _⟩ := blk3 B1
  have A1 := Lib.hid A1; have B1 := Lib.hid B1; have D1 := Lib.hid D1; clear hb1
  go_wp2_with fail
  refine (s2 _).mono ?_
  rintro e w2 ⟨rfl, hb2⟩
  have A2 := (hb2.block w.heap.size (by omega)).trans A1.out
  have B2 := (hb2.block (w.heap.size + 1) (by omega)).trans B1.out
  obtain ⟨c1, c2, c3, _, _, _⟩ := blk3 A2
  obtain ⟨d1, d2, d3, _, _, _⟩ := blk3 B2
  have D2 := Lib.hid (D1.out.trans (hb2.mono (by omega)))
  have z2 := hb2.size
  have z2 : w.heap.size + 2 ≤ w2.heap.size := by omega
  clear hb2 A2 B2 a1 a2 a3 b1 b2 b3 s1 s2
  go_wp2
  go_ret
  exact ⟨rfl, by have X := D2.out; clear D2; repeat (first | with_reducible exact X | with_reducible refine Below.alloc ?_ (by omega) _)⟩
set_option maxHeartbeats 1000000 in
theorem iclash_ra (key v' : Int) (w : World) (h1 : 0 ≤ key) (h2 : key ≤ 5) (h5 : 0 ≤ v') (h6 : v' ≤ 99) :
    Calls Try.prog 28 #[.agg #[.int .i64 0, .int .i64 key, .int .i64 0], .agg #[.int .i64 2, .int .i64 key, .int .i64 v']] w fun e w' => e = .returned (.bool true) ∧ Below w.heap.size w w' := by
  have s1 := fun w => act_r key w h1 h2
  have s2 := fun w => act_a key v' w h1 h2 h5 h6
  have tp := as_ap
  have ta := as_aa
  have hm : ∀ w : World, (method 202 79 (.agg #[.int .i64 key]) "loop.example/leaderlesslog/impl.clashes").run Try.prog w = .ok (65, (.agg #[.int .i64 key])) w := fun _ => by kernel_rfl
  go_enter Try.func28, Try.ntmps28
  go_wp2_with fail
  refine (s1 _).mono ?_
  rintro e w1 ⟨rfl, hb1⟩
  obtain ⟨A1, B1, z1, D1⟩ := boxes2 hb1
  obtain ⟨a1, a2, a3, _, _, _⟩ := blk3 A1
  obtain ⟨b1, b2, b3, _, _, _⟩ := blk3 B1
  have A1 := Lib.hid A1; have B1 := Lib.hid B1; have D1 := Lib.hid D1; clear hb1
  go_wp2_with fail
  refine (s2 _).mono ?_
  rintro e w2 ⟨rfl, hb2⟩
  have A2 := (hb2.block w.heap.size (by omega)).trans A1.out
  have B2 := (hb2.block (w.heap.size + 1) (by omega)).trans B1.out
  obtain ⟨c1, c2, c3, _, _, _⟩ := blk3 A2
  obtain ⟨d1, d2, d3, _, _, _⟩ := blk3 B2
  have D2 := Lib.hid (D1.out.trans (hb2.mono (by omega)))
  have z2 := hb2.size
  have z2 : w.heap.size + 2 ≤ w2.heap.size := by omega
  clear hb2 A2 B2 a1 a2 a3 b1 b2 b3 s1 s2
  go_wp2
  go_ret
  exact ⟨rfl, by have X := D2.out; clear D2; repeat (first | with_reducible exact X | with_reducible refine Below.alloc ?_ (by omega) _)⟩
set_option maxHeartbeats 1000000 in
theorem iclash_rn (w : World) :
    Calls Try.prog 28 #[.agg #[.int .i64 0, .int .i64 0, .int .i64 0], .agg #[.int .i64 3, .int .i64 0, .int .i64 0]] w fun e w' => e = .returned (.bool false) ∧ Below w.heap.size w w' := by
  have s1 := fun w => act_r 0 w (by decide) (by decide)
  have s2 := act_n
  have tp := as_np
  have ta := as_na
  have hm : ∀ w : World, (method 202 79 (.agg #[.int .i64 0]) "loop.example/leaderlesslog/impl.clashes").run Try.prog w = .ok (65, (.agg #[.int .i64 0])) w := fun _ => by kernel_rfl
  go_enter Try.func28, Try.ntmps28
  go_wp2_with fail
  refine (s1 _).mono ?_
  rintro e w1 ⟨rfl, hb1⟩
  obtain ⟨A1, B1, z1, D1⟩ := boxes2 hb1
  obtain ⟨a1, a2, a3, _, _, _⟩ := blk3 A1
  obtain ⟨b1, b2, b3, _, _, _⟩ := blk3 B1
  have A1 := Lib.hid A1; have B1 := Lib.hid B1; have D1 := Lib.hid D1; clear hb1
  go_wp2_with fail
  refine (s2 _).mono ?_
  rintro e w2 ⟨rfl, hb2⟩
  have A2 := (hb2.block w.heap.size (by omega)).trans A1.out
  have B2 := (hb2.block (w.heap.size + 1) (by omega)).trans B1.out
  obtain ⟨c1, c2, c3, _, _, _⟩ := blk3 A2
  obtain ⟨d1, d2, d3, _, _, _⟩ := blk3 B2
  have D2 := Lib.hid (D1.out.trans (hb2.mono (by omega)))
  have z2 := hb2.size
  have z2 : w.heap.size + 2 ≤ w2.heap.size := by omega
  clear hb2 A2 B2 a1 a2 a3 b1 b2 b3 s1 s2
  go_wp2
  go_ret
  exact ⟨rfl, by have X := D2.out; clear D2; repeat (first | with_reducible exact X | with_reducible refine Below.alloc ?_ (by omega) _)⟩
set_option maxHeartbeats 1000000 in
theorem iclash_pr (key v : Int) (w : World) (h1 : 0 ≤ key) (h2 : key ≤ 5) (h3 : 0 ≤ v) (h4 : v ≤ 99) :
    Calls Try.prog 28 #[.agg #[.int .i64 1, .int .i64 key, .int .i64 v], .agg #[.int .i64 0, .int .i64 key, .int .i64 0]] w fun e w' => e = .returned (.bool true) ∧ Below w.heap.size w w' := by
  have s1 := fun w => act_p key v w h1 h2 h3 h4
  have s2 := fun w => act_r key w h1 h2
  have tr := as_rr
  have tp := as_rp
  have ta := as_ra
  have hm : ∀ w : World, (method 202 81 (.agg #[.int .i64 key, .int .i64 v]) "loop.example/leaderlesslog/impl.clashes").run Try.prog w = .ok (67, (.agg #[.int .i64 key, .int .i64 v])) w := fun _ => by kernel_rfl
  go_enter Try.func28, Try.ntmps28
  go_wp2_with fail
  refine (s1 _).mono ?_
  rintro e w1 ⟨rfl, hb1⟩
  obtain ⟨A1, B1, z1, D1⟩ := boxes2 hb1
  obtain ⟨a1, a2, a3, _, _, _⟩ := blk3 A1
  obtain ⟨b1, b2, b3, _, _, _⟩ := blk3 B1
  have A1 := Lib.hid A1; have B1 := Lib.hid B1; have D1 := Lib.hid D1; clear hb1
  go_wp2_with fail
  refine (s2 _).mono ?_
  rintro e w2 ⟨rfl, hb2⟩
  have A2 := (hb2.block w.heap.size (by omega)).trans A1.out
  have B2 := (hb2.block (w.heap.size + 1) (by omega)).trans B1.out
  obtain ⟨c1, c2, c3, _, _, _⟩ := blk3 A2
  obtain ⟨d1, d2, d3, _, _, _⟩ := blk3 B2
  have D2 := Lib.hid (D1.out.trans (hb2.mono (by omega)))
  have z2 := hb2.size
  have z2 : w.heap.size + 2 ≤ w2.heap.size := by omega
  clear hb2 A2 B2 a1 a2 a3 b1 b2 b3 s1 s2
  go_wp2
  go_ret
  exact ⟨rfl, by have X := D2.out; clear D2; repeat (first | with_reducible exact X | with_reducible refine Below.alloc ?_ (by omega) _)⟩
set_option maxHeartbeats 1000000 in
theorem iclash_pp (key v v' : Int) (w : World) (h1 : 0 ≤ key) (h2 : key ≤ 5) (h3 : 0 ≤ v) (h4 : v ≤ 99) (h5 : 0 ≤ v') (h6 : v' ≤ 99) :
    Calls Try.prog 28 #[.agg #[.int .i64 1, .int .i64 key, .int .i64 v], .agg #[.int .i64 1, .int .i64 key, .int .i64 v']] w fun e w' => e = .returned (.bool true) ∧ Below w.heap.size w w' := by
  have s1 := fun w => act_p key v w h1 h2 h3 h4
  have s2 := fun w => act_p key v' w h1 h2 h5 h6
  have tr := as_pr
  have tp := as_pp
  have ta := as_pa
  have hm : ∀ w : World, (method 202 81 (.agg #[.int .i64 key, .int .i64 v]) "loop.example/leaderlesslog/impl.clashes").run Try.prog w = .ok (67, (.agg #[.int .i64 key, .int .i64 v])) w := fun _ => by kernel_rfl
  go_enter Try.func28, Try.ntmps28
  go_wp2_with fail
  refine (s1 _).mono ?_
  rintro e w1 ⟨rfl, hb1⟩
  obtain ⟨A1, B1, z1, D1⟩ := boxes2 hb1
  obtain ⟨a1, a2, a3, _, _, _⟩ := blk3 A1
  obtain ⟨b1, b2, b3, _, _, _⟩ := blk3 B1
  have A1 := Lib.hid A1; have B1 := Lib.hid B1; have D1 := Lib.hid D1; clear hb1
  go_wp2_with fail
  refine (s2 _).mono ?_
  rintro e w2 ⟨rfl, hb2⟩
  have A2 := (hb2.block w.heap.size (by omega)).trans A1.out
  have B2 := (hb2.block (w.heap.size + 1) (by omega)).trans B1.out
  obtain ⟨c1, c2, c3, _, _, _⟩ := blk3 A2
  obtain ⟨d1, d2, d3, _, _, _⟩ := blk3 B2
  have D2 := Lib.hid (D1.out.trans (hb2.mono (by omega)))
  have z2 := hb2.size
  have z2 : w.heap.size + 2 ≤ w2.heap.size := by omega
  clear hb2 A2 B2 a1 a2 a3 b1 b2 b3 s1 s2
  go_wp2
  go_ret
  exact ⟨rfl, by have X := D2.out; clear D2; repeat (first | with_reducible exact X | with_reducible refine Below.alloc ?_ (by omega) _)⟩
set_option maxHeartbeats 1000000 in
theorem iclash_pa (key v v' : Int) (w : World) (h1 : 0 ≤ key) (h2 : key ≤ 5) (h3 : 0 ≤ v) (h4 : v ≤ 99) (h5 : 0 ≤ v') (h6 : v' ≤ 99) :
    Calls Try.prog 28 #[.agg #[.int .i64 1, .int .i64 key, .int .i64 v], .agg #[.int .i64 2, .int .i64 key, .int .i64 v']] w fun e w' => e = .returned (.bool true) ∧ Below w.heap.size w w' := by
  have s1 := fun w => act_p key v w h1 h2 h3 h4
  have s2 := fun w => act_a key v' w h1 h2 h5 h6
  have tr := as_ar
  have tp := as_ap
  have ta := as_aa
  have hm : ∀ w : World, (method 202 81 (.agg #[.int .i64 key, .int .i64 v]) "loop.example/leaderlesslog/impl.clashes").run Try.prog w = .ok (67, (.agg #[.int .i64 key, .int .i64 v])) w := fun _ => by kernel_rfl
  go_enter Try.func28, Try.ntmps28
  go_wp2_with fail
  refine (s1 _).mono ?_
  rintro e w1 ⟨rfl, hb1⟩
  obtain ⟨A1, B1, z1, D1⟩ := boxes2 hb1
  obtain ⟨a1, a2, a3, _, _, _⟩ := blk3 A1
  obtain ⟨b1, b2, b3, _, _, _⟩ := blk3 B1
  have A1 := Lib.hid A1; have B1 := Lib.hid B1; have D1 := Lib.hid D1; clear hb1
  go_wp2_with fail
  refine (s2 _).mono ?_
  rintro e w2 ⟨rfl, hb2⟩
  have A2 := (hb2.block w.heap.size (by omega)).trans A1.out
  have B2 := (hb2.block (w.heap.size + 1) (by omega)).trans B1.out
  obtain ⟨c1, c2, c3, _, _, _⟩ := blk3 A2
  obtain ⟨d1, d2, d3, _, _, _⟩ := blk3 B2
  have D2 := Lib.hid (D1.out.trans (hb2.mono (by omega)))
  have z2 := hb2.size
  have z2 : w.heap.size + 2 ≤ w2.heap.size := by omega
  clear hb2 A2 B2 a1 a2 a3 b1 b2 b3 s1 s2
  go_wp2
  go_ret
  exact ⟨rfl, by have X := D2.out; clear D2; repeat (first | with_reducible exact X | with_reducible refine Below.alloc ?_ (by omega) _)⟩
set_option maxHeartbeats 1000000 in
theorem iclash_pn (v : Int) (w : World) (h3 : 0 ≤ v) (h4 : v ≤ 99) :
    Calls Try.prog 28 #[.agg #[.int .i64 1, .int .i64 0, .int .i64 v], .agg #[.int .i64 3, .int .i64 0, .int .i64 0]] w fun e w' => e = .returned (.bool false) ∧ Below w.heap.size w w' := by
  have s1 := fun w => act_p 0 v w (by decide) (by decide) h3 h4
  have s2 := act_n
  have tr := as_nr
  have tp := as_np
  have ta := as_na
  have hm : ∀ w : World, (method 202 81 (.agg #[.int .i64 0, .int .i64 v]) "loop.example/leaderlesslog/impl.clashes").run Try.prog w = .ok (67, (.agg #[.int .i64 0, .int .i64 v])) w := fun _ => by kernel_rfl
  go_enter Try.func28, Try.ntmps28
  go_wp2_with fail
  refine (s1 _).mono ?_
  rintro e w1 ⟨rfl, hb1⟩
  obtain ⟨A1, B1, z1, D1⟩ := boxes2 hb1
  obtain ⟨a1, a2, a3, _, _, _⟩ := blk3 A1
  obtain ⟨b1, b2, b3, _, _, _⟩ := blk3 B1
  have A1 := Lib.hid A1; have B1 := Lib.hid B1; have D1 := Lib.hid D1; clear hb1
  go_wp2_with fail
  refine (s2 _).mono ?_
  rintro e w2 ⟨rfl, hb2⟩
  have A2 := (hb2.block w.heap.size (by omega)).trans A1.out
  have B2 := (hb2.block (w.heap.size + 1) (by omega)).trans B1.out
  obtain ⟨c1, c2, c3, _, _, _⟩ := blk3 A2
  obtain ⟨d1, d2, d3, _, _, _⟩ := blk3 B2
  have D2 := Lib.hid (D1.out.trans (hb2.mono (by omega)))
  have z2 := hb2.size
  have z2 : w.heap.size + 2 ≤ w2.heap.size := by omega
  clear hb2 A2 B2 a1 a2 a3 b1 b2 b3 s1 s2
  go_wp2
  go_ret
  exact ⟨rfl, by have X := D2.out; clear D2; repeat (first | with_reducible exact X | with_reducible refine Below.alloc ?_ (by omega) _)⟩
set_option maxHeartbeats 1000000 in
theorem iclash_ar (key v : Int) (w : World) (h1 : 0 ≤ key) (h2 : key ≤ 5) (h3 : 0 ≤ v) (h4 : v ≤ 99) :
    Calls Try.prog 28 #[.agg #[.int .i64 2, .int .i64 key, .int .i64 v], .agg #[.int .i64 0, .int .i64 key, .int .i64 0]] w fun e w' => e = .returned (.bool true) ∧ Below w.heap.size w w' := by
  have s1 := fun w => act_a key v w h1 h2 h3 h4
  have s2 := fun w => act_r key w h1 h2
  have tr := as_rr
  have tp := as_rp
  have hm : ∀ w : World, (method 202 82 (.agg #[.int .i64 key, .int .i64 v]) "loop.example/leaderlesslog/impl.clashes").run Try.prog w = .ok (69, (.agg #[.int .i64 key, .int .i64 v])) w := fun _ => by kernel_rfl
  go_enter Try.func28, Try.ntmps28
  go_wp2_with fail
  refine (s1 _).mono ?_
  rintro e w1 ⟨rfl, hb1⟩
  obtain ⟨A1, B1, z1, D1⟩ := boxes2 hb1
  obtain ⟨a1, a2, a3, _, _, _⟩ := blk3 A1
  obtain ⟨b1, b2, b3, _, _, _⟩ := blk3 B1
  have A1 := Lib.hid A1; have B1 := Lib.hid B1; have D1 := Lib.hid D1; clear hb1
  go_wp2_with fail
  refine (s2 _).mono ?_
  rintro e w2 ⟨rfl, hb2⟩
  have A2 := (hb2.block w.heap.size (by omega)).trans A1.out
  have B2 := (hb2.block (w.heap.size + 1) (by omega)).trans B1.out
  obtain ⟨c1, c2, c3, _, _, _⟩ := blk3 A2
  obtain ⟨d1, d2, d3, _, _, _⟩ := blk3 B2
  have D2 := Lib.hid (D1.out.trans (hb2.mono (by omega)))
  have z2 := hb2.size
  have z2 : w.heap.size + 2 ≤ w2.heap.size := by omega
  clear hb2 A2 B2 a1 a2 a3 b1 b2 b3 s1 s2
  go_wp2
  go_ret
  exact ⟨rfl, by have X := D2.out; clear D2; repeat (first | with_reducible exact X | with_reducible refine Below.alloc ?_ (by omega) _)⟩
set_option maxHeartbeats 1000000 in
theorem iclash_ap (key v v' : Int) (w : World) (h1 : 0 ≤ key) (h2 : key ≤ 5) (h3 : 0 ≤ v) (h4 : v ≤ 99) (h5 : 0 ≤ v') (h6 : v' ≤ 99) :
    Calls Try.prog 28 #[.agg #[.int .i64 2, .int .i64 key, .int .i64 v], .agg #[.int .i64 1, .int .i64 key, .int .i64 v']] w fun e w' => e = .returned (.bool true) ∧ Below w.heap.size w w' := by
  have s1 := fun w => act_a key v w h1 h2 h3 h4
  have s2 := fun w => act_p key v' w h1 h2 h5 h6
  have tr := as_pr
  have tp := as_pp
  have hm : ∀ w : World, (method 202 82 (.agg #[.int .i64 key, .int .i64 v]) "loop.example/leaderlesslog/impl.clashes").run Try.prog w = .ok (69, (.agg #[.int .i64 key, .int .i64 v])) w := fun _ => by kernel_rfl
  go_enter Try.func28, Try.ntmps28
  go_wp2_with fail
  refine (s1 _).mono ?_
  rintro e w1 ⟨rfl, hb1⟩
  obtain ⟨A1, B1, z1, D1⟩ := boxes2 hb1
  obtain ⟨a1, a2, a3, _, _, _⟩ := blk3 A1
  obtain ⟨b1, b2, b3, _, _, _⟩ := blk3 B1
  have A1 := Lib.hid A1; have B1 := Lib.hid B1; have D1 := Lib.hid D1; clear hb1
  go_wp2_with fail
  refine (s2 _).mono ?_
  rintro e w2 ⟨rfl, hb2⟩
  have A2 := (hb2.block w.heap.size (by omega)).trans A1.out
  have B2 := (hb2.block (w.heap.size + 1) (by omega)).trans B1.out
  obtain ⟨c1, c2, c3, _, _, _⟩ := blk3 A2
  obtain ⟨d1, d2, d3, _, _, _⟩ := blk3 B2
  have D2 := Lib.hid (D1.out.trans (hb2.mono (by omega)))
  have z2 := hb2.size
  have z2 : w.heap.size + 2 ≤ w2.heap.size := by omega
  clear hb2 A2 B2 a1 a2 a3 b1 b2 b3 s1 s2
  go_wp2
  go_ret
  exact ⟨rfl, by have X := D2.out; clear D2; repeat (first | with_reducible exact X | with_reducible refine Below.alloc ?_ (by omega) _)⟩
set_option maxHeartbeats 1000000 in
theorem iclash_aa (key v v' : Int) (w : World) (h1 : 0 ≤ key) (h2 : key ≤ 5) (h3 : 0 ≤ v) (h4 : v ≤ 99) (h5 : 0 ≤ v') (h6 : v' ≤ 99) :
    Calls Try.prog 28 #[.agg #[.int .i64 2, .int .i64 key, .int .i64 v], .agg #[.int .i64 2, .int .i64 key, .int .i64 v']] w fun e w' => e = .returned (.bool false) ∧ Below w.heap.size w w' := by
  have s1 := fun w => act_a key v w h1 h2 h3 h4
  have s2 := fun w => act_a key v' w h1 h2 h5 h6
  have tr := as_ar
  have tp := as_ap
  have hm : ∀ w : World, (method 202 82 (.agg #[.int .i64 key, .int .i64 v]) "loop.example/leaderlesslog/impl.clashes").run Try.prog w = .ok (69, (.agg #[.int .i64 key, .int .i64 v])) w := fun _ => by kernel_rfl
  go_enter Try.func28, Try.ntmps28
  go_wp2_with fail
  refine (s1 _).mono ?_
  rintro e w1 ⟨rfl, hb1⟩
  obtain ⟨A1, B1, z1, D1⟩ := boxes2 hb1
  obtain ⟨a1, a2, a3, _, _, _⟩ := blk3 A1
  obtain ⟨b1, b2, b3, _, _, _⟩ := blk3 B1
  have A1 := Lib.hid A1; have B1 := Lib.hid B1; have D1 := Lib.hid D1; clear hb1
  go_wp2_with fail
  refine (s2 _).mono ?_
  rintro e w2 ⟨rfl, hb2⟩
  have A2 := (hb2.block w.heap.size (by omega)).trans A1.out
  have B2 := (hb2.block (w.heap.size + 1) (by omega)).trans B1.out
  obtain ⟨c1, c2, c3, _, _, _⟩ := blk3 A2
  obtain ⟨d1, d2, d3, _, _, _⟩ := blk3 B2
  have D2 := Lib.hid (D1.out.trans (hb2.mono (by omega)))
  have z2 := hb2.size
  have z2 : w.heap.size + 2 ≤ w2.heap.size := by omega
  clear hb2 A2 B2 a1 a2 a3 b1 b2 b3 s1 s2
  go_wp2
  go_ret
  exact ⟨rfl, by have X := D2.out; clear D2; repeat (first | with_reducible exact X | with_reducible refine Below.alloc ?_ (by omega) _)⟩
set_option maxHeartbeats 1000000 in
theorem iclash_an (v : Int) (w : World) (h3 : 0 ≤ v) (h4 : v ≤ 99) :
    Calls Try.prog 28 #[.agg #[.int .i64 2, .int .i64 0, .int .i64 v], .agg #[.int .i64 3, .int .i64 0, .int .i64 0]] w fun e w' => e = .returned (.bool false) ∧ Below w.heap.size w w' := by
  have s1 := fun w => act_a 0 v w (by decide) (by decide) h3 h4
  have s2 := act_n
  have tr := as_nr
  have tp := as_np
  have hm : ∀ w : World, (method 202 82 (.agg #[.int .i64 0, .int .i64 v]) "loop.example/leaderlesslog/impl.clashes").run Try.prog w = .ok (69, (.agg #[.int .i64 0, .int .i64 v])) w := fun _ => by kernel_rfl
  go_enter Try.func28, Try.ntmps28
  go_wp2_with fail
  refine (s1 _).mono ?_
  rintro e w1 ⟨rfl, hb1⟩
  obtain ⟨A1, B1, z1, D1⟩ := boxes2 hb1
  obtain ⟨a1, a2, a3, _, _, _⟩ := blk3 A1
  obtain ⟨b1, b2, b3, _, _, _⟩ := blk3 B1
  have A1 := Lib.hid A1; have B1 := Lib.hid B1; have D1 := Lib.hid D1; clear hb1
  go_wp2_with fail
  refine (s2 _).mono ?_
  rintro e w2 ⟨rfl, hb2⟩
  have A2 := (hb2.block w.heap.size (by omega)).trans A1.out
  have B2 := (hb2.block (w.heap.size + 1) (by omega)).trans B1.out
  obtain ⟨c1, c2, c3, _, _, _⟩ := blk3 A2
  obtain ⟨d1, d2, d3, _, _, _⟩ := blk3 B2
  have D2 := Lib.hid (D1.out.trans (hb2.mono (by omega)))
  have z2 := hb2.size
  have z2 : w.heap.size + 2 ≤ w2.heap.size := by omega
  clear hb2 A2 B2 a1 a2 a3 b1 b2 b3 s1 s2
  go_wp2
  go_ret
  exact ⟨rfl, by have X := D2.out; clear D2; repeat (first | with_reducible exact X | with_reducible refine Below.alloc ?_ (by omega) _)⟩
set_option maxHeartbeats 1000000 in
theorem iclash_nr (w : World) :
    Calls Try.prog 28 #[.agg #[.int .i64 3, .int .i64 0, .int .i64 0], .agg #[.int .i64 0, .int .i64 0, .int .i64 0]] w fun e w' => e = .returned (.bool false) ∧ Below w.heap.size w w' := by
  have s1 := act_n
  have s2 := fun w => act_r 0 w (by decide) (by decide)
  have hm : ∀ w : World, (method 202 84 (.agg #[]) "loop.example/leaderlesslog/impl.clashes").run Try.prog w = .ok (71, (.agg #[])) w := fun _ => by kernel_rfl
  go_enter Try.func28, Try.ntmps28
  go_wp2_with fail
  refine (s1 _).mono ?_
  rintro e w1 ⟨rfl, hb1⟩
  obtain ⟨A1, B1, z1, D1⟩ := boxes2 hb1
  obtain ⟨a1, a2, a3, _, _, _⟩ := blk3 A1
  obtain ⟨b1, b2, b3, _, _, _⟩ := blk3 B1
  have A1 := Lib.hid A1; have B1 := Lib.hid B1; have D1 := Lib.hid D1; clear hb1
  go_wp2_with fail
  refine (s2 _).mono ?_
  rintro e w2 ⟨rfl, hb2⟩
  have A2 := (hb2.block w.heap.size (by omega)).trans A1.out
  have B2 := (hb2.block (w.heap.size + 1) (by omega)).trans B1.out
  obtain ⟨c1, c2, c3, _, _, _⟩ := blk3 A2
  obtain ⟨d1, d2, d3, _, _, _⟩ := blk3 B2
  have D2 := Lib.hid (D1.out.trans (hb2.mono (by omega)))
  have z2 := hb2.size
  have z2 : w.heap.size + 2 ≤ w2.heap.size := by omega
  clear hb2 A2 B2 a1 a2 a3 b1 b2 b3 s1 s2
  go_wp2
  go_ret
  exact ⟨rfl, by have X := D2.out; clear D2; repeat (first | with_reducible exact X | with_reducible refine Below.alloc ?_ (by omega) _)⟩
set_option maxHeartbeats 1000000 in
theorem iclash_np (v' : Int) (w : World) (h5 : 0 ≤ v') (h6 : v' ≤ 99) :
    Calls Try.prog 28 #[.agg #[.int .i64 3, .int .i64 0, .int .i64 0], .agg #[.int .i64 1, .int .i64 0, .int .i64 v']] w fun e w' => e = .returned (.bool false) ∧ Below w.heap.size w w' := by
  have s1 := act_n
  have s2 := fun w => act_p 0 v' w (by decide) (by decide) h5 h6
  have hm : ∀ w : World, (method 202 84 (.agg #[]) "loop.example/leaderlesslog/impl.clashes").run Try.prog w = .ok (71, (.agg #[])) w := fun _ => by kernel_rfl
  go_enter Try.func28, Try.ntmps28
  go_wp2_with fail
  refine (s1 _).mono ?_
  rintro e w1 ⟨rfl, hb1⟩
  obtain ⟨A1, B1, z1, D1⟩ := boxes2 hb1
  obtain ⟨a1, a2, a3, _, _, _⟩ := blk3 A1
  obtain ⟨b1, b2, b3, _, _, _⟩ := blk3 B1
  have A1 := Lib.hid A1; have B1 := Lib.hid B1; have D1 := Lib.hid D1; clear hb1
  go_wp2_with fail
  refine (s2 _).mono ?_
  rintro e w2 ⟨rfl, hb2⟩
  have A2 := (hb2.block w.heap.size (by omega)).trans A1.out
  have B2 := (hb2.block (w.heap.size + 1) (by omega)).trans B1.out
  obtain ⟨c1, c2, c3, _, _, _⟩ := blk3 A2
  obtain ⟨d1, d2, d3, _, _, _⟩ := blk3 B2
  have D2 := Lib.hid (D1.out.trans (hb2.mono (by omega)))
  have z2 := hb2.size
  have z2 : w.heap.size + 2 ≤ w2.heap.size := by omega
  clear hb2 A2 B2 a1 a2 a3 b1 b2 b3 s1 s2
  go_wp2
  go_ret
  exact ⟨rfl, by have X := D2.out; clear D2; repeat (first | with_reducible exact X | with_reducible refine Below.alloc ?_ (by omega) _)⟩
set_option maxHeartbeats 1000000 in
theorem iclash_na (v' : Int) (w : World) (h5 : 0 ≤ v') (h6 : v' ≤ 99) :
    Calls Try.prog 28 #[.agg #[.int .i64 3, .int .i64 0, .int .i64 0], .agg #[.int .i64 2, .int .i64 0, .int .i64 v']] w fun e w' => e = .returned (.bool false) ∧ Below w.heap.size w w' := by
  have s1 := act_n
  have s2 := fun w => act_a 0 v' w (by decide) (by decide) h5 h6
  have hm : ∀ w : World, (method 202 84 (.agg #[]) "loop.example/leaderlesslog/impl.clashes").run Try.prog w = .ok (71, (.agg #[])) w := fun _ => by kernel_rfl
  go_enter Try.func28, Try.ntmps28
  go_wp2_with fail
  refine (s1 _).mono ?_
  rintro e w1 ⟨rfl, hb1⟩
  obtain ⟨A1, B1, z1, D1⟩ := boxes2 hb1
  obtain ⟨a1, a2, a3, _, _, _⟩ := blk3 A1
  obtain ⟨b1, b2, b3, _, _, _⟩ := blk3 B1
  have A1 := Lib.hid A1; have B1 := Lib.hid B1; have D1 := Lib.hid D1; clear hb1
  go_wp2_with fail
  refine (s2 _).mono ?_
  rintro e w2 ⟨rfl, hb2⟩
  have A2 := (hb2.block w.heap.size (by omega)).trans A1.out
  have B2 := (hb2.block (w.heap.size + 1) (by omega)).trans B1.out
  obtain ⟨c1, c2, c3, _, _, _⟩ := blk3 A2
  obtain ⟨d1, d2, d3, _, _, _⟩ := blk3 B2
  have D2 := Lib.hid (D1.out.trans (hb2.mono (by omega)))
  have z2 := hb2.size
  have z2 : w.heap.size + 2 ≤ w2.heap.size := by omega
  clear hb2 A2 B2 a1 a2 a3 b1 b2 b3 s1 s2
  go_wp2
  go_ret
  exact ⟨rfl, by have X := D2.out; clear D2; repeat (first | with_reducible exact X | with_reducible refine Below.alloc ?_ (by omega) _)⟩
set_option maxHeartbeats 1000000 in
theorem iclash_nn (w : World) :
    Calls Try.prog 28 #[.agg #[.int .i64 3, .int .i64 0, .int .i64 0], .agg #[.int .i64 3, .int .i64 0, .int .i64 0]] w fun e w' => e = .returned (.bool false) ∧ Below w.heap.size w w' := by
  have s1 := act_n
  have s2 := act_n
  have hm : ∀ w : World, (method 202 84 (.agg #[]) "loop.example/leaderlesslog/impl.clashes").run Try.prog w = .ok (71, (.agg #[])) w := fun _ => by kernel_rfl
  go_enter Try.func28, Try.ntmps28
  go_wp2_with fail
  refine (s1 _).mono ?_
  rintro e w1 ⟨rfl, hb1⟩
  obtain ⟨A1, B1, z1, D1⟩ := boxes2 hb1
  obtain ⟨a1, a2, a3, _, _, _⟩ := blk3 A1
  obtain ⟨b1, b2, b3, _, _, _⟩ := blk3 B1
  have A1 := Lib.hid A1; have B1 := Lib.hid B1; have D1 := Lib.hid D1; clear hb1
  go_wp2_with fail
  refine (s2 _).mono ?_
  rintro e w2 ⟨rfl, hb2⟩
  have A2 := (hb2.block w.heap.size (by omega)).trans A1.out
  have B2 := (hb2.block (w.heap.size + 1) (by omega)).trans B1.out
  obtain ⟨c1, c2, c3, _, _, _⟩ := blk3 A2
  obtain ⟨d1, d2, d3, _, _, _⟩ := blk3 B2
  have D2 := Lib.hid (D1.out.trans (hb2.mono (by omega)))
  have z2 := hb2.size
  have z2 : w.heap.size + 2 ≤ w2.heap.size := by omega
  clear hb2 A2 B2 a1 a2 a3 b1 b2 b3 s1 s2
  go_wp2
  go_ret
  exact ⟨rfl, by have X := D2.out; clear D2; repeat (first | with_reducible exact X | with_reducible refine Below.alloc ?_ (by omega) _)⟩

/-- COMMANDSCLASH OF THE PROGRAM, at any two commands. -/
theorem iclash_any (k key v k' key' v' : Int) (w : World) :
    Calls Try.prog 28 #[.agg #[.int .i64 k, .int .i64 key, .int .i64 v], .agg #[.int .i64 k', .int .i64 key', .int .i64 v']] w fun e w' => e = .returned (.bool (clB k key v k' key' v')) ∧ Below w.heap.size w w' := by
  by_cases h : cvB k key v = true ∧ cvB k' key' v' = true ∧ key = key'
  · obtain ⟨h1, h2, rfl⟩ := h
    have e : clB k key v k' key v' = kcB k key k' key := by unfold clB; rw [h1, h2]; rfl
    rw [e]
    rcases cv_of h1 with ⟨rfl, a1, a2, rfl⟩ | ⟨rfl, a1, a2, a3, a4⟩ | ⟨rfl, a1, a2, a3, a4⟩ | ⟨rfl, rfl, rfl⟩ <;> rcases cv_of h2 with ⟨b0, b1, b2, b3⟩ | ⟨b0, b1, b2, b3, b4⟩ | ⟨b0, b1, b2, b3, b4⟩ | ⟨b0, b1, b3⟩ <;> subst b0
    · subst b3; rw [show kcB 0 key 0 key = false by simp [kcB]]; exact iclash_rr key w a1 a2
    · rw [show kcB 0 key 1 key = true by simp [kcB]]; exact iclash_rp key v' w a1 a2 b3 b4
    · rw [show kcB 0 key 2 key = true by simp [kcB]]; exact iclash_ra key v' w a1 a2 b3 b4
    · subst b3; subst b1; rw [show kcB 0 0 3 0 = false by simp [kcB]]; exact iclash_rn w
    · subst b3; rw [show kcB 1 key 0 key = true by simp [kcB]]; exact iclash_pr key v w a1 a2 a3 a4
    · rw [show kcB 1 key 1 key = true by simp [kcB]]; exact iclash_pp key v v' w a1 a2 a3 a4 b3 b4
    · rw [show kcB 1 key 2 key = true by simp [kcB]]; exact iclash_pa key v v' w a1 a2 a3 a4 b3 b4
    · subst b3; subst b1; rw [show kcB 1 0 3 0 = false by simp [kcB]]; exact iclash_pn v w a3 a4
    · subst b3; rw [show kcB 2 key 0 key = true by simp [kcB]]; exact iclash_ar key v w a1 a2 a3 a4
    · rw [show kcB 2 key 1 key = true by simp [kcB]]; exact iclash_ap key v v' w a1 a2 a3 a4 b3 b4
    · rw [show kcB 2 key 2 key = false by simp [kcB]]; exact iclash_aa key v v' w a1 a2 a3 a4 b3 b4
    · subst b3; subst b1; rw [show kcB 2 0 3 0 = false by simp [kcB]]; exact iclash_an v w a3 a4
    · subst b3; rw [show kcB 3 0 0 0 = false by simp [kcB]]; exact iclash_nr w
    · rw [show kcB 3 0 1 0 = false by simp [kcB]]; exact iclash_np v' w b3 b4
    · rw [show kcB 3 0 2 0 = false by simp [kcB]]; exact iclash_na v' w b3 b4
    · subst b3; rw [show kcB 3 0 3 0 = false by simp [kcB]]; exact iclash_nn w
  · exact iclash_no k key v k' key' v' w h
end Go.Proofs.Ytmekkjnegmeogaa
