/- CommandText, of the model and of the program. -/
import Derived.Test.YthdofjfjefcfpaaDoorText
import Derived.Deep.QuietTactic
import Derived.BigQuiet
namespace Go.Proofs.YthdofjfjefcfpaaDoor
open Go.RowKit
set_option linter.unusedVariables false
set_option maxRecDepth 100000

theorem dec_any (n : Nat) (hn : n < 100) (w : World) :
    Calls Tryd.prog 27 #[.int .i64 n] w fun e w' => e = .returned (.string (decB n)) ∧ Below w.heap.size w w' := by
  by_cases h : n < 10
  · exact dec_one n h w
  · exact dec_two n h hn w
theorem itoa_q (n : Nat) (hn : n < 100) (w : World) :
    Calls Tryd.prog 32 #[.int .i64 n] w fun e w' => e = .returned (.string (decB n)) ∧ w' = w :=
  (itoa_any n hn w).mono fun e w' h => ⟨h.1, h.2.symm⟩

def txR (key : Nat) : ByteArray := ⟨#[114, 101, 97, 100, 32]⟩ ++ decB key
def txP (key v : Nat) : ByteArray := ⟨#[112, 117, 116, 32]⟩ ++ decB key ++ ⟨#[32]⟩ ++ decB v
def txA (key v : Nat) : ByteArray := ⟨#[97, 100, 100, 32]⟩ ++ decB key ++ ⟨#[32]⟩ ++ decB v
def txN : ByteArray := ⟨#[110, 111, 110, 101]⟩

/-- The text of a command. -/
def txt (k key v : Int) : ByteArray :=
  if cvB k key v then (if k = 0 then txR key.toNat else if k = 1 then txP key.toNat v.toNat else if k = 2 then txA key.toNat v.toNat else txN) else ⟨#[]⟩

theorem textR (key : Nat) (h : key < 6) (w : World) :
    Calls Tryd.prog 88 #[.agg #[.int .i64 key]] w fun e w' => e = .returned (.string (txR key)) ∧ Below w.heap.size w w' := by
  have s1 := itoa_any key (by omega)
  have hs : ¬ 9223372036854775807 < 5 + (decB key).size := by have := decB_size key; omega
  unfold txR
  generalize decB key = s at s1 hs ⊢
  go_enter Tryd.func88, Tryd.ntmps88
  go_wp2_with (go_at_call 32; refine (s1 _).mono ?_; rintro e w' ⟨rfl, rfl⟩)
  go_ret
  exact ⟨rfl, (Below.refl _ _).alloc (Nat.le_refl _) _⟩

set_option maxHeartbeats 1000000 in
theorem textP (key v : Nat) (h : key < 6) (h2 : v < 100) (w : World) :
    Calls Tryd.prog 90 #[.agg #[.int .i64 key, .int .i64 v]] w fun e w' => e = .returned (.string (txP key v)) ∧ Below w.heap.size w w' := by
  have s1 := itoa_q key (by omega)
  have s2 := itoa_q v h2
  have hs : ¬ 9223372036854775807 < 4 + (decB key).size := by have := decB_size key; omega
  have hs1 : ¬ 9223372036854775807 < 4 + (decB key).size + 1 := by have := decB_size key; omega
  have hs2 : ¬ 9223372036854775807 < 4 + (decB key).size + 1 + (decB v).size := by have := decB_size key; have := decB_size v; omega
  unfold txP
  generalize decB key = s at s1 hs hs1 hs2 ⊢
  generalize decB v = t at s2 hs2 ⊢
  go_enter Tryd.func90, Tryd.ntmps90
  go_upto_region 1 with fail
  go_quiet ((first | (go_at_call 32; with_reducible exact Calls.quiet_of_same (s1 _)) | (go_at_call 32; with_reducible exact Calls.quiet_of_same (s2 _))))
  go_wp2_with fail
  go_ret
  exact ⟨rfl, by have X := (Below.refl w.heap.size w).alloc (Nat.le_refl _) (.cells #[.int .i64 key, .int .i64 v] 55); repeat (first | with_reducible exact X | with_reducible refine Below.drew ?_ | exact ⟨X.os, X.tape, X.output, X.size, X.block⟩)⟩

set_option maxHeartbeats 1000000 in
theorem textA (key v : Nat) (h : key < 6) (h2 : v < 100) (w : World) :
    Calls Tryd.prog 92 #[.agg #[.int .i64 key, .int .i64 v]] w fun e w' => e = .returned (.string (txA key v)) ∧ Below w.heap.size w w' := by
  have s1 := itoa_q key (by omega)
  have s2 := itoa_q v h2
  have hs : ¬ 9223372036854775807 < 4 + (decB key).size := by have := decB_size key; omega
  have hs1 : ¬ 9223372036854775807 < 4 + (decB key).size + 1 := by have := decB_size key; omega
  have hs2 : ¬ 9223372036854775807 < 4 + (decB key).size + 1 + (decB v).size := by have := decB_size key; have := decB_size v; omega
  unfold txA
  generalize decB key = s at s1 hs hs1 hs2 ⊢
  generalize decB v = t at s2 hs2 ⊢
  go_enter Tryd.func92, Tryd.ntmps92
  go_upto_region 1 with fail
  go_quiet ((first | (go_at_call 32; with_reducible exact Calls.quiet_of_same (s1 _)) | (go_at_call 32; with_reducible exact Calls.quiet_of_same (s2 _))))
  go_wp2_with fail
  go_ret
  exact ⟨rfl, by have X := (Below.refl w.heap.size w).alloc (Nat.le_refl _) (.cells #[.int .i64 key, .int .i64 v] 56); repeat (first | with_reducible exact X | with_reducible refine Below.drew ?_ | exact ⟨X.os, X.tape, X.output, X.size, X.block⟩)⟩

theorem textN (w : World) :
    Calls Tryd.prog 94 #[.agg #[]] w fun e w' => e = .returned (.string txN) ∧ Below w.heap.size w w' := by
  go_enter Tryd.func94, Tryd.ntmps94
  go_wp2_with fail
  go_ret
  exact ⟨rfl, by repeat (first | with_reducible exact Below.refl _ _ | with_reducible refine Below.alloc ?_ (Nat.le_refl _) _)⟩

end Go.Proofs.YthdofjfjefcfpaaDoor
