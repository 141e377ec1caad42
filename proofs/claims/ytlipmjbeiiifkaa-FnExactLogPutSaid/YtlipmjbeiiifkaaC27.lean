/- Texts laid together. -/
import Derived.Test.YtlipmjbeiiifkaaC12
import Derived.Test.YtlipmjbeiiifkaaC01
/- The laws' markEntry at a block with room: all else stays. -/
namespace Go.Proofs.Ytlipmjbeiiifkaa
open Go.RowKit
set_option linter.unusedVariables false

set_option maxRecDepth 100000 in
set_option maxHeartbeats 2000000 in
theorem markEb_any (x : En) (b n cap : Nat) (k0 : Int) (w : World) (h : Sz w b (2 * n)) (hn : n ≤ 2000000) (h0 : 0 ≤ k0) (h1 : k0 ≤ 100000000000000) :
    Calls Try.prog 20 #[env x (.slice (some ⟨b, 0, none⟩) n cap), .int .i64 k0] w fun e w' => e = .returned (.int .i64 (k0 + 2 * n)) ∧ Exc (fun c => c = b) w w' := by
  have sc := fun W (h : Sz W b (2 * n)) => markZ_any b n cap k0 W h hn h0 (by omega)
  have B0 := Lib.hid ((Below.refl w.heap.size w).alloc (Nat.le_refl _) (.cells #[.int .i64 x.id.1, .int .i64 x.id.2, .int .i64 x.bal, .int .i64 x.st, .int .i64 x.k, .int .i64 x.key, .int .i64 x.v, .int .i64 x.seq, .slice (some ⟨b, 0, none⟩) n cap] 30))
  have S0 := Lib.hid (show Sz (w.alloc (.cells #[.int .i64 x.id.1, .int .i64 x.id.2, .int .i64 x.bal, .int .i64 x.st, .int .i64 x.k, .int .i64 x.key, .int .i64 x.v, .int .i64 x.seq, .slice (some ⟨b, 0, none⟩) n cap] 30)) b (2 * n) from by
    obtain ⟨cur, t, h1, h2⟩ := h
    exact ⟨cur, t, (B0.out.block b (lt_of_heap h1)).trans h1, h2⟩)
  clear h
  unfold env
  go_enter Try.func20, Try.ntmps20
  go_wp2_with fail
  refine (sc _ S0.out).mono ?_
  rintro e w1 ⟨rfl, _, X⟩
  have R := Lib.hid ((Exc.of (P := fun c => c = b) B0.out).trans X (fun _ _ h => h))
  clear X sc B0 S0
  go_wp2_with fail
  go_ret
  exact ⟨rfl, R.out⟩
end Go.Proofs.Ytlipmjbeiiifkaa
