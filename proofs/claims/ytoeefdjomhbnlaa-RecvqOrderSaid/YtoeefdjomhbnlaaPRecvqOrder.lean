/-
  RecvqOrder: whatever the input, the call returns true, and each argument reads behind it as it read before; no condition. Its contract is law_RecvqOrder; here it is brought to the given statement.
-/
import Derived.Test.YtoeefdjomhbnlaaT24
namespace Go.Proofs.Ytoeefdjomhbnlaa.recvqOrder
open Go.ChangeShapes Go.WideShapes Go.ChangeAt Go.RowKit
theorem own : ownKnob Try.prog.godebug = none := by kernel_rfl
theorem laidOut : laidOutB Try.prog = true := by kernel_rfl
set_option maxRecDepth 100000 in
theorem lifted (os : Os) (started : os.Started) (H : Type) (enc : TypeId × Value → H) :
    ReturnsInHanded {} Try.checked os 6 .any (Rows.recvqOrderSpec.pre6 enc Try.prog Try.f6 Rows.recvqOrderRow.domain false) (Rows.recvqOrderSpec.post enc Try.prog Try.f6 false true false false) := by
  refine returnsInHanded_of_change (C := Try.checked) own started (by kernel_rfl) Try.func6
    (ChangeSpec.witness6 (enc := enc) (C := Try.checked) false ⟨#[], #[.slice none 0 0, .agg #[.int .u8 0, .int .u8 0, .int .u8 0], .agg #[.int .u8 0, .int .u8 0, .int .u8 0]], []⟩ 8 (by kernel_rfl) (by kernel_rfl) (by kernel_rfl) (by kernel_rfl)) ?_
  intro W base args ds gs before hval0 hW hcnd _
  have hW' := hW
  obtain ⟨p, q, hA, hV, rfl, hfz, hnd⟩ := hW'
  obtain ⟨rfl, rfl⟩ := trodVars_none hV
  refine (true_calls (n := 10) (ys := [(false, [.sl true [.int .u8, .int .u8, .int .u8]]), (true, [.int .u8, .int .u8, .int .u8]), (true, [.int .u8, .int .u8, .int .u8])]) hA (fun j t v h1 h2 => hval0 j t v (by simpa using h1) (by simpa using h2)) (by kernel_rfl) (fun xs h => law_RecvqOrder xs h)).mono fun e W' ⟨he, bel⟩ => ?_
  subst he
  have hk := args_keep laidOut bel (by kernel_rfl) hA
  have hl := hA
  rw [Try.params6] at hl
  obtain ⟨v0, vs0, d0, ds0, p0, q0, hargs, rfl, hp, h0, r0⟩ := trodAll_cons hl
  obtain ⟨v1, vs1, d1, ds1, p1, q1, rfl, rfl, rfl, h1, r1⟩ := trodAll_cons r0
  obtain ⟨v2, vs2, d2, ds2, p2, q2, rfl, rfl, rfl, h2, r2⟩ := trodAll_cons r1
  obtain ⟨rfl, rfl, rfl⟩ := trodAll_nil r2
  exact ⟨_, rfl, _, _, _, [], _, [], hW, trodAll_mk1 (shut_bool Try.underlying4 _), hk, rfl, bel.frame _, fun h => by cases h⟩

theorem over : Rows.recvqOrderRow.holds Try.pinned (OpenSpec.ofChange Rows.recvqOrderSpec) :=
  OpenClaim.holds_of_wide 6 Try.f6 rfl rfl rfl rfl rfl rfl rfl ⟨rfl, rfl, rfl, rfl, rfl⟩ rfl rfl rfl rfl rfl (by kernel_rfl) Try.func6 (by kernel_rfl)
    (of_decide_eq_true (by kernel_rfl)) (by unfold Func.isWrapper; first | (rw [if_pos (by decide +kernel)]; kernel_rfl) | (rw [if_neg (by decide +kernel)]; exact ⟨rfl, rfl⟩))
    (fun os started H enc _ => lifted os started H enc)

theorem proved : Rows.RecvqOrderSaid := over
#print axioms proved
end Go.Proofs.Ytoeefdjomhbnlaa.recvqOrder
