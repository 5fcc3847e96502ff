/-
  RasmOnce: whatever the input, the call returns true, and each argument reads behind it as it read before; no condition. Its contract is law_RasmOnce; here it is brought to the given statement.
-/
import Derived.Test.YtjdemohgegldaaaT25
namespace Go.Proofs.Ytjdemohgegldaaa.rasmOnce
open Go.ChangeShapes Go.WideShapes Go.ChangeAt Go.RowKit
theorem own : ownKnob Try.prog.godebug = none := by kernel_rfl
theorem laidOut : laidOutB Try.prog = true := by kernel_rfl
set_option maxRecDepth 100000 in
theorem lifted (os : Os) (started : os.Started) (H : Type) (enc : TypeId × Value → H) :
    ReturnsInHanded {} Try.checked os 5 .any (Rows.rasmOnceSpec.pre6 enc Try.prog Try.f5 Rows.rasmOnceRow.domain false) (Rows.rasmOnceSpec.post enc Try.prog Try.f5 false true false false) := by
  refine returnsInHanded_of_change (C := Try.checked) own started (by kernel_rfl) Try.func5
    (ChangeSpec.witness6 (enc := enc) (C := Try.checked) false ⟨#[], #[.string ByteArray.empty, .int .u8 0, .string ByteArray.empty], []⟩ 8 (by kernel_rfl) (by kernel_rfl) (by kernel_rfl) (by kernel_rfl)) ?_
  intro W base args ds gs before hval0 hW hcnd _
  have hW' := hW
  obtain ⟨p, q, hA, hV, rfl, hfz, hnd⟩ := hW'
  obtain ⟨rfl, rfl⟩ := trodVars_none hV
  refine (true_calls (n := 10) (ys := [(false, [.str]), (false, [.int .u8]), (false, [.str])]) hA (fun j t v h1 h2 => hval0 j t v (by simpa using h1) (by simpa using h2)) (by kernel_rfl) (fun xs h => law_RasmOnce xs h)).mono fun e W' ⟨he, bel⟩ => ?_
  subst he
  have hk := args_keep laidOut bel (by kernel_rfl) hA
  have hl := hA
  rw [Try.params5] at hl
  obtain ⟨v0, vs0, d0, ds0, p0, q0, hargs, rfl, hp, h0, r0⟩ := trodAll_cons hl
  obtain ⟨v1, vs1, d1, ds1, p1, q1, rfl, rfl, rfl, h1, r1⟩ := trodAll_cons r0
  obtain ⟨v2, vs2, d2, ds2, p2, q2, rfl, rfl, rfl, h2, r2⟩ := trodAll_cons r1
  obtain ⟨rfl, rfl, rfl⟩ := trodAll_nil r2
  exact ⟨_, rfl, _, _, _, [], _, [], hW, trodAll_mk1 (shut_bool Try.underlying4 _), hk, rfl, bel.frame _, fun h => by cases h⟩

theorem over : Rows.rasmOnceRow.holds Try.pinned (OpenSpec.ofChange Rows.rasmOnceSpec) :=
  OpenClaim.holds_of_wide 5 Try.f5 rfl rfl rfl rfl rfl rfl rfl ⟨rfl, rfl, rfl, rfl, rfl⟩ rfl rfl rfl rfl rfl (by kernel_rfl) Try.func5 (by kernel_rfl)
    (of_decide_eq_true (by kernel_rfl)) (by unfold Func.isWrapper; first | (rw [if_pos (by decide +kernel)]; kernel_rfl) | (rw [if_neg (by decide +kernel)]; exact ⟨rfl, rfl⟩))
    (fun os started H enc _ => lifted os started H enc)

theorem proved : Rows.RasmOnceSaid := over
#print axioms proved
end Go.Proofs.Ytjdemohgegldaaa.rasmOnce
