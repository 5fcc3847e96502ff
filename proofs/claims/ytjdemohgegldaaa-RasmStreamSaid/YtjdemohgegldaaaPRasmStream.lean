/-
  RasmStream: whatever the input, the call returns true, and each argument reads behind it as it read before; no condition. Its contract is law_RasmStream; here it is brought to the given statement.
-/
import Derived.Test.YtjdemohgegldaaaT27
namespace Go.Proofs.Ytjdemohgegldaaa.rasmStream
open Go.ChangeShapes Go.WideShapes Go.ChangeAt Go.RowKit
theorem own : ownKnob Try.prog.godebug = none := by kernel_rfl
theorem laidOut : laidOutB Try.prog = true := by kernel_rfl
set_option maxRecDepth 100000 in
theorem lifted (os : Os) (started : os.Started) (H : Type) (enc : TypeId × Value → H) :
    ReturnsInHanded {} Try.checked os 4 .any (Rows.rasmStreamSpec.pre6 enc Try.prog Try.f4 Rows.rasmStreamRow.domain false) (Rows.rasmStreamSpec.post enc Try.prog Try.f4 false true false false) := by
  refine returnsInHanded_of_change (C := Try.checked) own started (by kernel_rfl) Try.func4
    (ChangeSpec.witness6 (enc := enc) (C := Try.checked) false ⟨#[], #[.int .u8 0, .slice none 0 0], []⟩ 8 (by kernel_rfl) (by kernel_rfl) (by kernel_rfl) (by kernel_rfl)) ?_
  intro W base args ds gs before hval0 hW hcnd _
  have hW' := hW
  obtain ⟨p, q, hA, hV, rfl, hfz, hnd⟩ := hW'
  obtain ⟨rfl, rfl⟩ := trodVars_none hV
  refine (true_calls (n := 10) (ys := [(false, [.int .u8]), (false, [.sl true [.int .u8, .int .u8, .int .u8]])]) hA (fun j t v h1 h2 => hval0 j t v (by simpa using h1) (by simpa using h2)) (by kernel_rfl) (fun xs h => law_RasmStream xs h)).mono fun e W' ⟨he, bel⟩ => ?_
  subst he
  have hk := args_keep laidOut bel (by kernel_rfl) hA
  have hl := hA
  rw [Try.params4] at hl
  obtain ⟨v0, vs0, d0, ds0, p0, q0, hargs, rfl, hp, h0, r0⟩ := trodAll_cons hl
  obtain ⟨v1, vs1, d1, ds1, p1, q1, rfl, rfl, rfl, h1, r1⟩ := trodAll_cons r0
  obtain ⟨rfl, rfl, rfl⟩ := trodAll_nil r1
  exact ⟨_, rfl, _, _, _, [], _, [], hW, trodAll_mk1 (shut_bool Try.underlying4 _), hk, rfl, bel.frame _, fun h => by cases h⟩

theorem over : Rows.rasmStreamRow.holds Try.pinned (OpenSpec.ofChange Rows.rasmStreamSpec) :=
  OpenClaim.holds_of_wide 4 Try.f4 rfl rfl rfl rfl rfl rfl rfl ⟨rfl, rfl, rfl, rfl, rfl⟩ rfl rfl rfl rfl rfl (by kernel_rfl) Try.func4 (by kernel_rfl)
    (of_decide_eq_true (by kernel_rfl)) (by unfold Func.isWrapper; first | (rw [if_pos (by decide +kernel)]; kernel_rfl) | (rw [if_neg (by decide +kernel)]; exact ⟨rfl, rfl⟩))
    (fun os started H enc _ => lifted os started H enc)

theorem proved : Rows.RasmStreamSaid := over
#print axioms proved
end Go.Proofs.Ytjdemohgegldaaa.rasmStream
