/-
  Layer 6: the sequence of a set's intervals.
-/
import Derived.Test.YtpbmlllffmkkdaaAm19
import Derived.Test.YtpbmlllffmkkdaaProg
import Derived.RangeFuncBox
import Derived.RangeFuncLeaves
import Derived.Shelf.Abstract
import Derived.OwnWalkIn
import Derived.TacticsInMore
import Derived.LoopNIn
import Derived.LoopIn
namespace Go.Proofs.Ytpbmlllffmkkdaa
open Go.RowKit Go.Shelf
attribute [local go_sem] Oper.semAt_some

set_option maxRecDepth 100000 in
set_option maxHeartbeats 2000000 in
theorem each1_in (l Bs Bo b off len cap : Nat) (im : Nat → Prop) (zs : List (Int × Int)) (hreach : len * 16 ≤ 140737488351232) (hb : len ≠ 0 → im b) (J : Nat → World → Prop) (Jx : World → Prop) (W : World)
    (hJ : ∀ k A B, J k A → Below A.heap.size A B → J k B)
    (hY : ∀ k A, k < len → J k A → Stable im W A → YieldAt Fence.wide 0 Try.prog l #[.agg #[.int .i64 (zs[k]?.getD (0,0)).1, .int .i64 (zs[k]?.getD (0,0)).2]] A fun e W' =>
      (e = .returned (.bool true) ∧ J (k + 1) W' ∧ Stable im A W') ∨ (e = .returned (.bool false) ∧ Jx W'))
    (hlt0 : ∀ A, Stable im W A → ∀ x, im x → x < A.heap.size) (hBs : W.cell? ⟨Bs, Bo, none⟩ = some (.slice (some ⟨b, off, none⟩) len cap)) (hc : ∀ j, j < len → W.cell? ⟨b, off + j * 2, none⟩ = some (.int .i64 (zs[j]?.getD (0,0)).1) ∧ W.cell? ⟨b, off + j * 2 + 1, none⟩ = some (.int .i64 (zs[j]?.getD (0,0)).2)) (h0 : J 0 W) :
    CallsIn Fence.wide 0 Try.prog 40 #[.func (.yield l) #[] #[], .pointer (some ⟨Bs, Bo, none⟩)] W fun e W' => (∃ v, e = .returned v) ∧ (J len W' ∨ Jx W') := by
  refine callsIn_of_wp Try.func40 rfl trivial ?_ rfl
  simp only [Try.ntmps40, List.size_toArray, List.length_cons, List.length_nil, Nat.reduceAdd, Nat.reduceSub, Array.replicate_succ, Array.replicate_zero, List.push_toArray, List.append_toArray, List.nil_append, List.cons_append]
  gi_wp2
  gi_loopw [7] (fun i wr => ∃ k : Nat, k ≤ len ∧ i = .int .i64 k ∧ J k wr ∧ Stable im W wr)
    (fun i _ => len - (intOf i).toNat)
  case atStart => exact ⟨0, Nat.zero_le _, rfl, h0, Stable.refl _ _⟩
  case round =>
    obtain ⟨k, hk, rfl, hJs, hnx⟩ := hrel
    by_cases hlt : k < len
    · have hc1 := (hnx.cell (o := off + k * 2) (hb (by omega))).trans (hc k hlt).1
      have hc2 := (hnx.cell (o := off + k * 2 + 1) (hb (by omega))).trans (hc k hlt).2
      have hal : Below wr.heap.size wr (wr.alloc (.cells #[.int .i64 (zs[k]?.getD (0,0)).1, .int .i64 (zs[k]?.getD (0,0)).2] 29)) := (Below.refl _ wr).alloc (Nat.le_refl _) _
      have hst : Stable im wr (wr.alloc (.cells #[.int .i64 (zs[k]?.getD (0,0)).1, .int .i64 (zs[k]?.getD (0,0)).2] 29)) := fun x hx => hal.block x (hlt0 wr hnx x hx)
      obtain ⟨fn, tmps, assign, body, hy, hR⟩ := hY k _ hlt (hJ k _ _ hJs hal) (hnx.trans hst)
      gi_wp2
      refine ⟨rfl, hR.mono ?_⟩
      rintro e W3 (⟨rfl, hJ3, hk3⟩ | ⟨rfl, hJx3⟩)
      · gi_wp2
        go_roundw
        case rel => exact ⟨k + 1, by omega, by simp, hJ3, (hnx.trans hst).trans hk3⟩
        case measure => simp [intOf]; omega
      · gi_wp2
        refine bodyPost_ret (results_none rfl _ _ _) rfl ?_
        exact ⟨⟨_, rfl⟩, .inr hJx3⟩
    · obtain rfl : k = len := by omega
      gi_wp2
      go_end0
      exact ⟨⟨_, rfl⟩, .inl hJs⟩

set_option maxRecDepth 100000 in
set_option maxHeartbeats 1000000 in
theorem each1_nil (l Bs Bo : Nat) (a : Option Addr) (cap : Nat) (J : Nat → World → Prop) (W : World) (hBs : W.cell? ⟨Bs, Bo, none⟩ = some (.slice a 0 cap)) (h0 : J 0 W) :
    CallsIn Fence.wide 0 Try.prog 40 #[.func (.yield l) #[] #[], .pointer (some ⟨Bs, Bo, none⟩)] W fun e W' => (∃ v, e = .returned v) ∧ J 0 W' := by
  refine callsIn_of_wp Try.func40 rfl trivial ?_ rfl
  simp only [Try.ntmps40, List.size_toArray, List.length_cons, List.length_nil, Nat.reduceAdd, Nat.reduceSub, Array.replicate_succ, Array.replicate_zero, List.push_toArray, List.append_toArray, List.nil_append, List.cons_append]
  gi_wp2
  gi_loopw [7] (fun i wr => i = .int .i64 0 ∧ J 0 wr) (fun _ _ => 0)
  case atStart => exact ⟨rfl, h0⟩
  case round =>
    obtain ⟨rfl, hJs⟩ := hrel
    gi_wp2
    go_end0
    exact ⟨⟨_, rfl⟩, hJs⟩
/-- Intervals as data. -/
def iv (z : Int × Int) : D := .agg [.v (.int .i64 z.1), .v (.int .i64 z.2)]
theorem seq_each {zs : List (Int × Int)} {x : D} (hx : IsL 2 (zs.map iv) x) (hm : zs.length * 16 ≤ 140737488351232) : SeqD Try.prog 40 [.pt (.agg [x])] (zs.map fun z => [iv z]) := by
  intro im w cvs him hcv l J Jx hJ hJx hR h0
  match cvs, hcv with
  | [c], ⟨hc, _⟩ =>
    obtain ⟨b, o, us, h1, h2, h3, h4⟩ : ∃ b o, ∃ us : Nat → Value, c = .pointer (some ⟨b, o, none⟩) ∧ im b ∧ w.cell? ⟨b, o, none⟩ = some (us 0) ∧ Reads im w (us 0) x := by
      cases hc with
      | @pt b o y us hb hl hr => exact ⟨b, o, us, rfl, hb (by simp [D.cells]), by simpa using hl 0 x rfl, hr 0 x rfl⟩
    subst h1
    have hlt0 : ∀ A, Stable im w A → ∀ y, im y → y < A.heap.size := fun A hA y hy => by
      have h1 := him y hy
      have h2 := hA y hy
      rcases Nat.lt_or_ge y A.heap.size with h | h
      · exact h
      · rw [Array.getElem?_eq_none h, Array.getElem?_eq_getElem h1] at h2; cases h2
    have hget : ∀ k A, k < zs.length → J k A → Stable im w A → YieldAt Fence.wide 0 Try.prog l #[.agg #[.int .i64 (zs[k]?.getD (0,0)).1, .int .i64 (zs[k]?.getD (0,0)).2]] A fun e W' =>
        (e = .returned (.bool true) ∧ J (k + 1) W' ∧ Stable im A W') ∨ (e = .returned (.bool false) ∧ Jx W') := fun k A hk hj hs => by
      have hz : zs[k]? = some zs[k] := by simp [hk]
      refine hR k [iv zs[k]] [.agg #[.int .i64 zs[k].1, .int .i64 zs[k].2]] A (by simp [hz]) hj hs ⟨⟨[.int .i64 zs[k].1, .int .i64 zs[k].2], rfl, .v rfl, .v rfl, trivial⟩, trivial⟩ |> fun h => ?_
      rw [hz]; exact h
    generalize us 0 = V at h3 h4
    rcases hx with rfl | ⟨rfl, hz⟩
    · cases h4 with
      | @sl b2 o2 n cp _ q _ vs hs hb hn hcp hmx hw hl hr =>
        rw [List.length_map] at hn
        subst hn
        by_cases h0' : zs.length = 0
        · rw [h0'] at h3
          refine (each1_nil l b o _ cp J w h3 h0).mono fun e W' ⟨h1, h2⟩ => ⟨h1, .inl ?_⟩
          rw [List.length_map, h0']; exact h2
        · have hne : zs.map iv ≠ [] := fun e => h0' (by simpa using congrArg List.length e)
          obtain rfl := hs hne
          have hcell : ∀ j, j < zs.length → w.cell? ⟨b2, o2 + j * 2, none⟩ = some (.int .i64 (zs[j]?.getD (0,0)).1) ∧ w.cell? ⟨b2, o2 + j * 2 + 1, none⟩ = some (.int .i64 (zs[j]?.getD (0,0)).2) := fun j hj => by
            have hz : zs[j]? = some zs[j] := by simp [hj]
            have hm' : (zs.map iv)[j]? = some (iv zs[j]) := by simp [hz]
            have f0 := flat_at hw hm' (k := 0) (by omega)
            have f1 := flat_at hw hm' (k := 1) (by omega)
            have r0 := hr (j * 2 + 0) _ (f0.trans rfl)
            have r1 := hr (j * 2 + 1) _ (f1.trans rfl)
            have l0 := hl (j * 2 + 0) _ (f0.trans rfl)
            have l1 := hl (j * 2 + 1) _ (f1.trans rfl)
            generalize vs (j * 2 + 0) = v0 at r0 l0
            generalize vs (j * 2 + 1) = v1 at r1 l1
            cases r0; cases r1
            rw [hz]
            exact ⟨l0, l1⟩
          have hfl : flat (zs.map iv) ≠ [] := by
            cases zs with
            | nil => exact absurd rfl h0'
            | cons z zs => simp [flat, iv, D.cells]
          refine (each1_in l b o b2 o2 zs.length cp im zs hm (fun _ => hb hfl) J Jx w hJ hget hlt0 h3 hcell h0).mono fun e W' ⟨h1, h2⟩ => ⟨h1, by rw [List.length_map]; exact h2⟩
    · have hz : zs = [] := by simpa using hz
      subst hz
      cases h4
      exact (each1_nil l b o none 0 J w h3 h0).mono fun e W' ⟨h1, h2⟩ => ⟨h1, .inl h2⟩
end Go.Proofs.Ytpbmlllffmkkdaa
