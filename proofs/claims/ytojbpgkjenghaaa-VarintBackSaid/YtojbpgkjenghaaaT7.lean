/-
  Layer 2: VarintBack.
-/
import Derived.Test.YtojbpgkjenghaaaT6
namespace Go.Proofs.Ytojbpgkjenghaaa
open Go.RowKit
set_option linter.unusedSimpArgs false
set_option linter.unusedVariables false


def OkL (m : List Int) : Prop := ∀ n ∈ m, 0 ≤ n ∧ n ≤ 4611686018427387903
theorem ok_sz {n : Int} (h : 0 ≤ n ∧ n ≤ 4611686018427387903) : szF n ≠ 0 := by
  rcases sz_cases n with h1 | h1 | h1 | h1 | h1 <;> omega
theorem encV_length {n : Int} (h : 0 ≤ n ∧ n ≤ 4611686018427387903) : (encV n).length = (szF n).toNat ∧ 1 ≤ (szF n).toNat := by
  refine ⟨by unfold encV; exact encS_len _ _, ?_⟩
  rcases sz_cases n with h1 | h1 | h1 | h1 | h1 <;> omega
theorem A_app : ∀ (m w : List Int), OkL m → A (m.flatMap encV ++ w) = comb m (A w)
  | [], w, _ => by simpa using A_comb w
  | n :: m, w, h => by
    have hn := h n (by simp)
    have ih := A_app m w (fun x hx => h x (by simp [hx]))
    obtain ⟨h1, h2⟩ := encV_length hn
    have hg := getF_enc (ok_sz hn) (m.flatMap encV ++ w)
    have e : (n :: m).flatMap encV ++ w = encV n ++ (m.flatMap encV ++ w) := by simp
    rw [e]
    have hne : encV n ++ (m.flatMap encV ++ w) ≠ [] := by
      intro h0
      have := congrArg List.length h0
      simp only [List.length_append, List.length_nil] at this
      omega
    have hd : (encV n ++ (m.flatMap encV ++ w)).drop (szF n).toNat = m.flatMap encV ++ w := by rw [← h1]; exact List.drop_left
    rw [A_ok hne (by rw [hg]), hg]
    simp only
    rw [hd, ih]
    unfold comb
    by_cases h3 : (A w).2 = 0
    · simp [h3]
    · simp [h3]
theorem A_join {m : List Int} (h : OkL m) : A (m.flatMap encV) = (m, 0) := by
  have := A_app m [] h
  rw [List.append_nil, A_nil] at this
  rw [this]; simp [comb]
theorem join_ok {m : List Int} (h : OkL m) : joinF m = (m.flatMap encV, 0) := by
  unfold joinF
  rw [if_pos]
  simp only [okF, List.all_eq_true, decide_eq_true_eq]
  exact fun n hn => ok_sz (h n hn)
theorem flat_bytes (m : List Int) : Bytes (m.flatMap encV) := by
  intro x hx
  obtain ⟨n, _, hn⟩ := List.mem_flatMap.1 hx
  exact enc_bytes n x hn
theorem enc_cut {z : Int} (hz : 0 ≤ z ∧ z ≤ 4611686018427387903) (h : szF z ≠ 1) : A ((encV z).take ((encV z).length - 1)) = ([], 3) := by
  obtain ⟨s, h1, h2, h3, _, h4⟩ := sz_nat (ok_sz hz)
  have hb := b0_bd h3 h4
  have hs2 : 2 ≤ s := by omega
  have e : encV z = encS z s := by unfold encV; rw [h1, Int.toNat_natCast]
  have hl : (encV z).length = s := by rw [e, encS_len]
  have hc : sz0 ((encV z).getD 0 0) = s := by rw [e, encS_get0 z (by omega)]; exact sz0_mark h2 hb.1 hb.2
  have hg := getF_short (l := encV z) (i := (encV z).length - 1) (by rw [hc]; omega)
  rw [A_bad (by intro h0; have := congrArg List.length h0; rw [List.length_take, List.length_nil] at this; omega) (by rw [hg]; decide), hg]
theorem join_cut {m : List Int} (h : OkL m) (hne : m ≠ []) : (A ((m.flatMap encV).take ((m.flatMap encV).length - 1))).2 = if szF (m.getD (m.length - 1) 0) = 1 then 0 else 3 := by
  obtain ⟨a, z, rfl⟩ : ∃ a z, m = a ++ [z] := ⟨m.dropLast, m.getLast hne, (List.dropLast_concat_getLast hne).symm⟩
  have hz := h z (by simp)
  obtain ⟨h1, h2⟩ := encV_length hz
  have e1 : (a ++ [z]).flatMap encV = a.flatMap encV ++ encV z := by simp
  have e2 : (a ++ [z]).getD ((a ++ [z]).length - 1) 0 = z := by simp [List.getD]
  have e3 : (a.flatMap encV ++ encV z).take ((a.flatMap encV ++ encV z).length - 1) = a.flatMap encV ++ (encV z).take ((encV z).length - 1) := by
    rw [List.length_append, List.take_append]
    rw [List.take_of_length_le (by omega)]
    congr 2; omega
  rw [e1, e2, e3, A_app a _ (fun x hx => h x (by simp [hx]))]
  by_cases hs : szF z = 1
  · rw [if_pos hs]
    have : (encV z).take ((encV z).length - 1) = [] := by
      apply List.eq_nil_of_length_eq_zero
      rw [List.length_take]; omega
    rw [this, A_nil]; simp [comb]
  · rw [if_neg hs, enc_cut hz hs]; simp [comb]
theorem sz_mono {u v : Int} (hu : 0 ≤ u ∧ u ≤ 4611686018427387903) (hv : 0 ≤ v ∧ v ≤ 4611686018427387903) (h : u < v) : szF u ≤ szF v := by
  unfold szF; (repeat' split) <;> omega
theorem two_at (p : List Int) (v : Int) {k : Nat} (hk : p.length = k) (h0 : ((k : Nat) : Int) > 0) : D.inb 1 ((ofL 1 (ints .i64 p)).app 1 [.v (.int .i64 v)]) (.v (.int .i64 ((k : Nat) - 1))) ∧ ((ofL 1 (ints .i64 p)).app 1 [.v (.int .i64 v)]).at_ (.v (.int .i64 ((k : Nat) - 1))) = .v (.int .i64 (p.getD (k - 1) 0)) := by
  have e : ((k : Nat) : Int) - 1 = ((k - 1 : Nat) : Int) := by omega
  have happ : (ofL 1 (ints .i64 p)).app 1 [.v (.int .i64 v)] = ofL 1 (ints .i64 (p ++ [v])) := by rw [app_ofL]; simp [ints]
  rw [happ, e]
  refine ⟨inb_ofL_ints _ _ (by simp; omega), ?_⟩
  rw [at_ofL_ints _ _ (by simp; omega), getD_app (by omega)]
def mF (zs : List Int) : List Int := zs.map fun z => z % 4611686018427387904
theorem mF_ok {zs : List Int} : OkL (mF zs) := by
  intro n hn
  obtain ⟨z, _, rfl⟩ := List.mem_map.1 hn
  omega
theorem mF_len (zs : List Int) : (mF zs).length = zs.length := by simp [mF]
theorem mF_take {zs : List Int} {k : Nat} (h : k < zs.length) : mF (zs.take (k + 1)) = mF (zs.take k) ++ [zs.getD k 0 % 4611686018427387904] := by
  rw [List.take_succ_eq_append_getElem h, List.getD_eq_getElem?_getD, List.getElem?_eq_getElem h]; unfold mF; rw [List.map_append]; rfl
theorem getD_ok {m : List Int} (h : OkL m) (k : Nat) : 0 ≤ m.getD k 0 ∧ m.getD k 0 ≤ 4611686018427387903 := by
  by_cases hk : k < m.length
  · exact h _ (by simp [List.getD, hk])
  · simp [List.getD, List.getElem?_eq_none (Nat.le_of_not_lt hk)]

theorem flat_first {m : List Int} (h : m ≠ []) : ∃ R, m.flatMap encV = encV (m.getD 0 0) ++ R := by
  cases m with
  | nil => exact absurd rfl h
  | cons a m => exact ⟨m.flatMap encV, by simp⟩

theorem vc_backL (x : D) (zs t : List Int) : Cond Try.prog (fun k => if k = 5 then some ⟨[6], [5], [0, 1], []⟩ else none) Try.f5 [x, str t] [.v (.bool true)] = ((NotAgg x ∧ NotAgg (str t) ∧ True) ∧ ∃ (r : D), D.lenT (TypeDesc.slice 45) x = some r ∧ ∃ (r_1 : D), D.bin BinOp.gtr r (D.v (Value.int IntKind.i64 40)) = some r_1 ∧ ∃ (b : Bool), r_1 = D.v (Value.bool b) ∧ (b = false → ∃ (r : D), D.lenT TypeDesc.string (str t) = some r ∧ ∃ (r_2 : D), D.bin BinOp.gtr r (D.v (Value.int IntKind.i64 20)) = some r_2 ∧ ∃ (b : Bool), r_2 = D.v (Value.bool b) ∧ (b = true → ∃ (r : D), PureD Try.prog 7 [] [r] ∧ fits [(false, [none])] [r] ∧ ((∃ (y : Value), r = D.v y) ∧ True) ∧ [r] = [D.v (Value.bool true)]) ∧ (b = false → ∃ (I : List D → Prop), ∃ (μ : List D → Nat), ((D.v (Value.int IntKind.i64 0) = D.v (Value.int IntKind.i64 0) ∧ true = true ∧ x = x ∧ str t = str t ∧ True) ∧ ((true = true ∧ D.v nilS = D.v nilS) ∧ True) ∧ I [D.v (Value.int IntKind.i64 0), D.v nilS]) ∧ ∀ (r r_3 : D), I [r, r_3] → ∃ (r_4 : D), D.lenT (TypeDesc.slice 45) x = some r_4 ∧ ∃ (r_5 : D), D.bin BinOp.lss r r_4 = some r_5 ∧ ∃ (b : Bool), r_5 = D.v (Value.bool b) ∧ (b = true → D.inb 1 x r ∧ 0 + 1 ≤ (x.at_ r).cells.length ∧ ∃ (r_6 : D), D.bin BinOp.rem ((x.at_ r).cell 0) (D.v (Value.int IntKind.u64 4611686018427387904)) = some r_6 ∧ ∃ (r_7 : D), D.conv IntKind.i64 r_6 = some r_7 ∧ ∃ (ls : List D), r_3.lst = some ls ∧ ∃ (lx : List D), D.lstSz 1 (D.sl 1 (chunks false 1 1 [r_7])) = some lx ∧ (ls.length + lx.length) * 8 ≤ 1099511627776 ∧ ∃ (r_8 : D), D.bin BinOp.gtr r (D.v (Value.int IntKind.i64 0)) = some r_8 ∧ ∃ (b : Bool), r_8 = D.v (Value.bool b) ∧ (b = true → D.inb 1 (D.app 1 r_3 lx) r ∧ 0 + 1 ≤ ((D.app 1 r_3 lx).at_ r).cells.length ∧ ∃ (r_9 : D), PureD Try.prog 12 [((D.app 1 r_3 lx).at_ r).cell 0] [r_9] ∧ fits [(false, [none])] [r_9] ∧ ∃ (r_10 : D), D.bin BinOp.sub r (D.v (Value.int IntKind.i64 1)) = some r_10 ∧ D.inb 1 (D.app 1 r_3 lx) r_10 ∧ 0 + 1 ≤ ((D.app 1 r_3 lx).at_ r_10).cells.length ∧ ∃ (r_11 : D), PureD Try.prog 12 [((D.app 1 r_3 lx).at_ r_10).cell 0] [r_11] ∧ fits [(false, [none])] [r_11] ∧ ∃ (r_12 : D), D.bin BinOp.lss r_9 r_11 = some r_12 ∧ ∃ (b : Bool), r_12 = D.v (Value.bool b) ∧ (b = true → D.inb 1 (D.app 1 r_3 lx) r ∧ 0 + 1 ≤ ((D.app 1 r_3 lx).at_ r).cells.length ∧ ∃ (r_13 : D), D.bin BinOp.sub r (D.v (Value.int IntKind.i64 1)) = some r_13 ∧ D.inb 1 (D.app 1 r_3 lx) r_13 ∧ 0 + 1 ≤ ((D.app 1 r_3 lx).at_ r_13).cells.length ∧ ∃ (r_14 : D), D.bin BinOp.gtr (((D.app 1 r_3 lx).at_ r).cell 0) (((D.app 1 r_3 lx).at_ r_13).cell 0) = some r_14 ∧ ∃ (b : Bool), r_14 = D.v (Value.bool b) ∧ (b = true → (True ∧ True) ∧ [D.v (Value.bool false)] = [D.v (Value.bool true)]) ∧ (b = false → ∃ (r_15 : D), D.bin BinOp.add r (D.v (Value.int IntKind.i64 1)) = some r_15 ∧ (r_15 = r_15 ∧ true = true ∧ x = x ∧ str t = str t ∧ True) ∧ ((true = true ∧ D.app 1 r_3 lx = D.app 1 r_3 lx) ∧ True) ∧ I [r_15, D.app 1 r_3 lx] ∧ μ [r_15, D.app 1 r_3 lx] < μ [r, r_3])) ∧ (b = false → ∃ (r_13 : D), D.bin BinOp.add r (D.v (Value.int IntKind.i64 1)) = some r_13 ∧ (r_13 = r_13 ∧ true = true ∧ x = x ∧ str t = str t ∧ True) ∧ ((true = true ∧ D.app 1 r_3 lx = D.app 1 r_3 lx) ∧ True) ∧ I [r_13, D.app 1 r_3 lx] ∧ μ [r_13, D.app 1 r_3 lx] < μ [r, r_3])) ∧ (b = false → ∃ (r_9 : D), D.bin BinOp.add r (D.v (Value.int IntKind.i64 1)) = some r_9 ∧ (r_9 = r_9 ∧ true = true ∧ x = x ∧ str t = str t ∧ True) ∧ ((true = true ∧ D.app 1 r_3 lx = D.app 1 r_3 lx) ∧ True) ∧ I [r_9, D.app 1 r_3 lx] ∧ μ [r_9, D.app 1 r_3 lx] < μ [r, r_3])) ∧ (b = false → ∃ (r : D), ∃ (r_6 : D), PureD Try.prog 10 [r_3] [r, r_6] ∧ fits [(false, [some 1]), (false, [none])] [r, r_6] ∧ ∃ (r_7 : D), r.toStr = some r_7 ∧ ∃ (r_8 : D), ∃ (r_9 : D), PureD Try.prog 16 [r_7] [r_8, r_9] ∧ fits [(false, [some 1]), (false, [none])] [r_8, r_9] ∧ ∃ (r_10 : D), D.bin BinOp.neq r_6 (D.v (Value.int IntKind.i64 0)) = some r_10 ∧ ∃ (b : Bool), r_10 = D.v (Value.bool b) ∧ (b = false → ∃ (r_11 : D), D.bin BinOp.neq r_9 (D.v (Value.int IntKind.i64 0)) = some r_11 ∧ ∃ (b : Bool), r_11 = D.v (Value.bool b) ∧ (b = false → ∃ (r_12 : D), PureD Try.prog 18 [r_8, r_3] [r_12] ∧ fits [(false, [none])] [r_12] ∧ ∃ (r_13 : D), D.un UnOp.not r_12 = some r_13 ∧ ∃ (b : Bool), r_13 = D.v (Value.bool b) ∧ (b = true → (True ∧ True) ∧ [D.v (Value.bool false)] = [D.v (Value.bool true)]) ∧ (b = false → ∃ (r_14 : D), D.lenT (TypeDesc.slice 3) r_3 = some r_14 ∧ ∃ (r_15 : D), D.bin BinOp.eql r_14 (D.v (Value.int IntKind.i64 0)) = some r_15 ∧ ∃ (b : Bool), r_15 = D.v (Value.bool b) ∧ (b = true → ∃ (r : D), PureD Try.prog 7 [] [r] ∧ fits [(false, [none])] [r] ∧ ((∃ (y : Value), r = D.v y) ∧ True) ∧ [r] = [D.v (Value.bool true)]) ∧ (b = false → ∃ (r_16 : D), r.toStr = some r_16 ∧ ∃ (r_17 : D), D.bin BinOp.add r_16 (str t) = some r_17 ∧ ∃ (r_18 : D), ∃ (r_19 : D), ∃ (r_20 : D), PureD Try.prog 14 [r_17] [r_18, r_19, r_20] ∧ fits [(false, [none]), (false, [none]), (false, [none])] [r_18, r_19, r_20] ∧ ∃ (r_21 : D), D.lenT (TypeDesc.slice 5) r = some r_21 ∧ ∃ (r_22 : D), D.bin BinOp.sub r_21 (D.v (Value.int IntKind.i64 1)) = some r_22 ∧ ∃ (r_23 : D), D.cutL 1 r none (some r_22) none = some r_23 ∧ ∃ (r_24 : D), r_23.toStr = some r_24 ∧ ∃ (r_25 : D), ∃ (r_26 : D), PureD Try.prog 16 [r_24] [r_25, r_26] ∧ fits [(false, [some 1]), (false, [none])] [r_25, r_26] ∧ ∃ (r_27 : D), ∃ (r_28 : D), PureD Try.prog 8 [r_18] [r_27, r_28] ∧ fits [(false, [some 1]), (false, [none])] [r_27, r_28] ∧ ∃ (r_29 : D), D.lenT (TypeDesc.slice 3) r_3 = some r_29 ∧ ∃ (r_30 : D), D.bin BinOp.sub r_29 (D.v (Value.int IntKind.i64 1)) = some r_30 ∧ D.inb 1 r_3 r_30 ∧ 0 + 1 ≤ (r_3.at_ r_30).cells.length ∧ ∃ (r_31 : D), PureD Try.prog 12 [(r_3.at_ r_30).cell 0] [r_31] ∧ fits [(false, [none])] [r_31] ∧ ∃ (r_32 : D), D.bin BinOp.eql r_31 (D.v (Value.int IntKind.i64 1)) = some r_32 ∧ D.inb 1 r_3 (D.v (Value.int IntKind.i64 0)) ∧ 0 + 1 ≤ (r_3.at_ (D.v (Value.int IntKind.i64 0))).cells.length ∧ ∃ (r_33 : D), D.bin BinOp.eql r_18 ((r_3.at_ (D.v (Value.int IntKind.i64 0))).cell 0) = some r_33 ∧ ∃ (b : Bool), r_33 = D.v (Value.bool b) ∧ (b = true → D.inb 1 r_3 (D.v (Value.int IntKind.i64 0)) ∧ 0 + 1 ≤ (r_3.at_ (D.v (Value.int IntKind.i64 0))).cells.length ∧ ∃ (r_34 : D), PureD Try.prog 12 [(r_3.at_ (D.v (Value.int IntKind.i64 0))).cell 0] [r_34] ∧ fits [(false, [none])] [r_34] ∧ ∃ (r_35 : D), D.bin BinOp.eql r_19 r_34 = some r_35 ∧ ∃ (b : Bool), r_35 = D.v (Value.bool b) ∧ (b = true → ∃ (r_36 : D), D.bin BinOp.eql r_20 (D.v (Value.int IntKind.i64 0)) = some r_36 ∧ ∃ (b : Bool), r_36 = D.v (Value.bool b) ∧ (b = true → ∃ (r_37 : D), r_27.toStr = some r_37 ∧ ∃ (r_38 : D), D.cutL 1 r none (some r_19) none = some r_38 ∧ ∃ (r : D), r_38.toStr = some r ∧ ∃ (r_39 : D), D.bin BinOp.eql r_37 r = some r_39 ∧ ∃ (b : Bool), r_39 = D.v (Value.bool b) ∧ (b = true → ∃ (r : D), D.bin BinOp.eql r_28 (D.v (Value.int IntKind.i64 0)) = some r ∧ ∃ (b : Bool), r = D.v (Value.bool b) ∧ (b = true → ∃ (r : D), D.bin BinOp.eql r_26 (D.v (Value.int IntKind.i64 3)) = some r ∧ ∃ (r_40 : D), r.bne r_32 = some r_40 ∧ ∃ (b : Bool), r_40 = D.v (Value.bool b) ∧ (b = true → ∃ (r : D), PureD Try.prog 7 [] [r] ∧ fits [(false, [none])] [r] ∧ ((∃ (y : Value), r = D.v y) ∧ True) ∧ [r] = [D.v (Value.bool true)]) ∧ (b = false → (True ∧ True) ∧ [D.v (Value.bool false)] = [D.v (Value.bool true)])) ∧ (b = false → (True ∧ True) ∧ [D.v (Value.bool false)] = [D.v (Value.bool true)])) ∧ (b = false → (True ∧ True) ∧ [D.v (Value.bool false)] = [D.v (Value.bool true)])) ∧ (b = false → (True ∧ True) ∧ [D.v (Value.bool false)] = [D.v (Value.bool true)])) ∧ (b = false → (True ∧ True) ∧ [D.v (Value.bool false)] = [D.v (Value.bool true)])) ∧ (b = false → (True ∧ True) ∧ [D.v (Value.bool false)] = [D.v (Value.bool true)])))) ∧ (b = true → (True ∧ True) ∧ [D.v (Value.bool false)] = [D.v (Value.bool true)])) ∧ (b = true → (True ∧ True) ∧ [D.v (Value.bool false)] = [D.v (Value.bool true)])))) ∧ (b = true → ∃ (r : D), PureD Try.prog 7 [] [r] ∧ fits [(false, [none])] [r] ∧ ((∃ (y : Value), r = D.v y) ∧ True) ∧ [r] = [D.v (Value.bool true)])) := by kernel_rfl
set_option maxHeartbeats 16000000 in
theorem backL (x : D) (zs t : List Int) (hX : IsL 1 (ints .u64 zs) x) (hz : ∀ z ∈ zs, 0 ≤ z ∧ z < 18446744073709551616) (hT : Bytes t) : PureD Try.prog 5 [x, str t] [.v (.bool true)] := by
  refine pure_cond (Lp := (fun k => if k = 5 then some ⟨[6], [5], [0, 1], []⟩ else none)) (by kernel_rfl) Try.func5 (by kernel_rfl) (by kernel_rfl) ?_
  rw [vc_backL x zs t]
  simp only [hX.notAgg, hX.lenT, ints_length, Option.some.injEq, exists_eq_left']
  have h1 : True := trivial
  have a1 : True := trivial
  have a2 : True := trivial
  have hvv : True := trivial
  by_cases hbig : 40 < zs.length ∨ 20 < t.length
  · repeat' (first
      | (refine ex_some (by simp (disch := omega) only [bin_shr, bin_shl, bin_and, bin_or, bin_xor, len_str, toStr_ofL, bin_add, bin_sub, bin_mul, bin_quo, bin_rem, bin_lss, bin_leq, bin_gtr, bin_geq, bin_eql, bin_neq, eqs_cn, eqs_ci, eqs_cb, eqs_cs, Option.map_some, lenT_ofL, lst_ofL, lstSz_ofL, chunk_one, lst_nil, lst_sl, lstSz_sl, lstSz_nil, Bool.and_true, Bool.true_and, Bool.and_false, Bool.false_and, beq_self_eq_true, beq_bb, bne_bb, un_not, un_neg, conv_int, min2_int, max2_int, w64, w32, wu8, wu16, wu32, wu64, tdiv_nn, tmod_nn, cell_zero, cell_succ, cell_v, cells_v, cells_agg, Bool.not_true, Bool.not_false, Int.reduceLT, Int.reduceLE, Int.reduceEq, Int.reduceNeg, Int.reduceAdd, Int.reduceSub, Int.reduceMul, intOf_v, decide_true, decide_false]; rfl) ?_)
      | (refine ex_bool ?_)
      | (exact notAgg_v _)
      | (refine ⟨_, awake, ?_⟩)
      | (refine And.intro ?_ ?_)
      | (intro hx; first | (cases hx; done) | (exfalso; revert hx; simp (disch := omega) only [decide_eq_true_eq, decide_eq_false_iff_not, Bool.not_eq_true', Bool.not_eq_false', Bool.and_eq_true, Bool.and_eq_false_iff, Int.not_lt, Int.not_le, ne_eq, not_false_eq_true, not_true_eq_false, reduceCtorEq, Bool.true_eq_false, Bool.false_eq_true, beq_iff_eq, bne_iff_ne, beq_eq_false_iff_ne, false_or, or_false, true_and, and_true]; done) | (simp (disch := omega) only [decide_eq_true_eq, decide_eq_false_iff_not, Bool.not_eq_true', Bool.not_eq_false', Bool.and_eq_true, Bool.and_eq_false_iff, Int.not_lt, Int.not_le, ne_eq, not_false_eq_true, not_true_eq_false, reduceCtorEq, Bool.true_eq_false, Bool.false_eq_true, beq_iff_eq, bne_iff_ne, beq_eq_false_iff_ne, false_or, or_false, true_and, and_true] at hx; first | (exfalso; omega) | skip) | skip)
      | trivial
      | exact fit_ofL _ _
      | (simp (disch := omega) only [notAgg_v, notAgg_sl, plain_v, fits, fitsOne, fitsCells, xsOf, cell_zero, cell_succ, List.range, List.range.loop, List.map, cond_true, cond_false, D.v.injEq, exists_eq', exists_eq, and_self, and_true, true_and, D.agg.injEq, List.length, exists_eq_left', D.sl.injEq, reduceCtorEq, false_or, true_or, or_true, or_false, cell_zero, cell_succ, cell_v, cells_v, cells_agg, List.length_cons, List.length_nil]; done))
    all_goals first
      | (exfalso; omega)
      | exact fit_ofL _ _
      | omega
      | (simp only [leftG]; omega)
      | (rw [h1, ht]; rfl)
      | (rw [h1]; simp only [cells_v, List.length_cons, List.length_nil]; omega)
      | (rw [a1]; simp only [cells_v, List.length_cons, List.length_nil]; omega)
      | (rw [(w1 (by omega)).2]; simp only [cells_v, List.length_cons, List.length_nil]; omega)
      | (simp only [ints_length, List.length_append, List.length_cons, List.length_nil]; omega)
      | (simp; done)
      | fail
  · have hml : (mF zs).length ≤ 40 := by rw [mF_len]; omega
    have hmo : OkL (mF zs) := mF_ok
    have hfl := flat_len (mF zs)
    have C3 := join (ofL 1 (ints .i64 (mF zs))) (mF zs) (isL_ofL _ _) (by omega)
    rw [join_ok hmo] at C3
    have C4 := all ((mF zs).flatMap encV) (flat_bytes _) (by omega)
    rw [A_join hmo] at C4
    have M := same _ _ (mF zs) (mF zs) (isL_ofL _ _) (isL_ofL _ _) (by omega) (by omega)
    rw [show sameL (mF zs) (mF zs) = true by simp [sameL]] at M
    simp only at C3 C4
    have hcut := join_cut hmo
    have hml2 := mF_len zs
    by_cases hm0 : mF zs = []
    · have hm1 : (mF zs).length = 0 := by rw [hm0]; rfl
      repeat' (first
        | (refine ex_some (by simp (disch := omega) only [bin_shr, bin_shl, bin_and, bin_or, bin_xor, len_str, toStr_ofL, bin_add, bin_sub, bin_mul, bin_quo, bin_rem, bin_lss, bin_leq, bin_gtr, bin_geq, bin_eql, bin_neq, eqs_cn, eqs_ci, eqs_cb, eqs_cs, Option.map_some, lenT_ofL, lst_ofL, lstSz_ofL, chunk_one, lst_nil, lst_sl, lstSz_sl, lstSz_nil, Bool.and_true, Bool.true_and, Bool.and_false, Bool.false_and, beq_self_eq_true, beq_bb, bne_bb, un_not, un_neg, conv_int, min2_int, max2_int, w64, w32, wu8, wu16, wu32, wu64, tdiv_nn, tmod_nn, cell_zero, cell_succ, cell_v, cells_v, cells_agg, Bool.not_true, Bool.not_false, Int.reduceLT, Int.reduceLE, Int.reduceEq, Int.reduceNeg, Int.reduceAdd, Int.reduceSub, Int.reduceMul, intOf_v, decide_true, decide_false, h1, a1, hvv, ints_length]; rfl) ?_)
        | (refine ex_bool ?_)
        | (exact notAgg_v _)
        | (refine ⟨(fun r => ∃ k : Nat, k ≤ zs.length ∧ r = [.v (.int .i64 (k : Nat)), ofL 1 (ints .i64 (mF (zs.take k)))]), leftG zs.length, ?_⟩)
        | (refine fun (r2 r3 : D) (hI : (fun r => ∃ k : Nat, k ≤ zs.length ∧ r = [.v (.int .i64 (k : Nat)), ofL 1 (ints .i64 (mF (zs.take k)))]) [r2, r3]) => ?_; obtain ⟨k, hk, hl0⟩ := hI; simp only [List.cons.injEq, and_true] at hl0; obtain ⟨rfl, rfl⟩ := hl0; by_cases hlt : k < zs.length <;> first | (have hk1 : k < zs.length := (by omega); have h1 := hX.at_ints hk1; have i1 := hX.inb_ints hk1; have z1 := hz (zs.getD k 0) (by simp [List.getD, hk1]); have ht := mF_take hk1; have hpl : (mF (zs.take k)).length = k := (by rw [mF_len, List.length_take]; omega); have hpo : OkL (mF (zs.take k)) := mF_ok; generalize zs.getD k 0 = z at h1 z1 ht; generalize hvv : z % 4611686018427387904 = v at ht; have hv : 0 ≤ v ∧ v ≤ 4611686018427387903 := (by omega); generalize mF (zs.take k) = p at ht hpl hpo; have happ : ((ofL 1 (ints .i64 p)).app 1 [.v (.int .i64 v)]) = ofL 1 (ints .i64 (p ++ [v])) := (by rw [app_ofL]; simp [ints]); have j1 : D.inb 1 ((ofL 1 (ints .i64 p)).app 1 [.v (.int .i64 v)]) (.v (.int .i64 (k : Nat))) := (by rw [happ]; exact inb_ofL_ints _ _ (by simp; omega)); have a1 : ((ofL 1 (ints .i64 p)).app 1 [.v (.int .i64 v)]).at_ (.v (.int .i64 (k : Nat))) = .v (.int .i64 v) := (by rw [happ, at_ofL_ints _ _ (by simp; omega)]; simp [List.getD, ← hpl]); have s1 : PureD Try.prog 12 [(((ofL 1 (ints .i64 p)).app 1 [.v (.int .i64 v)]).at_ (.v (.int .i64 (k : Nat)))).cell 0] _ := (by rw [a1]; exact size v); have hu := getD_ok hpo (k - 1); have w1 := two_at p v hpl; generalize p.getD (k - 1) 0 = u at w1 hu; have a2 : True := trivial; have hmm := sz_mono hu hv; have inl : True := trivial) | (have hkk : k = zs.length := (by omega); subst hkk; rw [List.take_length]; have h1 : True := trivial; have a1 : True := trivial; have a2 : True := trivial; have hvv : True := trivial; have inl2 : True := trivial))
        | (exact i1)
        | (exact j1)
        | (exact (w1 (by omega)).1)
        | (have := inl; refine ⟨k + 1, by omega, ?_⟩)
        | (refine ⟨0, Nat.zero_le _, ?_⟩)
        | (refine ⟨_, s1, ?_⟩)
        | (have s2 : PureD Try.prog 12 [(((ofL 1 (ints .i64 p)).app 1 [.v (.int .i64 v)]).at_ (.v (.int .i64 ((k : Nat) - 1)))).cell 0] _ := (by rw [(w1 (by omega)).2]; exact size u); refine ⟨_, s2, ?_⟩)
        | (have a3 := (w1 (by omega)).2; refine ex_some (by simp only [a1, a3, cell_v, bin_gtr]; rfl) ?_)
        | (refine ⟨_, _, C3, ?_⟩)
        | (refine ⟨_, _, C4, ?_⟩)
        | (refine ⟨_, M, ?_⟩)
        | (refine ⟨_, awake, ?_⟩)
        | (refine And.intro ?_ ?_)
        | (intro hx; first | (cases hx; done) | (exfalso; revert hx; simp (disch := omega) only [decide_eq_true_eq, decide_eq_false_iff_not, Bool.not_eq_true', Bool.not_eq_false', Bool.and_eq_true, Bool.and_eq_false_iff, Int.not_lt, Int.not_le, ne_eq, not_false_eq_true, not_true_eq_false, reduceCtorEq, Bool.true_eq_false, Bool.false_eq_true, beq_iff_eq, bne_iff_ne, beq_eq_false_iff_ne, false_or, or_false, true_and, and_true, h1, a1, hvv, ints_length]; done) | (simp (disch := omega) only [decide_eq_true_eq, decide_eq_false_iff_not, Bool.not_eq_true', Bool.not_eq_false', Bool.and_eq_true, Bool.and_eq_false_iff, Int.not_lt, Int.not_le, ne_eq, not_false_eq_true, not_true_eq_false, reduceCtorEq, Bool.true_eq_false, Bool.false_eq_true, beq_iff_eq, bne_iff_ne, beq_eq_false_iff_ne, false_or, or_false, true_and, and_true, h1, a1, hvv, ints_length] at hx; first | (exfalso; omega) | skip) | skip)
        | trivial
        | exact fit_ofL _ _
        | (simp (disch := omega) only [notAgg_v, notAgg_sl, plain_v, fits, fitsOne, fitsCells, xsOf, cell_zero, cell_succ, List.range, List.range.loop, List.map, cond_true, cond_false, D.v.injEq, exists_eq', exists_eq, and_self, and_true, true_and, D.agg.injEq, List.length, exists_eq_left', D.sl.injEq, reduceCtorEq, false_or, true_or, or_true, or_false, cell_zero, cell_succ, cell_v, cells_v, cells_agg, List.length_cons, List.length_nil, h1, a1, hvv, ints_length]; done))
      all_goals first
        | (exfalso; omega)
        | exact fit_ofL _ _
        | omega
        | (simp only [leftG]; omega)
        | (rw [happ, ht]; rfl)
        | (rw [h1]; simp only [cells_v, List.length_cons, List.length_nil]; omega)
        | (rw [a1]; simp only [cells_v, List.length_cons, List.length_nil]; omega)
        | (rw [(w1 (by omega)).2]; simp only [cells_v, List.length_cons, List.length_nil]; omega)
        | (simp only [ints_length, List.length_append, List.length_cons, List.length_nil]; omega)
        | (simp; done)
        | fail
    · have hln := List.length_pos_iff.2 hm0
      have hc0 := getD_ok hmo 0
      have hcl := getD_ok hmo ((mF zs).length - 1)
      have hcut := hcut hm0
      have hJ : ∃ R, (mF zs).flatMap encV = encV ((mF zs).getD 0 0) ++ R := flat_first hm0
      have hJb := flat_bytes (mF zs)
      have b1 : D.inb 1 (ofL 1 (ints .i64 (mF zs))) (.v (.int .i64 (((mF zs).length : Nat) - 1))) := (isL_ofL 1 (ints .i64 (mF zs))).inb (by omega) (by rw [ints_length]; omega)
      have b2 : (ofL 1 (ints .i64 (mF zs))).at_ (.v (.int .i64 (((mF zs).length : Nat) - 1))) = .v (.int .i64 ((mF zs).getD ((mF zs).length - 1) 0)) := by
        rw [show (((mF zs).length : Nat) : Int) - 1 = (((mF zs).length - 1 : Nat) : Int) by omega]
        exact at_ofL_ints _ _ (by omega)
      have c1 : D.inb 1 (ofL 1 (ints .i64 (mF zs))) (.v (.int .i64 0)) := (isL_ofL 1 (ints .i64 (mF zs))).inb (by omega) (by rw [ints_length]; omega)
      have c2 : (ofL 1 (ints .i64 (mF zs))).at_ (.v (.int .i64 0)) = .v (.int .i64 ((mF zs).getD 0 0)) := at_ofL_ints .i64 .i64 (zs := mF zs) (n := 0) hln
      have Z1 : PureD Try.prog 12 [((ofL 1 (ints .i64 (mF zs))).at_ (.v (.int .i64 (((mF zs).length : Nat) - 1)))).cell 0] [.v (.int .i64 (szF ((mF zs).getD ((mF zs).length - 1) 0)))] := by rw [b2]; exact size ((mF zs).getD ((mF zs).length - 1) 0)
      have Z2 : PureD Try.prog 12 [((ofL 1 (ints .i64 (mF zs))).at_ (.v (.int .i64 0))).cell 0] [.v (.int .i64 (szF ((mF zs).getD 0 0)))] := by rw [c2]; exact size ((mF zs).getD 0 0)
      generalize (mF zs).getD ((mF zs).length - 1) 0 = ml at hcl hcut b2 Z1
      generalize (mF zs).getD 0 0 = m0 at hc0 hJ c2 Z2
      obtain ⟨hz1, hz2⟩ := encV_length hc0
      have hz8 := encV_len m0
      have P := put m0
      rw [join_ok (m := [m0]) (by intro n hn; simp at hn; subst hn; exact hc0)] at P
      simp only [List.flatMap_cons, List.flatMap_nil, List.append_nil] at P
      obtain ⟨R, hJ⟩ := hJ
      have hJl : 1 ≤ ((mF zs).flatMap encV).length := by rw [hJ, List.length_append]; omega
      have hk : (mF zs).flatMap encV = encV m0 ++ R := hJ
      have hjt : ((mF zs).flatMap encV).take (szF m0).toNat = encV m0 := by rw [hJ, ← hz1]; exact List.take_left
      have hgt : getF ((mF zs).flatMap encV ++ t) = (m0, szF m0, 0) := by rw [hJ, List.append_assoc]; exact getF_enc (ok_sz hc0) _
      have hkl : (szF m0).toNat ≤ ((mF zs).flatMap encV).length := by rw [hJ, List.length_append]; omega
      generalize (mF zs).flatMap encV = J at hfl C3 C4 hcut hJb hJl hjt hgt hkl hk
      have q1 := bin_sadd (a := J) (b := t) (by omega)
      have C6 := get (J ++ t) (hJb.append hT) (by rw [List.length_append]; omega)
      rw [hgt] at C6
      simp only at C6
      have hsz : 0 < szF m0 := by have := ok_sz hc0; omega
      obtain ⟨y, ey, hY⟩ := (isL_ofL 1 (ints .u8 J)).cut (dl := none) (dh := some (.v (.int .i64 ((J.length : Nat) - 1)))) (dm := none) (l := 0) (hh := (J.length : Nat) - 1) (m := (J.length : Nat)) rfl rfl (by rw [ints_length]; rfl) (by omega) (by omega) (by omega) (by rw [ints_length]; omega)
      obtain ⟨y2, ey2, hY2⟩ := (isL_ofL 1 (ints .u8 J)).cut (dl := none) (dh := some (.v (.int .i64 (szF m0)))) (dm := none) (l := 0) (hh := szF m0) (m := (J.length : Nat)) rfl rfl (by rw [ints_length]; rfl) (by omega) (by omega) (by omega) (by rw [ints_length]; omega)
      simp only [ints_drop, ints_take, Int.toNat_zero, List.drop_zero, Int.sub_zero] at hY hY2
      rw [show ((J.length : Int) - 1).toNat = J.length - 1 by omega] at hY
      rw [hjt] at hY2
      have C7 := all (J.take (J.length - 1)) (hJb.take _) (by rw [List.length_take]; omega)
      generalize A (J.take (J.length - 1)) = Q at C7 hcut
      obtain ⟨Q1, Q2⟩ := Q
      simp only at hcut
      have hQ : (Q2 = 3 ∧ szF ml ≠ 1) ∨ (Q2 = 0 ∧ szF ml = 1) := by by_cases h : szF ml = 1 <;> simp [h] at hcut <;> omega
      have t1 := toStr_is hY
      have t2 := toStr_is hY2
      have q2 := str_eq (enc_bytes m0) (enc_bytes m0) rfl
      repeat' (first
        | (refine ex_some (by simp (disch := omega) only [bin_shr, bin_shl, bin_and, bin_or, bin_xor, len_str, toStr_ofL, bin_add, bin_sub, bin_mul, bin_quo, bin_rem, bin_lss, bin_leq, bin_gtr, bin_geq, bin_eql, bin_neq, eqs_cn, eqs_ci, eqs_cb, eqs_cs, Option.map_some, lenT_ofL, lst_ofL, lstSz_ofL, chunk_one, lst_nil, lst_sl, lstSz_sl, lstSz_nil, Bool.and_true, Bool.true_and, Bool.and_false, Bool.false_and, beq_self_eq_true, beq_bb, bne_bb, un_not, un_neg, conv_int, min2_int, max2_int, w64, w32, wu8, wu16, wu32, wu64, tdiv_nn, tmod_nn, cell_zero, cell_succ, cell_v, cells_v, cells_agg, Bool.not_true, Bool.not_false, Int.reduceLT, Int.reduceLE, Int.reduceEq, Int.reduceNeg, Int.reduceAdd, Int.reduceSub, Int.reduceMul, intOf_v, decide_true, decide_false, h1, a1, hvv, ints_length, b2, c2]; rfl) ?_)
        | (refine ex_bool ?_)
        | (exact notAgg_v _)
        | (refine ⟨(fun r => ∃ k : Nat, k ≤ zs.length ∧ r = [.v (.int .i64 (k : Nat)), ofL 1 (ints .i64 (mF (zs.take k)))]), leftG zs.length, ?_⟩)
        | (refine fun (r2 r3 : D) (hI : (fun r => ∃ k : Nat, k ≤ zs.length ∧ r = [.v (.int .i64 (k : Nat)), ofL 1 (ints .i64 (mF (zs.take k)))]) [r2, r3]) => ?_; obtain ⟨k, hk, hl0⟩ := hI; simp only [List.cons.injEq, and_true] at hl0; obtain ⟨rfl, rfl⟩ := hl0; by_cases hlt : k < zs.length <;> first | (have hk1 : k < zs.length := (by omega); have h1 := hX.at_ints hk1; have i1 := hX.inb_ints hk1; have z1 := hz (zs.getD k 0) (by simp [List.getD, hk1]); have ht := mF_take hk1; have hpl : (mF (zs.take k)).length = k := (by rw [mF_len, List.length_take]; omega); have hpo : OkL (mF (zs.take k)) := mF_ok; generalize zs.getD k 0 = z at h1 z1 ht; generalize hvv : z % 4611686018427387904 = v at ht; have hv : 0 ≤ v ∧ v ≤ 4611686018427387903 := (by omega); generalize mF (zs.take k) = p at ht hpl hpo; have happ : ((ofL 1 (ints .i64 p)).app 1 [.v (.int .i64 v)]) = ofL 1 (ints .i64 (p ++ [v])) := (by rw [app_ofL]; simp [ints]); have j1 : D.inb 1 ((ofL 1 (ints .i64 p)).app 1 [.v (.int .i64 v)]) (.v (.int .i64 (k : Nat))) := (by rw [happ]; exact inb_ofL_ints _ _ (by simp; omega)); have a1 : ((ofL 1 (ints .i64 p)).app 1 [.v (.int .i64 v)]).at_ (.v (.int .i64 (k : Nat))) = .v (.int .i64 v) := (by rw [happ, at_ofL_ints _ _ (by simp; omega)]; simp [List.getD, ← hpl]); have s1 : PureD Try.prog 12 [(((ofL 1 (ints .i64 p)).app 1 [.v (.int .i64 v)]).at_ (.v (.int .i64 (k : Nat)))).cell 0] _ := (by rw [a1]; exact size v); have hu := getD_ok hpo (k - 1); have w1 := two_at p v hpl; generalize p.getD (k - 1) 0 = u at w1 hu; have a2 : True := trivial; have hmm := sz_mono hu hv; have inl : True := trivial) | (have hkk : k = zs.length := (by omega); subst hkk; rw [List.take_length]; have h1 : True := trivial; have a1 : True := trivial; have a2 : True := trivial; have hvv : True := trivial; have inl2 : True := trivial))
        | (exact i1)
        | (exact j1)
        | (exact (w1 (by omega)).1)
        | (have := inl; refine ⟨k + 1, by omega, ?_⟩)
        | (refine ⟨0, Nat.zero_le _, ?_⟩)
        | (refine ⟨_, s1, ?_⟩)
        | (have s2 : PureD Try.prog 12 [(((ofL 1 (ints .i64 p)).app 1 [.v (.int .i64 v)]).at_ (.v (.int .i64 ((k : Nat) - 1)))).cell 0] _ := (by rw [(w1 (by omega)).2]; exact size u); refine ⟨_, s2, ?_⟩)
        | (have a3 := (w1 (by omega)).2; refine ex_some (by simp only [a1, a3, cell_v, bin_gtr]; rfl) ?_)
        | (refine ⟨_, _, C3, ?_⟩)
        | (refine ⟨_, _, C4, ?_⟩)
        | (refine ⟨_, M, ?_⟩)
        | (refine ⟨_, awake, ?_⟩)
        | (refine ex_some q1 ?_)
        | (refine ⟨_, _, _, C6, ?_⟩)
        | (refine ⟨_, ey, ?_⟩)
        | (refine ⟨_, ey2, ?_⟩)
        | (refine ex_some t1 ?_)
        | (refine ex_some t2 ?_)
        | (refine ⟨_, _, C7, ?_⟩)
        | (refine ⟨_, _, P, ?_⟩)
        | (exact b1)
        | (exact c1)
        | (refine ⟨_, Z1, ?_⟩)
        | (refine ⟨_, Z2, ?_⟩)
        | (refine ex_some q2 ?_)
        | (refine And.intro ?_ ?_)
        | (intro hx; first | (cases hx; done) | (exfalso; revert hx; simp (disch := omega) only [decide_eq_true_eq, decide_eq_false_iff_not, Bool.not_eq_true', Bool.not_eq_false', Bool.and_eq_true, Bool.and_eq_false_iff, Int.not_lt, Int.not_le, ne_eq, not_false_eq_true, not_true_eq_false, reduceCtorEq, Bool.true_eq_false, Bool.false_eq_true, beq_iff_eq, bne_iff_ne, beq_eq_false_iff_ne, false_or, or_false, true_and, and_true, h1, a1, hvv, ints_length, b2, c2]; done) | (simp (disch := omega) only [decide_eq_true_eq, decide_eq_false_iff_not, Bool.not_eq_true', Bool.not_eq_false', Bool.and_eq_true, Bool.and_eq_false_iff, Int.not_lt, Int.not_le, ne_eq, not_false_eq_true, not_true_eq_false, reduceCtorEq, Bool.true_eq_false, Bool.false_eq_true, beq_iff_eq, bne_iff_ne, beq_eq_false_iff_ne, false_or, or_false, true_and, and_true, h1, a1, hvv, ints_length, b2, c2] at hx; first | (exfalso; omega) | skip) | skip)
        | trivial
        | exact fit_ofL _ _
        | (simp (disch := omega) only [notAgg_v, notAgg_sl, plain_v, fits, fitsOne, fitsCells, xsOf, cell_zero, cell_succ, List.range, List.range.loop, List.map, cond_true, cond_false, D.v.injEq, exists_eq', exists_eq, and_self, and_true, true_and, D.agg.injEq, List.length, exists_eq_left', D.sl.injEq, reduceCtorEq, false_or, true_or, or_true, or_false, cell_zero, cell_succ, cell_v, cells_v, cells_agg, List.length_cons, List.length_nil, h1, a1, hvv, ints_length, b2, c2]; done))
      all_goals first
        | (exfalso; omega)
        | exact fit_ofL _ _
        | omega
        | (simp only [leftG]; omega)
        | (rw [happ, ht]; rfl)
        | (rw [h1]; simp only [cells_v, List.length_cons, List.length_nil]; omega)
        | (rw [a1]; simp only [cells_v, List.length_cons, List.length_nil]; omega)
        | (rw [(w1 (by omega)).2]; simp only [cells_v, List.length_cons, List.length_nil]; omega)
        | (simp only [ints_length, List.length_append, List.length_cons, List.length_nil]; omega)
        | (rw [b2]; simp only [cells_v, List.length_cons, List.length_nil]; omega)
        | (rw [c2]; simp only [cells_v, List.length_cons, List.length_nil]; omega)
        | (simp; done)
        | (simp; omega)
        | (exfalso; simp only [decide_eq_decide] at *; omega)
        | fail

end Go.Proofs.Ytojbpgkjenghaaa