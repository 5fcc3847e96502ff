/-
  Layer 12: what the reference puts.
-/
import Derived.Test.YtjdemohgegldaaaT1
import Derived.Test.YtjdemohgegldaaaT2
import Derived.Test.YtjdemohgegldaaaT3
import Derived.Test.YtjdemohgegldaaaT4
import Derived.Test.YtjdemohgegldaaaT6
import Derived.Test.YtjdemohgegldaaaT7
import Derived.Test.YtjdemohgegldaaaT8
import Derived.Test.YtjdemohgegldaaaT10
import Derived.Test.YtjdemohgegldaaaT11
import Derived.Test.YtjdemohgegldaaaT13
import Derived.Test.YtjdemohgegldaaaT15
import Derived.Test.YtjdemohgegldaaaT16
import Derived.Test.YtjdemohgegldaaaT17
namespace Go.Proofs.Ytjdemohgegldaaa
open Go.RowKit
set_option linter.unusedSimpArgs false
set_option linter.unusedVariables false


def BytesL (ps : List Pt) : Prop := ∀ p ∈ ps, Bytes p.2
theorem W_len {lim : Int} : ∀ {l : List Pt} {b : Int}, W lim b l → (l.length : Int) + b ≤ max b lim
  | [], b, _ => by simp; omega
  | p :: l, b, h => by
    have h1 := W_len h.2.2.2
    have h2 := h.2.1
    have h3 := h.2.2.1
    have h4 := ne_len.1 h.1
    simp only [endP] at *
    simp only [List.length_cons]
    omega
theorem SS.Ok.len {S : SS} (h : S.Ok) : S.ps.length ≤ 4096 := by
  have h1 := W_len h.w
  have h2 := h.b
  have h3 : S.lim ≤ S.b + 4096 := by simp only [SS.lim, limF]; omega
  omega
theorem SS.Ok.all {S : SS} (h : S.Ok) (hb : BytesL S.ps) : AllB S.ps := by
  intro p hp
  refine ⟨hb p hp, ?_⟩
  obtain ⟨k, hk, rfl⟩ := List.mem_iff_getElem.1 hp
  have h1 := W_at h.w hk
  simp only [List.getD_eq_getElem?_getD, List.getElem?_eq_getElem hk, Option.getD_some, endP] at h1
  have h3 : S.lim ≤ S.b + 4096 := by simp only [SS.lim, limF]; omega
  omega
theorem bytes_add {out : List Pt} {p : Pt} (h : BytesL out) (hp : Bytes p.2) : BytesL (addP out p) := by
  unfold addP
  split
  · rename_i hc
    intro q hq
    rcases List.mem_or_eq_of_mem_set hq with hq | rfl
    · exact h q hq
    · have : out.getD (out.length - 1) (0, []) ∈ out := by simp [List.getD, show out.length - 1 < out.length by omega]
      exact Bytes.append (h _ this) hp
  · intro q hq
    rcases List.mem_append.1 hq with hq | hq
    · exact h q hq
    · simp at hq; subst hq; exact hp
theorem bytes_fold : ∀ {l out : List Pt}, BytesL out → BytesL l → BytesL (l.foldl addP out)
  | [], _, h, _ => h
  | p :: l, out, h, hl => bytes_fold (l := l) (bytes_add h (hl p (by simp))) fun q hq => hl q (by simp [hq])
theorem bytes_ins {ps : List Pt} {v : Int} {c : List Int} (h : BytesL ps) (hc : Bytes c) : BytesL (insF ps v c) := by
  refine bytes_fold (fun _ h => by cases h) ?_
  intro q hq
  rcases List.mem_append.1 hq with hq | hq
  · exact h q (List.mem_of_mem_take hq)
  · rcases List.mem_cons.1 hq with rfl | hq
    · exact hc
    · exact h q (List.mem_of_mem_drop hq)
theorem bytes_settle {b : Int} {r : List Int} {ps : List Pt} (h : BytesL ps) (hr : Bytes r) : BytesL (settleF b r ps).ps ∧ Bytes (settleF b r ps).r := by
  cases ps with
  | nil => exact ⟨h, hr⟩
  | cons q t =>
    by_cases hc : q.1 = b
    · have e : settleF b r (q :: t) = ⟨endP q, r ++ q.2, t⟩ := if_pos hc
      rw [e]; exact ⟨fun p hp => h p (by simp [show p ∈ t from hp]), Bytes.append hr (h q (by simp))⟩
    · have e : settleF b r (q :: t) = ⟨b, r, q :: t⟩ := if_neg hc
      rw [e]; exact ⟨h, hr⟩
theorem bytes_one {S : SS} {v : Int} {c : List Int} (h : BytesL S.ps) (hr : Bytes S.r) (hc : Bytes c) : BytesL (oneF S v c).1.ps ∧ Bytes (oneF S v c).1.r := by
  unfold oneF
  split
  · exact ⟨h, hr⟩
  · split
    · exact ⟨bytes_ins h hc, hr⟩
    · exact bytes_settle h (Bytes.append hr hc)
def cutD (x : D) : D := (D.cutL 2 x (some (.v (.int .i64 1))) none none).getD x
def oneY (S : SS) (x : D) (v : Int) (c : List Int) : D :=
  if v < S.b ∨ S.lim ≤ v ∨ haveF S.ps v = true then x
  else if S.b < v then ofL 2 ((insF S.ps v c).map ptD)
  else match S.ps with | [] => x | q :: _ => if q.1 = S.b + 1 then cutD x else x
theorem one_c {S : SS} {x : D} {v c : Int} (hX : IsL 2 (S.ps.map ptD) x) (hB : BytesL S.ps) (ho : S.Ok) (v0 : 0 ≤ v) (v1 : v ≤ 1099511727776) :
    IsL 2 ((oneF S v [c]).1.ps.map ptD) (oneY S x v [c]) ∧ ReadD Try.prog 44 [.agg [.v (.int .i64 S.b), str S.r, x], .v (.int .i64 v), str [c]] [.agg [.v (.int .i64 (oneF S v [c]).1.b), str (oneF S v [c]).1.r, oneY S x v [c]], .v (.bool (oneF S v [c]).2)] := by
  have hP := ho.all hB
  have hm : S.ps.length ≤ 90000 := by have := ho.len; omega
  obtain ⟨b, r, ps⟩ := S
  unfold oneF oneY
  have el : (SS.mk b r ps).lim = limF b r.length := rfl
  simp only [el]
  by_cases hc : v < b ∨ limF b r.length ≤ v ∨ haveF ps v = true
  · rw [if_pos hc, if_pos hc]
    exact ⟨hX, one_no x ps b r v c b r x false hX hP hm ho v0 v1 hc rfl rfl rfl rfl⟩
  · rw [if_neg hc, if_neg hc]
    have h3 : haveF ps v = false := by cases hh : haveF ps v with | false => rfl | true => exact absurd (.inr (.inr hh)) hc
    by_cases hd : b < v
    · rw [if_pos hd, if_pos hd]
      exact ⟨isL_ofL _ _, one_in x ps b r v c b r _ true hX hP hm ho v0 v1 (by omega) (by omega) h3 hd rfl rfl rfl rfl⟩
    · rw [if_neg hd, if_neg hd]
      have hvb : v = b := by omega
      cases hps : ps with
      | nil =>
        subst hps
        exact ⟨hX, one_b0 x [] b r v c (b + 1) (r ++ [c]) x true hX hP hm ho v0 v1 (by omega) (by omega) h3 hvb rfl rfl rfl rfl rfl⟩
      | cons q t =>
        subst hps
        by_cases hq : q.1 = b + 1
        · have e : settleF (b + 1) (r ++ [c]) (q :: t) = ⟨endP q, r ++ [c] ++ q.2, t⟩ := if_pos hq
          obtain ⟨y, eC, hC⟩ := cut1 hX (by simp)
          have ey : cutD x = y := by unfold cutD; rw [eC]; rfl
          simp only [e, if_pos hq, ey]
          have e2 : endP q = b + 1 + q.2.length := by rw [← hq]; rfl
          rw [e2]
          exact ⟨hC, one_b2 x (q :: t) b r v c _ _ y true hX hP hm ho v0 v1 (by omega) (by omega) h3 hvb (by simp) hq rfl rfl eC hC rfl⟩
        · have e : settleF (b + 1) (r ++ [c]) (q :: t) = ⟨b + 1, r ++ [c], q :: t⟩ := if_neg hq
          simp only [e, if_neg hq]
          exact ⟨hX, one_b1 x (q :: t) b r v c _ _ x true hX hP hm ho v0 v1 (by omega) (by omega) h3 hvb (by simp) hq rfl rfl rfl rfl⟩
def runY : SS → D → Int → List Int → D
  | _, x, _, [] => x
  | S, x, v, c :: s => runY (oneF S v [c]).1 (oneY S x v [c]) (v + 1) s
structure RInv (S0 : SS) (x0 : D) (v : Int) (s : List Int) (i : Nat) (S : SS) (y : D) (n : Nat) : Prop where
  ii : i ≤ s.length
  ok : S.Ok
  by' : BytesL S.ps
  br : Bytes S.r
  y' : IsL 2 (S.ps.map ptD) y
  rs : (runO S (v + i) (s.drop i)).1 = (runO S0 v s).1
  rn : n + (runO S (v + i) (s.drop i)).2 = (runO S0 v s).2
  ry : runY S y (v + i) (s.drop i) = runY S0 x0 v s
theorem RInv.step {S0 : SS} {x0 : D} {v : Int} {s : List Int} {i : Nat} {S : SS} {y : D} {n : Nat} (h : RInv S0 x0 v s i S y n) (hi : i < s.length) (hs : Bytes s) (v0 : 0 ≤ v) (v1 : v + s.length ≤ 1099511727776) :
    RInv S0 x0 v s (i + 1) (oneF S (v + i) [s.getD i 0]).1 (oneY S y (v + i) [s.getD i 0]) (n + if (oneF S (v + i) [s.getD i 0]).2 then 1 else 0) := by
  have hd := drop_at (d := (0 : Int)) hi
  have h1 := h.rs
  have h2 := h.rn
  have h3 := h.ry
  rw [hd] at h1 h2 h3
  simp only [runO, runY] at h1 h2 h3
  have e : v + (i : Int) + 1 = v + ((i + 1 : Nat) : Int) := by omega
  rw [e] at h1 h2 h3
  have hc : Bytes [s.getD i 0] := fun z hz => by simp at hz; subst hz; simpa using Bytes.getD hs i
  have hb := bytes_one (v := v + i) h.by' h.br hc
  exact ⟨hi, (one_ok h.ok _ _).1.ok, hb.1, hb.2, (one_c h.y' h.by' h.ok (by omega) (by omega)).1, h1, by omega, h3⟩
theorem runY_is : ∀ {s : List Int} {S : SS} {x : D} {v : Int}, S.Ok → BytesL S.ps → Bytes S.r → Bytes s → IsL 2 (S.ps.map ptD) x → 0 ≤ v → v + s.length ≤ 1099511727776 → IsL 2 ((runO S v s).1.ps.map ptD) (runY S x v s)
  | [], _, _, _, _, _, _, _, h, _, _ => h
  | c :: s, S, x, v, ho, hb, hr, hs, h, v0, v1 => by
    simp only [runO, runY]
    simp only [List.length_cons] at v1
    have hbo := bytes_one (v := v) (c := [c]) hb hr (fun z hz => by simp at hz; subst hz; exact hs z (by simp))
    exact runY_is (one_ok ho v c).1.ok hbo.1 hbo.2 (fun z hz => hs z (by simp [hz])) (one_c h hb ho v0 (by omega)).1 (by omega) (by omega)
theorem run_len : ∀ (s : List Int) (S : SS) (v : Int), (runO S v s).2 ≤ s.length
  | [], _, _ => Nat.le_refl _
  | c :: s, S, v => by
    have h := run_len s (oneF S v [c]).1 (v + 1)
    simp only [runO, List.length_cons]
    split <;> omega
theorem cutS_at (s : List Int) {i : Nat} (h : i < s.length) : D.cutS (str s) (some (.v (.int .i64 (i : Nat)))) (some (.v (.int .i64 ((i : Nat) + 1)))) = some (str [s.getD i 0]) := by
  rw [cutS_str s (a := (i : Nat)) (b := (i : Nat) + 1) rfl rfl (by omega) (by omega) (by omega)]
  rw [show ((i : Int) + 1).toNat - (i : Int).toNat = 1 by omega, Int.toNat_natCast, drop_at (d := (0 : Int)) h]; rfl

theorem vc_rput_no (x : D) (ps : List Pt) (b : Int) (r s : List Int) (v b2 n2 : Int) (r2 : List Int) (y : D) : CondR Try.prog (fun k => if k = 5 then some ⟨[8, 9], [], [1, 2, 3, 6], [(3, [0, 1, 2], [])]⟩ else none) Try.f27 [.agg [.v (.int .i64 b), str r, x], .v (.int .i64 v), str s] [.agg [.v (.int .i64 b2), str r2, y], .v (.int .i64 n2)] = (((∃ (cs : List D), D.agg [D.v (Value.int IntKind.i64 b), str r, x] = D.agg cs ∧ cs.length = 3) ∧ NotAgg (D.v (Value.int IntKind.i64 v)) ∧ NotAgg (str s) ∧ True) ∧ ∃ (r_1 : D), PureD Try.prog 31 [D.agg [D.v (Value.int IntKind.i64 b), str r, x]] [r_1] ∧ fits [(false, [none])] [r_1] ∧ ∃ (r_2 : D), D.bin BinOp.neq r_1 (D.v (Value.int IntKind.i64 0)) = some r_2 ∧ ∃ (b_1 : Bool), r_2 = D.v (Value.bool b_1) ∧ (b_1 = false → ∃ (r_3 : D), D.bin BinOp.lss (D.v (Value.int IntKind.i64 v)) (D.v (Value.int IntKind.i64 0)) = some r_3 ∧ ∃ (b_2 : Bool), r_3 = D.v (Value.bool b_2) ∧ (b_2 = false → ∃ (r_4 : D), D.bin BinOp.gtr (D.v (Value.int IntKind.i64 v)) (D.v (Value.int IntKind.i64 1099511627776)) = some r_4 ∧ ∃ (b_3 : Bool), r_4 = D.v (Value.bool b_3) ∧ (b_3 = true → [D.agg [D.v (Value.int IntKind.i64 b), str r, x], D.v (Value.int IntKind.i64 0)] = [D.agg [D.v (Value.int IntKind.i64 b2), str r2, y], D.v (Value.int IntKind.i64 n2)]) ∧ (b_3 = false → ∃ (I : List D → Prop), ∃ (μ : List D → Nat), ((D.v (Value.int IntKind.i64 0) = D.v (Value.int IntKind.i64 0) ∧ D.v (Value.int IntKind.i64 0) = D.v (Value.int IntKind.i64 0) ∧ D.v (Value.int IntKind.i64 v) = D.v (Value.int IntKind.i64 v) ∧ str s = str s ∧ (true = true ∧ true = true) ∧ (true = true ∧ true = true) ∧ True) ∧ ((D.v (Value.int IntKind.i64 b) = D.v (Value.int IntKind.i64 b) ∧ str r = str r ∧ x = x ∧ True) ∧ (D.v (Value.int IntKind.i64 0) = D.v (Value.int IntKind.i64 0) ∧ D.v (Value.string { data := { toList := [] } }) = D.v (Value.string { data := { toList := [] } }) ∧ true = true ∧ True) ∧ (true = true ∧ D.v (Value.slice none 0 0) = D.v (Value.slice none 0 0)) ∧ True) ∧ I [D.v (Value.int IntKind.i64 0), D.v (Value.int IntKind.i64 0), D.v (Value.int IntKind.i64 b), str r, x]) ∧ ∀ (r r_5 r_6 r_7 r_8 : D), I [r, r_5, r_6, r_7, r_8] → ∃ (r_9 : D), D.lenT TypeDesc.string (str s) = some r_9 ∧ ∃ (r_10 : D), D.bin BinOp.lss r_5 r_9 = some r_10 ∧ ∃ (b : Bool), r_10 = D.v (Value.bool b) ∧ (b = true → ∃ (r_11 : D), D.bin BinOp.add (D.v (Value.int IntKind.i64 v)) r_5 = some r_11 ∧ ∃ (r_12 : D), D.bin BinOp.add r_5 (D.v (Value.int IntKind.i64 1)) = some r_12 ∧ ∃ (r_13 : D), (str s).cutS (some r_5) (some r_12) = some r_13 ∧ ∃ (r_14 : D), ∃ (r_15 : D), ReadD Try.prog 44 [D.agg [r_6, r_7, r_8], r_11, r_13] [r_14, r_15] ∧ ((∃ (cs : List D), r_14 = D.agg cs ∧ cs.length = [none, none, some 2].length) ∧ NotAgg r_15 ∧ True) ∧ ∃ (b : Bool), r_15 = D.v (Value.bool b) ∧ (b = true → ∃ (r_16 : D), D.bin BinOp.add r (D.v (Value.int IntKind.i64 1)) = some r_16 ∧ ∃ (r_17 : D), D.bin BinOp.add r_5 (D.v (Value.int IntKind.i64 1)) = some r_17 ∧ (r_16 = r_16 ∧ r_17 = r_17 ∧ D.v (Value.int IntKind.i64 v) = D.v (Value.int IntKind.i64 v) ∧ str s = str s ∧ (true = true ∧ true = true) ∧ (true = true ∧ true = true) ∧ True) ∧ ((r_14.cell 0 = r_14.cell 0 ∧ r_14.cell 1 = r_14.cell 1 ∧ r_14.cell 2 = r_14.cell 2 ∧ True) ∧ (D.v (Value.int IntKind.i64 0) = D.v (Value.int IntKind.i64 0) ∧ D.v (Value.string { data := { toList := [] } }) = D.v (Value.string { data := { toList := [] } }) ∧ true = true ∧ True) ∧ (true = true ∧ D.v (Value.slice none 0 0) = D.v (Value.slice none 0 0)) ∧ True) ∧ I [r_16, r_17, r_14.cell 0, r_14.cell 1, r_14.cell 2] ∧ μ [r_16, r_17, r_14.cell 0, r_14.cell 1, r_14.cell 2] < μ [r, r_5, r_6, r_7, r_8]) ∧ (b = false → ∃ (r_16 : D), D.bin BinOp.add r_5 (D.v (Value.int IntKind.i64 1)) = some r_16 ∧ (r = r ∧ r_16 = r_16 ∧ D.v (Value.int IntKind.i64 v) = D.v (Value.int IntKind.i64 v) ∧ str s = str s ∧ (true = true ∧ true = true) ∧ (true = true ∧ true = true) ∧ True) ∧ ((r_14.cell 0 = r_14.cell 0 ∧ r_14.cell 1 = r_14.cell 1 ∧ r_14.cell 2 = r_14.cell 2 ∧ True) ∧ (D.v (Value.int IntKind.i64 0) = D.v (Value.int IntKind.i64 0) ∧ D.v (Value.string { data := { toList := [] } }) = D.v (Value.string { data := { toList := [] } }) ∧ true = true ∧ True) ∧ (true = true ∧ D.v (Value.slice none 0 0) = D.v (Value.slice none 0 0)) ∧ True) ∧ I [r, r_16, r_14.cell 0, r_14.cell 1, r_14.cell 2] ∧ μ [r, r_16, r_14.cell 0, r_14.cell 1, r_14.cell 2] < μ [r, r_5, r_6, r_7, r_8])) ∧ (b = false → [D.agg [r_6, r_7, r_8], r] = [D.agg [D.v (Value.int IntKind.i64 b2), str r2, y], D.v (Value.int IntKind.i64 n2)]))) ∧ (b_2 = true → [D.agg [D.v (Value.int IntKind.i64 b), str r, x], D.v (Value.int IntKind.i64 0)] = [D.agg [D.v (Value.int IntKind.i64 b2), str r2, y], D.v (Value.int IntKind.i64 n2)])) ∧ (b_1 = true → [D.agg [D.v (Value.int IntKind.i64 b), str r, x], D.v (Value.int IntKind.i64 0)] = [D.agg [D.v (Value.int IntKind.i64 b2), str r2, y], D.v (Value.int IntKind.i64 n2)])) := by kernel_rfl
set_option maxHeartbeats 4000000 in
theorem rput_no (x : D) (ps : List Pt) (b : Int) (r s : List Int) (v b2 n2 : Int) (r2 : List Int) (y : D) (hX : IsL 2 (ps.map ptD) x) (hP : AllB ps) (hm : ps.length ≤ 100000) (hr : r.length ≤ 100000) (hc : ¬ ((SS.mk b r ps).Ok ∧ 0 ≤ v ∧ v ≤ 1099511627776)) (e1 : b = b2) (e2 : r = r2) (e3 : x = y) (e4 : n2 = 0) : ReadD Try.prog 27 [.agg [.v (.int .i64 b), str r, x], .v (.int .i64 v), str s] [.agg [.v (.int .i64 b2), str r2, y], .v (.int .i64 n2)] := by
  refine read_cond (Lp := (fun k => if k = 5 then some ⟨[8, 9], [], [1, 2, 3, 6], [(3, [0, 1, 2], [])]⟩ else none)) (by kernel_rfl) Try.func27 (by kernel_rfl) (by kernel_rfl) ?_
  rw [vc_rput_no x ps b r s v b2 n2 r2 y]
  subst e1; subst e2; subst e3; subst e4
  have CK := rcheck x ps b r hX hP hm hr
  by_cases ho : (SS.mk b r ps).Ok
  · have hz : chkF b r.length ps = 0 := chk_ok.2 ho
    rw [hz] at CK
    have hh : ¬ (0 ≤ v ∧ v ≤ 1099511627776) := fun h => hc ⟨ho, h⟩
    clear hc
    repeat' (first
      | (refine ex_some (by simp (disch := omega) only [bin_shr, bin_shl, bin_and, bin_or, bin_xor, len_str, toStr_ofL, bin_add, bin_sub, bin_mul, bin_quo, bin_rem, bin_lss, bin_leq, bin_gtr, bin_geq, bin_eql, bin_neq, eqs_cn, eqs_ci, eqs_cb, eqs_cs, Option.map_some, lenT_ofL, lst_ofL, lstSz_ofL, chunk_one, lst_nil, lst_sl, lstSz_sl, lstSz_nil, Bool.and_true, Bool.true_and, Bool.and_false, Bool.false_and, beq_self_eq_true, beq_bb, bne_bb, un_not, un_neg, conv_int, min2_int, max2_int, w64, w32, wu8, wu16, wu32, wu64, tdiv_nn, tmod_nn, cell_zero, cell_succ, cell_v, cells_v, cells_agg, Bool.not_true, Bool.not_false, Int.reduceLT, Int.reduceLE, Int.reduceEq, Int.reduceNeg, Int.reduceAdd, Int.reduceSub, Int.reduceMul, intOf_v, decide_true, decide_false, hX.lenT]; rfl) ?_)
      | (refine ex_bool ?_)
      | (refine ⟨_, CK, ?_⟩)
      | (refine And.intro ?_ ?_)
      | (intro hx; have hprop := (show ∀ (p : Prop), p → True from fun _ _ => True.intro) _ hx; clear hprop; first | (cases hx; done) | (exfalso; revert hx; simp (disch := omega) only [decide_eq_true_eq, decide_eq_false_iff_not, Bool.not_eq_true', Bool.not_eq_false', Bool.and_eq_true, Bool.and_eq_false_iff, Int.not_lt, Int.not_le, ne_eq, not_false_eq_true, not_true_eq_false, reduceCtorEq, Bool.true_eq_false, Bool.false_eq_true, beq_iff_eq, bne_iff_ne, beq_eq_false_iff_ne, false_or, or_false, true_and, and_true, hX.lenT]; done) | (simp (disch := omega) only [decide_eq_true_eq, decide_eq_false_iff_not, Bool.not_eq_true', Bool.not_eq_false', Bool.and_eq_true, Bool.and_eq_false_iff, Int.not_lt, Int.not_le, ne_eq, not_false_eq_true, not_true_eq_false, reduceCtorEq, Bool.true_eq_false, Bool.false_eq_true, beq_iff_eq, bne_iff_ne, beq_eq_false_iff_ne, false_or, or_false, true_and, and_true, hX.lenT] at hx; first | (exfalso; omega) | skip) | skip)
      | trivial
      | exact fit_ofL _ _
      | (simp (disch := omega) only [notAgg_v, notAgg_sl, plain_v, fits, fitsOne, fitsCells, xsOf, cell_zero, cell_succ, List.range, List.range.loop, List.map, cond_true, cond_false, D.v.injEq, exists_eq', exists_eq, and_self, and_true, true_and, D.agg.injEq, List.length, exists_eq_left', D.sl.injEq, reduceCtorEq, false_or, true_or, or_true, or_false, cell_zero, cell_succ, cell_v, cells_v, cells_agg, List.length_cons, List.length_nil, hX.lenT]; done))
    all_goals first
      | (exfalso; omega)
      | omega
      | exact fitP hX
      | exact plainP hX
      | exact hX.notAgg
      | exact notAgg_v _
      | exact ⟨_, rfl⟩
      | rfl
      | assumption
      | (simp only [leftG]; omega)
      | (simp; done)
      | fail
  · have hz : chkF b r.length ps ≠ 0 := fun h => ho (chk_ok.1 h)
    repeat' (first
      | (refine ex_some (by simp (disch := omega) only [bin_shr, bin_shl, bin_and, bin_or, bin_xor, len_str, toStr_ofL, bin_add, bin_sub, bin_mul, bin_quo, bin_rem, bin_lss, bin_leq, bin_gtr, bin_geq, bin_eql, bin_neq, eqs_cn, eqs_ci, eqs_cb, eqs_cs, Option.map_some, lenT_ofL, lst_ofL, lstSz_ofL, chunk_one, lst_nil, lst_sl, lstSz_sl, lstSz_nil, Bool.and_true, Bool.true_and, Bool.and_false, Bool.false_and, beq_self_eq_true, beq_bb, bne_bb, un_not, un_neg, conv_int, min2_int, max2_int, w64, w32, wu8, wu16, wu32, wu64, tdiv_nn, tmod_nn, cell_zero, cell_succ, cell_v, cells_v, cells_agg, Bool.not_true, Bool.not_false, Int.reduceLT, Int.reduceLE, Int.reduceEq, Int.reduceNeg, Int.reduceAdd, Int.reduceSub, Int.reduceMul, intOf_v, decide_true, decide_false, hX.lenT]; rfl) ?_)
      | (refine ex_bool ?_)
      | (refine ⟨_, CK, ?_⟩)
      | (refine And.intro ?_ ?_)
      | (intro hx; have hprop := (show ∀ (p : Prop), p → True from fun _ _ => True.intro) _ hx; clear hprop; first | (cases hx; done) | (exfalso; revert hx; simp (disch := omega) only [decide_eq_true_eq, decide_eq_false_iff_not, Bool.not_eq_true', Bool.not_eq_false', Bool.and_eq_true, Bool.and_eq_false_iff, Int.not_lt, Int.not_le, ne_eq, not_false_eq_true, not_true_eq_false, reduceCtorEq, Bool.true_eq_false, Bool.false_eq_true, beq_iff_eq, bne_iff_ne, beq_eq_false_iff_ne, false_or, or_false, true_and, and_true, hX.lenT]; done) | (simp (disch := omega) only [decide_eq_true_eq, decide_eq_false_iff_not, Bool.not_eq_true', Bool.not_eq_false', Bool.and_eq_true, Bool.and_eq_false_iff, Int.not_lt, Int.not_le, ne_eq, not_false_eq_true, not_true_eq_false, reduceCtorEq, Bool.true_eq_false, Bool.false_eq_true, beq_iff_eq, bne_iff_ne, beq_eq_false_iff_ne, false_or, or_false, true_and, and_true, hX.lenT] at hx; first | (exfalso; omega) | skip) | skip)
      | trivial
      | exact fit_ofL _ _
      | (simp (disch := omega) only [notAgg_v, notAgg_sl, plain_v, fits, fitsOne, fitsCells, xsOf, cell_zero, cell_succ, List.range, List.range.loop, List.map, cond_true, cond_false, D.v.injEq, exists_eq', exists_eq, and_self, and_true, true_and, D.agg.injEq, List.length, exists_eq_left', D.sl.injEq, reduceCtorEq, false_or, true_or, or_true, or_false, cell_zero, cell_succ, cell_v, cells_v, cells_agg, List.length_cons, List.length_nil, hX.lenT]; done))
    all_goals first
      | (exfalso; omega)
      | omega
      | exact fitP hX
      | exact plainP hX
      | exact hX.notAgg
      | exact notAgg_v _
      | exact ⟨_, rfl⟩
      | rfl
      | assumption
      | (simp only [leftG]; omega)
      | (simp; done)
      | fail

set_option maxHeartbeats 8000000 in
theorem rput_yes (x : D) (ps : List Pt) (b : Int) (r s : List Int) (v b2 n2 : Int) (r2 : List Int) (y : D) (hX : IsL 2 (ps.map ptD) x) (hP : AllB ps) (hr : r.length ≤ 100000) (hrb : Bytes r) (hs : s.length ≤ 100000) (hbs : Bytes s) (ho : (SS.mk b r ps).Ok) (v0 : 0 ≤ v) (v1 : v ≤ 1099511627776) (e1 : b2 = (runO ⟨b, r, ps⟩ v s).1.b) (e2 : r2 = (runO ⟨b, r, ps⟩ v s).1.r) (e3 : y = runY ⟨b, r, ps⟩ x v s) (e4 : n2 = ((runO ⟨b, r, ps⟩ v s).2 : Nat)) : ReadD Try.prog 27 [.agg [.v (.int .i64 b), str r, x], .v (.int .i64 v), str s] [.agg [.v (.int .i64 b2), str r2, y], .v (.int .i64 n2)] := by
  refine read_cond (Lp := (fun k => if k = 5 then some ⟨[8, 9], [], [1, 2, 3, 6], [(3, [0, 1, 2], [])]⟩ else none)) (by kernel_rfl) Try.func27 (by kernel_rfl) (by kernel_rfl) ?_
  rw [vc_rput_no x ps b r s v b2 n2 r2 y]
  have hz : chkF b r.length ps = 0 := chk_ok.2 ho
  have hm : ps.length ≤ 4096 := ho.len
  have CK := rcheck x ps b r hX hP (by omega) hr
  rw [hz] at CK
  have hrun := run_len s ⟨b, r, ps⟩ v
  have hB : BytesL ps := fun p hp => (hP p hp).1
  subst e1; subst e2; subst e3; subst e4
  repeat' (first
    | (refine ex_some (by simp (disch := omega) only [bin_shr, bin_shl, bin_and, bin_or, bin_xor, len_str, toStr_ofL, bin_add, bin_sub, bin_mul, bin_quo, bin_rem, bin_lss, bin_leq, bin_gtr, bin_geq, bin_eql, bin_neq, eqs_cn, eqs_ci, eqs_cb, eqs_cs, Option.map_some, lenT_ofL, lst_ofL, lstSz_ofL, chunk_one, lst_nil, lst_sl, lstSz_sl, lstSz_nil, Bool.and_true, Bool.true_and, Bool.and_false, Bool.false_and, beq_self_eq_true, beq_bb, bne_bb, un_not, un_neg, conv_int, min2_int, max2_int, w64, w32, wu8, wu16, wu32, wu64, tdiv_nn, tmod_nn, cell_zero, cell_succ, cell_v, cells_v, cells_agg, Bool.not_true, Bool.not_false, Int.reduceLT, Int.reduceLE, Int.reduceEq, Int.reduceNeg, Int.reduceAdd, Int.reduceSub, Int.reduceMul, intOf_v, decide_true, decide_false, hX.lenT, List.length_map]; rfl) ?_)
    | (refine ex_bool ?_)
    | (refine ⟨_, CK, ?_⟩)
    | (refine ⟨_, i1, ?_⟩)
    | (refine ⟨_, _, ONE, ?_⟩)
    | (refine ⟨(fun l => ∃ (i n : Nat) (S : SS) (z : D), RInv ⟨b, r, ps⟩ x v s i S z n ∧ l = [.v (.int .i64 (n : Nat)), .v (.int .i64 (i : Nat)), .v (.int .i64 S.b), str S.r, z]), (fun l => match l with | _ :: .v (.int _ i) :: _ => s.length - i.toNat | _ => 0), ?_⟩)
    | (refine fun (r1 r2 r3 r4 r5 : D) (hI : (fun l => ∃ (i n : Nat) (S : SS) (z : D), RInv ⟨b, r, ps⟩ x v s i S z n ∧ l = [.v (.int .i64 (n : Nat)), .v (.int .i64 (i : Nat)), .v (.int .i64 S.b), str S.r, z]) [r1, r2, r3, r4, r5]) => ?_; obtain ⟨i, n, S, z, hI0, hl0⟩ := hI; simp only [List.cons.injEq, and_true] at hl0; obtain ⟨rfl, rfl, rfl, rfl, rfl⟩ := hl0; by_cases hlt : i < s.length <;> first | (have hk1 : i < s.length := (by omega); have i1 := cutS_at s hk1; obtain ⟨hY2, ONE⟩ := one_c (c := s.getD i 0) hI0.y' hI0.by' hI0.ok (by omega : 0 ≤ v + (i : Int)) (by omega); have hst := hI0.step hk1 hbs (by omega) (by omega); have hrl := hI0.rn; have hY := hI0.y'; have inl1 : True := trivial) | (have hkk : i = s.length := (by have := hI0.ii; omega); subst hkk; have q1 := hI0.rs; have q2 := hI0.rn; have q3 := hI0.ry; have hY := hI0.y'; rw [List.drop_length] at q1 q2 q3; simp only [runO, runY] at q1 q2 q3; subst q1; subst q3; rw [Nat.add_zero] at q2; rw [← q2]; have out1 : True := trivial))
    | (exact ⟨0, 0, ⟨b, r, ps⟩, x, ⟨Nat.zero_le _, ho, hB, hrb, hX, by simp, by simp, by simp⟩, rfl⟩)
    | (have := inl1; have hb : (oneF S (v + i) [s.getD i 0]).2 = true := (by assumption); rw [hb] at hst; exact ⟨i + 1, _, _, _, hst, rfl⟩)
    | (have := inl1; have hb : (oneF S (v + i) [s.getD i 0]).2 = false := (by assumption); rw [hb] at hst; exact ⟨i + 1, _, _, _, hst, rfl⟩)
    | (refine And.intro ?_ ?_)
    | (intro hx; have hprop := (show ∀ (p : Prop), p → True from fun _ _ => True.intro) _ hx; clear hprop; first | (cases hx; done) | (exfalso; revert hx; simp (disch := omega) only [decide_eq_true_eq, decide_eq_false_iff_not, Bool.not_eq_true', Bool.not_eq_false', Bool.and_eq_true, Bool.and_eq_false_iff, Int.not_lt, Int.not_le, ne_eq, not_false_eq_true, not_true_eq_false, reduceCtorEq, Bool.true_eq_false, Bool.false_eq_true, beq_iff_eq, bne_iff_ne, beq_eq_false_iff_ne, false_or, or_false, true_and, and_true, hX.lenT, List.length_map]; done) | (simp (disch := omega) only [decide_eq_true_eq, decide_eq_false_iff_not, Bool.not_eq_true', Bool.not_eq_false', Bool.and_eq_true, Bool.and_eq_false_iff, Int.not_lt, Int.not_le, ne_eq, not_false_eq_true, not_true_eq_false, reduceCtorEq, Bool.true_eq_false, Bool.false_eq_true, beq_iff_eq, bne_iff_ne, beq_eq_false_iff_ne, false_or, or_false, true_and, and_true, hX.lenT, List.length_map] at hx; first | (exfalso; omega) | skip) | skip)
    | trivial
    | exact fit_ofL _ _
    | (simp (disch := omega) only [notAgg_v, notAgg_sl, plain_v, fits, fitsOne, fitsCells, xsOf, cell_zero, cell_succ, List.range, List.range.loop, List.map, cond_true, cond_false, D.v.injEq, exists_eq', exists_eq, and_self, and_true, true_and, D.agg.injEq, List.length, exists_eq_left', D.sl.injEq, reduceCtorEq, false_or, true_or, or_true, or_false, cell_zero, cell_succ, cell_v, cells_v, cells_agg, List.length_cons, List.length_nil, hX.lenT, List.length_map]; done))
  all_goals first
    | (exfalso; omega)
    | omega
    | exact fitP hX
    | exact plainP hX
    | exact hX.notAgg
    | exact fitP hY
    | exact plainP hY
    | exact notAgg_v _
    | exact ⟨_, rfl⟩
    | rfl
    | assumption
    | (simp only [leftG]; omega)
    | (simp; done)
    | fail

end Go.Proofs.Ytjdemohgegldaaa