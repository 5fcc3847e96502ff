/-
  The small machine's operations on slices: len, append.
-/
import Derived.Test.YtjdemohgegldaaaAm5
namespace Go.Proofs.Ytjdemohgegldaaa
set_option linter.unusedSimpArgs false
set_option linter.unusedVariables false
open Go.RowKit

def i64 (n : Nat) : D := .v (.int .i64 (n : Nat))
def D.lst : D → Option (List D)
  | .v (.slice none 0 0) => some []
  | .sl _ es => some es
  | _ => none
def D.len : D → Option D
  | .v (.string s) => some (i64 s.size)
  | .v (.slice none 0 0) => some (i64 0)
  | .sl _ es => some (i64 es.length)
  | _ => none
/-- What a cell holds as data: itself, or the row that it names. -/
def C.toD (mem : Nat → Option Ob) : C → Option D
  | .d x => some x
  | .k v => some (.v v)
  | .row r => match mem r with | some (.row _ x) => some x | some (.imm x) => some x | _ => none
  | _ => none
def C.acc : C → List Nat
  | .row r => [r]
  | _ => []
theorem C.toD_congr {mem mem' : Nat → Option Ob} {c : C} (h : ∀ r ∈ c.acc, mem' r = mem r) : c.toD mem' = c.toD mem := by
  cases c <;> first | rfl | (simp only [C.toD]; rw [h _ (by simp [C.acc])])

/-- A slice as a source: its elements, cell by cell. -/
def Src (P : Program) (E : Env) (w : World) (sz : Nat) (v : Value) (lx : List D) : Prop :=
  (∀ e ∈ lx, e.cells.length = sz) ∧ Builtin.lenOf v = pure lx.length ∧ ∃ news : List Value, news.length = lx.length * sz ∧ All2 (Reads E.im w) news (flat lx) ∧
    ∀ w'', w''.heap = w.heap → (Builtin.firstCells sz lx.length v).run P w'' = .ok news.toArray w''
theorem All2.mk {α β : Type} {R : α → β → Prop} : ∀ {xs : List α} {ys : List β}, xs.length = ys.length → (∀ (k : Nat) a b, xs[k]? = some a → ys[k]? = some b → R a b) → All2 R xs ys
  | [], [], _, _ => trivial
  | a :: xs, b :: ys, hl, h => ⟨h 0 a b rfl rfl, All2.mk (by simpa using hl) fun k x y hx hy => h (k + 1) x y (by simpa using hx) (by simpa using hy)⟩
  | [], b :: ys, hl, _ => by simp at hl
  | a :: xs, [], hl, _ => by simp at hl
theorem src_dat {P : Program} {E : Env} {w : World} {sz : Nat} {v : Value} {x : D} {lx : List D} (hr : Reads E.im w v x) (hx : x = .sl sz lx ∨ (x = .v nilS ∧ lx = [])) : Src P E w sz v lx := by
  rcases hx with rfl | ⟨rfl, rfl⟩
  · cases hr with
    | @sl b o n c _ q _ us hs hb hn hc hm hw hl hr =>
      refine ⟨hw, by rw [hn]; rfl, (List.range (lx.length * sz)).map us, by simp, ?_, fun w'' hw'' => ?_⟩
      · refine All2.mk (by simp [flat_get hw]) fun k u d hu hd => ?_
        have hk : k < lx.length * sz := by have := (List.getElem?_eq_some_iff.1 hu).1; simpa using this
        have : us k = u := by simpa [hk] using hu
        rw [← this]; exact hr k d hd
      · refine run_firstCells_some (P := P) w'' sz lx.length ⟨b, o, q⟩ _ _ _ (by simp) (fun j u hj => ?_)
        have hk : j < lx.length * sz := by have := (List.getElem?_eq_some_iff.1 hj).1; simpa using this
        obtain rfl := hs (by rintro rfl; simp at hk)
        have e : us j = u := by simpa [hk] using hj
        obtain ⟨d, hd⟩ : ∃ d, (flat lx)[j]? = some d := ⟨_, List.getElem?_eq_getElem (by rw [flat_get hw]; exact hk)⟩
        have := hl j d hd
        rw [addr_add, ← e, ← this]
        simp [World.cell?, hw'']
  · cases hr with
    | v h => exact ⟨by simp, rfl, [], by simp, trivial, fun w'' _ => by simp [nilS, Builtin.firstCells]⟩
theorem src_row {P : Program} {E : Env} {w : World} {sz : Nat} {v : Value} {x : D} {lx : List D} (hr : RowRep E w sz v x) (hx : x.lst = some lx) : Src P E w sz v lx := by
  rcases hr with ⟨rfl, rfl⟩ | ⟨es, rfl, hw, ⟨rfl, b, o, rfl, _⟩ | ⟨b, c, T, cur, rfl, k2, k3, k4, k5, k6, k7⟩⟩
  · simp only [nilS, D.lst, Option.some.injEq] at hx; subst hx
    exact ⟨by simp, rfl, [], by simp, trivial, fun w'' _ => by simp [nilS, Builtin.firstCells]⟩
  · simp only [D.lst, Option.some.injEq] at hx; subst hx
    refine ⟨by simp, rfl, [], by simp, trivial, fun w'' _ => ?_⟩
    exact run_firstCells_some (P := P) w'' sz 0 _ _ _ [] (by simp) (by simp)
  · simp only [D.lst, Option.some.injEq] at hx; subst hx
    refine ⟨hw, rfl, cur.toList.take (es.length * sz), ?_, k7, fun w'' hw'' => ?_⟩
    · have e1 : cur.toList.length = c * sz := by simpa using k6
      rw [List.length_take, e1]; exact Nat.min_eq_left (Nat.mul_le_mul_right _ k3)
    · refine run_firstCells_some (P := P) w'' sz es.length _ _ _ _ ?_ (fun j u hj => ?_)
      · have e1 : cur.toList.length = c * sz := by simpa using k6
        rw [List.length_take, e1]; exact Nat.min_eq_left (Nat.mul_le_mul_right _ k3)
      · rw [List.getElem?_take] at hj
        split at hj
        · have e : w''.heap[b]? = some (.cells cur T (0, 0)) := by rw [hw'']; exact k2
          rw [addr_add, Nat.zero_add, cell_row e]
          simpa using hj
        · cases hj

/-- Memory that stands for nothing is written. -/
theorem Sim.junk {w0 : World} {E : Env} {mem : Nat → Option Ob} {w w' : World} (h : Sim w0 E mem w) {b : Nat} (hb : w0.heap.size ≤ b) (hi : ¬ E.im b) (hn : ∀ q o, mem q = some o → obk o (E.ι q) ≠ some b) (hg : w.grownBy w' (some b)) :
    Sim w0 E mem w' ∧ Stable E.im w w' := by
  have hst : Stable E.im w w' := fun k hk => hg.block k (h.im k hk).1 (fun e => by injection e with e; subst e; exact hi hk)
  refine ⟨⟨h.below.grown hg h.below.size (fun k hk => by injection hk with hk; omega), fun k hk => ⟨Nat.lt_of_lt_of_le (h.im k hk).1 hg.size, (h.im k hk).2⟩, fun q x hq => ?_, fun q x k hq hk => ?_, h.dist⟩, hst⟩
  · obtain ⟨h1, h2⟩ := h.ob q x hq
    exact ⟨h1, h2.mono h1 (Env.le.refl E) hst hg.size (fun k hk => hg.block k (h.live q x k hq hk).2.1 (fun e => by injection e with e; subst e; exact hn q x hq hk))⟩
  · obtain ⟨h1, h2, h3⟩ := h.live q x k hq hk
    exact ⟨h1, Nat.lt_of_lt_of_le h2 hg.size, h3⟩

/-- What an append gives. -/
def D.app (sz : Nat) (s : D) (lx : List D) : D :=
  match s with
  | .sl _ es => .sl sz (es ++ lx)
  | _ => match lx with | [] => .v nilS | l => .sl sz l
theorem flat_append (a b : List D) : flat (a ++ b) = flat a ++ flat b := by simp [flat]
theorem run_append_ways {P : Program} {w : World} (t t' ty e : TypeId) (i : TypeInfo) (z : Value) (d' : TypeDesc) (ht : P.underlying t = some (.slice e)) (ht' : P.underlying t' = some d') (hd' : (∃ e', d' = .slice e') ∨ d' = .string) (hi : P.info? e = some i) (hz : i.zero = some z)
    (base : Option Addr) (sLen sCap : Nat) (x : Value) (n : Nat) (hx : Builtin.lenOf x = pure n) (olds news : List Value) (ho : ∀ w'', w''.heap = w.heap → (Builtin.firstCells i.size sLen (.slice base sLen sCap)).run P w'' = .ok olds.toArray w'') (hn : ∀ w'', w''.heap = w.heap → (Builtin.firstCells i.size n x).run P w'' = .ok news.toArray w'')
    (hb : (sLen + n) * i.bytes ≤ 1099511627776) (hby : 1 ≤ i.bytes) :
    (Builtin.append_ #[t, t'] ty #[.slice base sLen sCap, x]).run P w =
      if sLen + n ≤ sCap then
        (match base with | some a => (storeCells (a.add (sLen * i.size)) news : Sem Unit) | none => pure ()).run P w |>.andThen fun _ w' => .ok (.slice base (sLen + n) sCap) w'
      else .ok (.slice (some ⟨w.heap.size, 0, none⟩) (sLen + n) (grownCap w (sLen + n) sCap e))
        (w.drew.alloc (.cells (olds.toArray ++ news.toArray ++ Builtin.zeroCells z.cells (grownCap w (sLen + n) sCap e - (sLen + n))) e)) := by
  have h1 : sLen + n ≤ 1099511627776 := Nat.le_trans (Nat.le_mul_of_pos_right _ hby) hb
  have hn0 := hn w rfl
  have hnd := hn w.drew rfl
  have hod := ho w.drew rfl
  rcases hd' with ⟨e', rfl⟩ | rfl
  all_goals by_cases hle : sLen + n ≤ sCap
  any_goals
    rw [if_pos hle]
    cases base with
    | none => simp [Builtin.append_, run_underlying ht, run_underlying ht', sizeOf, typeInfo, hi, hx, hle, hn0]
    | some a => simp [Builtin.append_, run_underlying ht, run_underlying ht', sizeOf, typeInfo, hi, hx, hle, hn0]
  all_goals
    rw [if_neg hle]
    have h63' : ¬ (9223372036854775807 < ((sLen : Int) + (n : Int))) := by omega
    have hfit := growslice_fits (bytes := i.bytes) (Nat.lt_of_not_le hle) (by omega)
    have h48' : ¬ (281474976710656 < Builtin.nextslicecap (sLen + n) sCap * i.bytes) := by omega
    simp [Builtin.append_, run_underlying ht, run_underlying ht', sizeOf, typeInfo, zeroValue, hi, hz, hx, hle, h63', h48', Question.forced, hnd, hod, newRow, grownCap]
    congr 2
    apply Array.ext'
    simp [List.append_assoc]

def D.lstSz (sz : Nat) : D → Option (List D)
  | .v (.slice none 0 0) => some []
  | .sl s es => bif Nat.beq s sz then some es else none
  | _ => none
theorem D.lstSz_cases {sz : Nat} {x : D} {l : List D} (h : x.lstSz sz = some l) : x = .sl sz l ∨ (x = .v nilS ∧ l = []) := by
  unfold D.lstSz at h
  split at h
  · injection h with h; subst h; exact .inr ⟨rfl, rfl⟩
  · rename_i s es
    cases hb : Nat.beq s sz
    · simp [hb] at h
    · simp only [hb, cond_true, Option.some.injEq] at h
      subst h
      rw [Nat.eq_of_beq_eq_true hb]; exact .inl rfl
  · cases h
theorem D.lst_of_sz {sz : Nat} {x : D} {l : List D} (h : x.lstSz sz = some l) : x.lst = some l := by
  rcases D.lstSz_cases h with rfl | ⟨rfl, rfl⟩ <;> rfl
/-- A source, however it is told. -/
theorem src_C {P : Program} {w0 : World} {E : Env} {mem mem' : Nat → Option Ob} {w : World} {c : C} {v : Value} {dx : D} {lx : List D} {sz : Nat} (hS : Sim w0 E mem' w) (hacc : ∀ r ∈ c.acc, mem' r = mem r) (hc : CRep E w c v) (hd : c.toD mem = some dx) (hl : dx.lstSz sz = some lx) : Src P E w sz v lx := by
  cases c with
  | d x => simp only [C.toD, Option.some.injEq] at hd; subst hd; exact src_dat hc (D.lstSz_cases hl)
  | k u =>
    simp only [C.toD, Option.some.injEq] at hd; subst hd
    obtain ⟨rfl, hs⟩ := hc
    rcases D.lstSz_cases hl with h | ⟨h, rfl⟩
    · cases h
    · injection h with h; subst h
      exact src_dat (E := E) (x := .v nilS) (.v rfl) (.inr ⟨rfl, rfl⟩)
  | row r =>
    have hm := hacc r (by simp [C.acc])
    simp only [C.toD] at hd
    split at hd
    · rename_i sz' x hmr
      injection hd with hd; subst hd
      obtain ⟨_, hrow⟩ := hS.ob r _ (hm.trans hmr)
      obtain ⟨_, rfl, _⟩ := hc
      have hrow : RowRep E w sz' (E.ι r) x := hrow
      rcases D.lstSz_cases hl with rfl | ⟨rfl, rfl⟩
      · rcases hrow with ⟨h, _⟩ | ⟨es, h, rest⟩
        · cases h
        · injection h with h1 h2; subst h1; subst h2; exact src_row (.inr ⟨_, rfl, rest⟩) rfl
      · rcases hrow with ⟨_, h⟩ | ⟨es, h, _⟩
        · rw [h]; exact src_dat (E := E) (x := .v nilS) (.v rfl) (.inr ⟨rfl, rfl⟩)
        · cases h
    · rename_i x hmr
      injection hd with hd; subst hd
      obtain ⟨_, hrow⟩ := hS.ob r _ (hm.trans hmr)
      obtain ⟨_, rfl, _⟩ := hc
      exact src_dat (E := E) hrow (D.lstSz_cases hl)
    · cases hd
  | _ => simp [C.toD] at hd

theorem D.app_sl {sz : Nat} {s : D} {ls lx : List D} (hs : s.lst = some ls) (h : lx ≠ [] ∨ s ≠ .v nilS) (hsl : ∀ z es, s = .sl z es → z = sz) : s.app sz lx = .sl sz (ls ++ lx) := by
  unfold D.lst at hs
  split at hs
  · injection hs with hs; subst hs
    rcases h with h | h
    · cases lx with
      | nil => exact absurd rfl h
      | cons a l => rfl
    · exact absurd rfl h
  · injection hs with hs; subst hs; rfl
  · cases hs
theorem zeroCells_len (z : Array Value) (n : Nat) : (Builtin.zeroCells z n).size = n * z.size := by simp [Builtin.zeroCells]
theorem zeroCells_one {z : Array Value} (n : Nat) (hz : ∀ u ∈ z.toList, u.oneCell' = true) : ∀ u ∈ (Builtin.zeroCells z n).toList, u.oneCell' = true := by
  intro u hu
  simp only [Builtin.zeroCells, Array.toList_map, List.mem_map] at hu
  obtain ⟨k, _, rfl⟩ := hu
  by_cases h : k % z.size < z.size
  · rw [getElem!_pos z _ h]; exact hz _ (by simp)
  · rw [getElem!_neg z _ h]; rfl
theorem obRow {E : Env} {w : World} {n sz : Nat} {v : Value} {x : D} (h : RowRep (E.add n v) w sz v x) : ObRep (E.add n v) w n (.row sz x) := by
  show RowRep _ _ _ ((E.add n v).ι n) _
  rw [show (E.add n v).ι n = v from upd_same _ _ _]
  exact h
section
variable {P : Program} {o : Oper} {ρ : Operand → AV} {mem : Nat → Option Ob} {t t' e : TypeId} {x y s : Operand} {i : TypeInfo} {d : TypeDesc}
theorem append_ok (ho : o.op = .call { callee := .builtin .append, args := #[s, x], argTypes := #[t, t'] }) (ht : P.underlying t = some (.slice e)) {d' : TypeDesc} (ht' : P.underlying t' = some d') (hd' : (∃ e', d' = .slice e') ∨ d' = .string)
    (hi : P.info? e = some i) {z : Value} (hz : i.zero = some z) (hzs : z.cells.size = i.size) (hsz : 0 < i.size) (hby : 1 ≤ i.bytes)
    {xs : D} {rs : List Nat} (hs : (ρ s = .t (.one (.k nilS)) ∧ xs = .v nilS ∧ rs = []) ∨ ∃ r, ρ s = .t (.one (.row r)) ∧ mem r = some (.row i.size xs) ∧ rs = [r])
    {lx : List D} {accx : List Nat} (hx : ∀ (w0 : World) (E : Env) (mem' : Nat → Option Ob) (w : World) (a : Act), Sim w0 E mem' w → (∀ r ∈ accx, mem' r = mem r) → (∀ y ∈ o.op.operands, AVRep E w (ρ y) (a.eval y)) → Src P E w i.size (a.eval x) lx)
    {ls : List D} (hls : xs.lst = some ls) (hb : (ls.length + lx.length) * i.bytes ≤ 1099511627776) (n : Nat) (hnr : n ∉ rs) :
    OpOk P o ρ mem (.t (.one (.row n))) (rs ++ accx) [n] (rs.map (·, none) ++ [(n, some (.row i.size (xs.app i.size lx)))]) := by
  intro w0 E mem' w a K Q hS hacc hn hops hK
  have hnb := hn n (by simp)
  obtain ⟨hlw, hlen, news, hnl, hnall, hnrun⟩ := hx w0 E mem' w a hS (fun r hr => hacc r (by simp [hr])) hops
  have hsv := hops s (by simp [ho, Op.operands, Call.operands])
  -- the first argument, as a row
  have hrow : RowRep E w i.size (a.eval s) xs := by
    rcases hs with ⟨h1, rfl, _⟩ | ⟨r, h1, h2, h3⟩
    · rw [h1] at hsv; exact .inl ⟨rfl, hsv.1⟩
    · rw [h1] at hsv
      obtain ⟨_, h4, _⟩ := hsv
      rw [h4]
      exact (hS.ob r _ ((hacc r (by simp [h3])).trans h2)).2
  obtain ⟨hlsw, _, olds, hol, hoall, horun⟩ := src_row (P := P) hrow hls
  let mem2 : Nat → Option Ob := updL mem' (rs.map (·, none))
  have hS2 : Sim w0 E mem2 w := by
    refine hS.drop fun q ob hq => ?_
    rcases hs with ⟨_, _, rfl⟩ | ⟨r, _, _, rfl⟩
    · exact hq
    · by_cases e1 : q = r
      · subst e1; simp [mem2, updL, upd_same] at hq
      · simpa [mem2, updL, upd_ne _ _ e1] using hq
  have hfin : ∀ ob, updL mem' (rs.map (·, none) ++ [(n, ob)]) = upd mem2 n ob := fun ob => by
    rcases hs with ⟨_, _, rfl⟩ | ⟨r, _, _, rfl⟩ <;> rfl
  have hown : ∀ b, blk (a.eval s) = some b → w0.heap.size ≤ b ∧ ¬ E.im b ∧ b < w.heap.size ∧ ∀ q ob, mem2 q = some ob → obk ob (E.ι q) ≠ some b := by
    intro b hb'
    rcases hs with ⟨h1, _, _⟩ | ⟨r, h1, h2, rfl⟩
    · rw [h1] at hsv; rw [hsv.1] at hb'; cases hb'
    · rw [h1] at hsv
      obtain ⟨_, h4, _⟩ := hsv
      rw [h4] at hb'
      have hmr := (hacc r (by simp)).trans h2
      obtain ⟨p1, p2, p3⟩ := hS.live r _ b hmr hb'
      refine ⟨p1, p3, p2, fun q ob hq hq' => ?_⟩
      by_cases e1 : q = r
      · subst e1; simp [mem2, updL, upd_same] at hq
      · exact e1 (hS.dist q r ob _ b (by simpa [mem2, updL, upd_ne _ _ e1] using hq) hmr hq' hb')
  have hflat : (flat (ls ++ lx)).length = (ls.length + lx.length) * i.size := by
    rw [flat_append, List.length_append, flat_get hlsw, flat_get hlw, Nat.add_mul]
  have hxw : ∀ y ∈ ls ++ lx, y.cells.length = i.size := fun y hy => by
    rcases List.mem_append.1 hy with h | h
    · exact hlsw y h
    · exact hlw y h
  have hcat : All2 (Reads E.im w) (olds ++ news) (flat (ls ++ lx)) := by rw [flat_append]; exact hoall.append hnall
  have exec : ∀ v w', (Builtin.append_ #[t, t'] o.type #[a.eval s, a.eval x]).run P w = .ok v w' → (execOp a.eval o).run P w = .ok (.value v) w' := by
    intro v w' h
    unfold execOp
    simp only [ho, resolve, invoke, builtin, Sem.run_bind, Sem.run_pure, Result.andThen_ok, List.map_toArray, List.map_cons, List.map_nil, h]
  have h1 : ls.length + lx.length ≤ 1099511627776 := Nat.le_trans (Nat.le_mul_of_pos_right _ hby) hb
  -- the row grows into a new block
  have grow : ∀ base cap, a.eval s = .slice base ls.length cap → ¬ (ls.length + lx.length ≤ cap) → (xs.app i.size lx = .sl i.size (ls ++ lx)) → o.wp P a w K Q := by
    intro base cap hv hcap happ
    have hrun := run_append_ways (P := P) (w := w) t t' o.type e i z d' ht ht' hd' hi hz base ls.length cap (a.eval x) lx.length hlen olds news (by rw [← hv]; exact horun) hnrun hb hby
    rw [if_neg hcap, ← hv] at hrun
    obtain ⟨G, hG⟩ : ∃ G, G = grownCap w (ls.length + lx.length) cap e := ⟨_, rfl⟩
    rw [← hG] at hrun
    have hge : ls.length + lx.length ≤ G := hG ▸ grownCap_ge w _ _ _
    have hle : G ≤ maxLen := hG ▸ grownCap_le_maxLen w _ _ _ (by simp only [maxLen]; omega)
    obtain ⟨cur, hcur⟩ : ∃ cur : Array Value, cur = olds.toArray ++ news.toArray ++ Builtin.zeroCells z.cells (G - (ls.length + lx.length)) := ⟨_, rfl⟩
    rw [← hcur] at hrun
    have hcs : cur.size = G * i.size := by
      rw [hcur]
      simp only [Array.size_append, List.size_toArray, zeroCells_len, hzs, hol, hnl, ← Nat.add_mul]
      congr 1; omega
    have hbw := ((Below.refl w.heap.size w).drew).alloc (Nat.le_refl _) (.cells cur e)
    have hS3 : Sim w0 E mem2 (w.drew.alloc (.cells cur e)) := hS2.step hbw
    have hst := hS.stable hbw
    refine wp_of_run (exec _ _ hrun) ?_
    refine hK (E.add n (.slice (some ⟨w.heap.size, 0, none⟩) (ls.length + lx.length) G)) _ _ (E.le_add n _ hnb) (fun r hr => hr.imp_right fun e => by simp [e]) hst ⟨.inr rfl, (upd_same _ _ _).symm, _, _, _, upd_same _ _ _⟩ ?_
    rw [hfin, happ]
    refine hS3.add n hnb _ _ ?_ ?_
    · refine obRow (.inr ⟨ls ++ lx, rfl, hxw, .inr ⟨w.heap.size, G, e, cur, by rw [List.length_append], heap_alloc_new w.drew _, by rw [List.length_append]; exact hge, ?_, hle, hcs, ?_⟩⟩)
      · have : ¬ (ls.length + lx.length ≤ 0) ∨ ls.length + lx.length = 0 := by omega
        omega
      · have : cur.toList.take ((ls ++ lx).length * i.size) = olds ++ news := by
          rw [hcur]
          simp only [Array.toList_append, List.append_assoc, List.length_append]
          rw [← List.append_assoc, show (ls.length + lx.length) * i.size = (olds ++ news).length by rw [List.length_append, hol, hnl, Nat.add_mul]]
          exact List.take_left
        rw [this]
        exact hcat.imp fun _ _ q => q.mono hst (fun _ h => h)
    · intro b hb'
      have : w.heap.size = b := by
        simp only [obk, blk] at hb'
        split at hb'
        · cases hb'
        · injection hb'
      subst this
      refine ⟨hS.below.size, by simp, fun hi' => by have := (hS.im _ hi').1; omega, fun q ob hq => hS2.fresh q ob hq⟩
  rcases hrow with ⟨rfl, hv⟩ | ⟨es, rfl, hw, hcases⟩
  · -- nil
    simp only [nilS, D.lst, Option.some.injEq] at hls; subst hls
    by_cases h0 : lx = []
    · subst h0
      have hrun := run_append_ways (P := P) (w := w) t t' o.type e i z d' ht ht' hd' hi hz none 0 0 (a.eval x) 0 hlen olds news (by have := horun; rw [hv] at this; exact this) hnrun hb hby
      rw [if_pos (Nat.le_refl _)] at hrun
      have hv' : a.eval s = .slice none 0 0 := hv
      rw [← hv'] at hrun
      simp only [Sem.run_pure, Result.andThen_ok, Nat.add_zero] at hrun
      refine wp_of_run (exec _ _ hrun) ?_
      refine hK (E.add n nilS) w _ (E.le_add n _ hnb) (fun r hr => hr.imp_right fun e => by simp [e]) (Stable.refl _ _) ⟨.inr rfl, by rw [hv]; exact (upd_same _ _ _).symm, none, 0, 0, upd_same _ _ _⟩ ?_
      rw [hfin]
      exact hS2.add n hnb _ _ (obRow (.inl ⟨rfl, rfl⟩)) (fun b hb' => by cases hb')
    · exact grow none 0 hv (by have := List.length_pos_iff.2 h0; simp; omega) (D.app_sl rfl (.inl h0) (fun _ _ h => by cases h))
  · simp only [D.lst, Option.some.injEq] at hls; subst hls
    have happ : (D.sl i.size es).app i.size lx = .sl i.size (es ++ lx) := rfl
    rcases hcases with ⟨rfl, b, off, hv, hbl⟩ | ⟨b, c, T, cur, hv, k2, k3, k4, k5, k6, k7⟩
    · by_cases h0 : lx = []
      · subst h0
        have hrun := run_append_ways (P := P) (w := w) t t' o.type e i z d' ht ht' hd' hi hz (some ⟨b, off, none⟩) 0 0 (a.eval x) 0 hlen olds news (by have := horun; rw [hv] at this; exact this) hnrun hb hby
        rw [if_pos (Nat.le_refl _)] at hrun
        have hnn : news = [] := List.eq_nil_of_length_eq_zero (by simpa using hnl)
        subst hnn
        simp only [storeCells, Sem.run_pure, Result.andThen_ok, Nat.add_zero] at hrun
        rw [← hv] at hrun
        refine wp_of_run (exec _ _ hrun) ?_
        refine hK (E.add n (.slice (some ⟨b, off, none⟩) 0 0)) w _ (E.le_add n _ hnb) (fun r hr => hr.imp_right fun e => by simp [e]) (Stable.refl _ _) ⟨.inr rfl, by rw [hv]; exact (upd_same _ _ _).symm, _, 0, 0, upd_same _ _ _⟩ ?_
        rw [hfin]
        exact hS2.add n hnb _ _ (obRow (.inr ⟨[], rfl, by simp, .inl ⟨rfl, b, off, rfl, hbl⟩⟩)) (fun b hb' => by simp [obk, blk] at hb')
      · exact grow _ 0 hv (by have := List.length_pos_iff.2 h0; simp; omega) happ
    · by_cases hcap : es.length + lx.length ≤ c
      · have hrun := run_append_ways (P := P) (w := w) t t' o.type e i z d' ht ht' hd' hi hz (some ⟨b, 0, none⟩) es.length c (a.eval x) lx.length hlen olds news (by have := horun; rw [hv] at this; exact this) hnrun hb hby
        rw [if_pos hcap] at hrun
        simp only [addr_add, Nat.zero_add] at hrun
        have hnone : ∀ u ∈ news, u.oneCell' = true := fun u hu => by
          obtain ⟨k, hk⟩ := List.getElem?_of_mem hu
          obtain ⟨d, _, hd⟩ := hnall.get hk
          exact hd.one
        have hfit : es.length * i.size + news.length ≤ cur.size := by rw [hnl, k6, ← Nat.add_mul]; exact Nat.mul_le_mul_right _ hcap
        have hst := run_storeCells_at P b (es.length * i.size) T news 0 cur w k2 (by simpa using hfit) hnone
        simp only [Nat.add_zero] at hst
        rw [hst] at hrun
        simp only [Result.andThen_ok] at hrun
        rw [← hv] at hrun
        obtain ⟨q1, q2, q3, q4⟩ := hown b (by rw [hv]; simp [blk]; omega)
        obtain ⟨hS3, hst3⟩ := hS2.junk q1 q2 q4 (grown_setRow w b (cur.toList.take (es.length * i.size) ++ news ++ cur.toList.drop (es.length * i.size + news.length)).toArray)
        refine wp_of_run (exec _ _ hrun) ?_
        refine hK (E.add n (.slice (some ⟨b, 0, none⟩) (es.length + lx.length) c)) _ _ (E.le_add n _ hnb) (fun r hr => hr.imp_right fun e => by simp [e]) hst3 ⟨.inr rfl, (upd_same _ _ _).symm, _, _, _, upd_same _ _ _⟩ ?_
        rw [hfin, happ]
        refine hS3.add n hnb _ _ ?_ ?_
        · refine obRow (.inr ⟨es ++ lx, rfl, hxw, .inr ⟨b, c, T, _, by rw [List.length_append], setRow_heap w b cur _ T _ k2, by rw [List.length_append]; exact hcap, k4, k5, ?_, ?_⟩⟩)
          · simp only [List.size_toArray, List.length_append, List.length_take, List.length_drop, Array.length_toList]
            omega
          · have e1 : cur.toList.take (es.length * i.size) = olds := by
              have := horun w rfl
              rw [hv] at this
              have h2 := run_firstCells_some (P := P) w i.size es.length ⟨b, 0, none⟩ es.length c (cur.toList.take (es.length * i.size)) (by
                have e1 : cur.toList.length = c * i.size := by simpa using k6
                rw [List.length_take, e1]; exact Nat.min_eq_left (Nat.mul_le_mul_right _ k3)) (fun j u hj => by
                rw [List.getElem?_take] at hj
                split at hj
                · rw [addr_add, Nat.zero_add, cell_row k2]; simpa using hj
                · cases hj)
              rw [h2] at this
              injection this with this _
              simpa using congrArg Array.toList this
            have : (cur.toList.take (es.length * i.size) ++ news ++ cur.toList.drop (es.length * i.size + news.length)).toArray.toList.take ((es ++ lx).length * i.size) = olds ++ news := by
              rw [e1]
              simp only [List.toList_toArray, List.length_append]
              rw [show (es.length + lx.length) * i.size = (olds ++ news).length by rw [List.length_append, hol, hnl, Nat.add_mul]]
              exact List.take_left
            rw [this]
            exact hcat.imp fun _ _ q => q.mono hst3 (fun _ h => h)
        · intro b' hb'
          have : b = b' := by
            simp only [obk, blk] at hb'
            split at hb'
            · cases hb'
            · injection hb'
          subst this
          exact ⟨q1, by simpa using q3, q2, q4⟩
      · exact grow _ c hv hcap happ
end
end Go.Proofs.Ytjdemohgegldaaa
