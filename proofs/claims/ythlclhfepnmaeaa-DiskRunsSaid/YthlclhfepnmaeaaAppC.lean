/-
  append of calls onto a row of one's own; reading it.
-/
import Derived.Test.YthlclhfepnmaeaaCalls
import Derived.Test.YthlclhfepnmaeaaAppN
namespace Go.Proofs.Ythlclhfepnmaeaa
open Go.RowKit

theorem infoCallZ : (Try.prog.info? 36).map (fun i => (i.zero, i.size, i.bytes)) = some (some (.agg #[.int .i64 0, .int .i64 0, .int .i64 0, .slice none 0 0, .int .u64 0]), 5, 56) := by kernel_rfl
/-- The cells of calls, one behind another. -/
def ccalls (cs : List CallD) : List Value := cs.flatMap CallD.cells
theorem ccalls_nil : ccalls [] = [] := rfl
theorem ccalls_append (a b : List CallD) : ccalls (a ++ b) = ccalls a ++ ccalls b := List.flatMap_append
theorem ccalls_length (cs : List CallD) : (ccalls cs).length = cs.length * 5 := by
  induction cs with
  | nil => rfl
  | cons x r ih =>
    show (CallD.cells x ++ ccalls r).length = _
    rw [List.length_append, ih, List.length_cons]
    show 5 + _ = _
    omega
theorem ccalls_get : ∀ (cs : List CallD) (k j : Nat) (hk : k < cs.length), j < 5 → (ccalls cs)[k * 5 + j]? = cs[k].cells[j]?
  | x :: r, 0, j, _, hj => by
    show (CallD.cells x ++ ccalls r)[0 * 5 + j]? = x.cells[j]?
    rw [Nat.zero_mul, Nat.zero_add, List.getElem?_append_left (by show j < 5; exact hj)]
  | x :: r, k + 1, j, hk, hj => by
    have hk' : k < r.length := by simpa using hk
    show (CallD.cells x ++ ccalls r)[(k + 1) * 5 + j]? = r[k].cells[j]?
    rw [List.getElem?_append_right (by show 5 ≤ _; omega), show (k + 1) * 5 + j - (CallD.cells x).length = k * 5 + j from by show (k + 1) * 5 + j - 5 = _; omega]
    exact ccalls_get r k j hk' hj
theorem ccalls_one {w : World} {B : Nat} {cs : List CallD} (h : ∀ x ∈ cs, x.Fit w B) : ∀ u ∈ ccalls cs, u.oneCell' = true := by
  intro u hu
  obtain ⟨x, hx, hu⟩ := List.mem_flatMap.1 hu
  obtain ⟨A, c, e, _⟩ := (h x hx).row
  simp only [CallD.cells, e, List.mem_cons, List.not_mem_nil, or_false] at hu
  rcases hu with rfl | rfl | rfl | rfl | rfl <;> rfl
theorem run_append_none {P : Program} {w : World} {base size : Nat} (t ty e : TypeId) (i : TypeInfo) (ht : P.underlying t = some (.slice e)) (hi : P.info? e = some i) (hsz : i.size = size) (v : Value) (n : Nat) (xs : List Value) (hown : w.ownsRow base e size v n xs) (c : Nat) :
    (Builtin.append_ #[t, t] ty #[v, .slice none 0 c]).run P w = .ok v w := by
  subst hsz
  rcases hown.2 with ⟨rfl, rfl⟩ | ⟨g, cap, cur, rfl, _, _, hnc, _⟩
  · simp [Builtin.append_, run_underlying ht, sizeOf, typeInfo, hi, Builtin.lenOf, Builtin.firstCells]
  · simp [Builtin.append_, run_underlying ht, sizeOf, typeInfo, hi, Builtin.lenOf, Builtin.firstCells, hnc, storeCells]
theorem run_append_calls {w : World} {base B : Nat} (ty : TypeId) (v : Value) (n : Nat) (c0 cs : List CallD) (A : Option Addr) (m c : Nat)
    (hown : w.ownsRow base 36 5 v n (ccalls c0)) (hm : cs.length = m) (hr : CallRow w B (.slice A m c) cs) (h63 : n + m ≤ 1000) (hbase : base ≤ w.heap.size) :
    ∃ v' w', (Builtin.append_ #[22, 22] ty #[v, .slice A m c]).run Try.prog w = .ok v' w' ∧ w'.ownsRow base 36 5 v' (n + m) (ccalls (c0 ++ cs)) ∧ w.grownBy w' v.ownBlock ∧ (v'.ownBlock = v.ownBlock ∨ v'.ownBlock = some w.heap.size) := by
  have hz := infoCallZ
  cases hi : Try.prog.info? 36 with
  | none => simp [hi] at hz
  | some i =>
    simp only [hi, Option.map_some, Option.some.injEq, Prod.mk.injEq] at hz
    obtain ⟨hz, hsize, hby⟩ := hz
    rw [ccalls_append]
    obtain ⟨A', c', he, hcell, hfit⟩ := hr
    injection he with e1 e2 e3
    subst e1
    subst hm
    rcases Nat.eq_zero_or_pos cs.length with h0 | hpos
    · obtain rfl := List.eq_nil_of_length_eq_zero h0
      rcases A with _ | ad
      · exact ⟨v, w, run_append_none _ _ _ i Try.underlying22 hi hsize v n _ hown c, by simpa [ccalls_nil] using hown, World.grownBy.refl w _, .inl rfl⟩
      · obtain ⟨v', w', hrun, h2, h3, _, h5⟩ := run_append_own_at (P := Try.prog) w base 22 ty _ i _ 5 56 Try.underlying22 hi hz hsize hby rfl (by omega) v n _ hown ad 0 c [] rfl (by simp) (by simp) (by unfold maxLen; simp at h63 ⊢; omega) (by simp at h63 ⊢; omega) hbase
        exact ⟨v', w', hrun, h2, h3, h5⟩
    · obtain ⟨b, o', rfl, hb, hc⟩ := hcell hpos
      obtain ⟨v', w', hrun, h2, h3, _, h5⟩ := run_append_own_at (P := Try.prog) w base 22 ty _ i _ 5 56 Try.underlying22 hi hz hsize hby rfl (by omega) v n _ hown ⟨b, o', none⟩ cs.length c (ccalls cs) (ccalls_length cs)
        (fun j u hu => by
          rw [addr_add]
          have hj : j < cs.length * 5 := by rw [← ccalls_length]; exact (List.getElem?_eq_some_iff.1 hu).1
          have hk : j / 5 < cs.length := by omega
          have := hc (j / 5) cs[j / 5] (List.getElem?_eq_getElem hk) (j % 5) u (by
            rw [← ccalls_get cs (j / 5) (j % 5) hk (by omega), show j / 5 * 5 + j % 5 = j from by omega]
            exact hu)
          rw [show o' + j = o' + j / 5 * 5 + j % 5 from by omega]
          exact this) (ccalls_one hfit) (by unfold maxLen; omega) (by omega) hbase
      exact ⟨v', w', hrun, h2, h3, h5⟩
theorem wpList_append_calls {ops : Array Oper} {rest : List Oper} {o : Oper} {a : Act} {w : World} {Q : Exit → Act → World → Prop} (s y : Operand) {base B : Nat} (v : Value) (n : Nat) (c0 cs : List CallD) (A : Option Addr) (m c : Nat) (hgd : o.guard = none)
    (ho : o.op = .call { callee := .builtin .append, args := #[s, y], argTypes := #[22, 22] }) (hs : a.eval s = v) (hy : a.eval y = .slice A m c)
    (hown : w.ownsRow base 36 5 v n (ccalls c0)) (hm : cs.length = m) (hr : CallRow w B (.slice A m c) cs) (h63 : n + m ≤ 1000) (hbase : base ≤ w.heap.size)
    (h : ∀ v' w', w'.ownsRow base 36 5 v' (n + m) (ccalls (c0 ++ cs)) → w.grownBy w' v.ownBlock → (v'.ownBlock = v.ownBlock ∨ v'.ownBlock = some w.heap.size) → wpList Try.prog ops Q rest (a.put o.dst v') w') : wpList Try.prog ops Q (o :: rest) a w := by
  have key := run_append_calls o.type v n c0 cs A m c hown hm hr h63 hbase
  refine wpList_plain hgd fun K hK => ?_
  obtain ⟨v', w', hrun, h2, h3, h4⟩ := key
  unfold Oper.wp execOp
  simp only [ho, resolve, invoke, builtin, Sem.run_bind, Sem.run_pure, Result.andThen_ok, List.map_toArray, List.map_cons, List.map_nil, hs, hy, hrun]
  exact hK _ _ (h v' w' h2 h3 h4)
theorem own5_nil (w : World) (base : Nat) (e : TypeId) : w.ownsRow base e 5 (.slice none 0 0) 0 (ccalls []) := ⟨rfl, .inl ⟨rfl, rfl⟩⟩
theorem own5_form {w : World} {base size : Nat} {e : TypeId} {v : Value} {n : Nat} {xs : List Value} (h : w.ownsRow base e size v n xs) : ∃ A c, v = .slice A n c := by
  rcases h.2 with ⟨rfl, rfl⟩ | ⟨g, cap, cur, rfl, _⟩
  · exact ⟨_, _, rfl⟩
  · exact ⟨_, _, rfl⟩
/-- Such a row, read: its block holds the calls. -/
def CallsIn (w : World) (A : Option Addr) (n : Nat) (cs : List CallD) : Prop := 0 < n → ∃ gq cur, A = some ⟨gq, 0, none⟩ ∧ Blk w gq 36 cur ∧ cur.toList.take (n * 5) = ccalls cs
theorem CallsIn.of_own {w : World} {base n c : Nat} {A : Option Addr} {cs : List CallD} (h : w.ownsRow base 36 5 (.slice A n c) n (ccalls cs)) : CallsIn w A n cs := fun hn => by
  rcases h.2 with ⟨_, e⟩ | ⟨g, cap, cur, e, _, hb, _, _, _, ht⟩
  · omega
  · injection e with e
    exact ⟨g, cur, e, hb, ht⟩
theorem CallsIn.out {w w' : World} {A : Option Addr} {n : Nat} {cs : List CallD} {X : Nat → Prop} (h : CallsIn w A n cs) (ho : Out X w w') (hX : ∀ g, A = some ⟨g, 0, none⟩ → X g) : CallsIn w' A n cs := fun hn => by
  obtain ⟨gq, cur, e, hb, ht⟩ := h hn
  exact ⟨gq, cur, e, ho.blk hb (hX gq e), ht⟩
theorem CallsIn.below {w w' : World} {A : Option Addr} {n : Nat} {cs : List CallD} (h : CallsIn w A n cs) (hb : Below w.heap.size w w') : CallsIn w' A n cs := fun hn => by
  obtain ⟨gq, cur, e, hx, ht⟩ := h hn
  exact ⟨gq, cur, e, blk_below hx hb, ht⟩
/-- Call k of it. -/
theorem CallsIn.at {w w0 : World} {B k n : Nat} {A : Option Addr} {cs : List CallD} (h : CallsIn w A n cs) (hn : n = cs.length) (hk : k < n) (hf : ∀ x ∈ cs, x.Fit w0 B) (hb : Below B w0 w) : ∃ gq, A = some ⟨gq, 0, none⟩ ∧ ∃ kd r s A2 n2 c2 l mask, cs[k]'(hn ▸ hk) = ⟨kd, r, s, .slice A2 n2 c2, l, mask⟩ ∧ l.length = n2 ∧ n2 ≤ maxLen ∧
    w.rangeAt gq (k * 5) [.int .i64 kd, .int .i64 r, .int .i64 s, .slice A2 n2 c2, .int .u64 (mask : Int)] ∧ Row w B (.slice A2 n2 c2) (u8s l) := by
  subst hn
  obtain ⟨gq, cur, rfl, hblk, ht⟩ := h (by omega)
  have hfk := hf cs[k] (List.getElem_mem hk)
  have hg := fun j hj => ccalls_get cs k j hk hj
  refine ⟨gq, rfl, ?_⟩
  obtain ⟨x, hx⟩ : ∃ x, cs[k] = x := ⟨_, rfl⟩
  rw [hx] at hfk hg
  obtain ⟨kd, r, s, dv, l, mask⟩ := x
  obtain ⟨hrow, hlen, _⟩ := hfk
  obtain ⟨A2, c2, he, h1, h2⟩ := id hrow
  dsimp only at he
  subst he
  rw [u8s_length] at hrow hx hg
  refine ⟨kd, r, s, A2, l.length, c2, l, mask, hx, rfl, hlen, fun j u hu => ?_, by rw [← u8s_length l] at hrow ⊢; exact hrow.below hb⟩
  have hj : j < 5 := (List.getElem?_eq_some_iff.1 hu).1
  have h5 := (hg j hj).trans hu
  rw [← ht, List.getElem?_take] at h5
  split at h5
  · exact hblk.cell _ _ (by simpa using h5)
  · cases h5
/-- What an append onto one's own leaves of the rest. -/
theorem below_grown {w w' : World} {row : Option Nat} {B : Nat} (h : w.grownBy w' row) (hr : row = none ∨ ∀ g, row = some g → B ≤ g) (hB : B ≤ w.heap.size) : Below B w w' := ⟨h.os, h.tape, h.output, h.size, fun k hk => h.block k (by omega) (by
  rcases hr with rfl | hr
  · simp
  · intro e
    have := hr k (by first | exact e | exact e.symm)
    omega)⟩
theorem own_ge {w : World} {base size n : Nat} {e : TypeId} {v : Value} {xs : List Value} (h : w.ownsRow base e size v n xs) : ∀ g, v.ownBlock = some g → base ≤ g := by
  intro g hg
  rcases h.2 with ⟨rfl, _⟩ | ⟨g', cap, cur, rfl, hb, _⟩
  · cases hg
  · injection hg with hg
    rw [← hg]
    exact hb
end Go.Proofs.Ythlclhfepnmaeaa
