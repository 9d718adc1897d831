/-
  Two lanes over one disk, each in a region of its own; two rows of records gathered side by side.
-/
import Derived.Test.YtlmoiepbnnfebaaJnd
import Derived.ArgAppend
namespace Go.Proofs.Ytlmoiepbnnfebaa
open Go.RowKit
set_option maxRecDepth 20000
set_option linter.unusedSimpArgs false
set_option linter.unusedVariables false

/-- A lane's state on its disk, which is up. -/
structure LvD (d : Ds) (l : Ln) (gr : Rg) (r n k : Nat) (all : List Rc) (s : Nat) : Prop where
  is : DIs d r gr k
  lv : Lv gr n l all s
  r : l.r = r
  size : d.size = n
  gen : l.gen = 1
  up : gr.armed = false
section
variable {w w' : World} {X Y : Nat → Prop} {dg a b ra rb q n k k' s t : Nat} {d d' : Ds} {l l' m : Ln} {kv kv' kw : Value} {gr hr : Rg} {A A' B : List Rc}
theorem LvD.live (h : LvD d l gr ra n k A s) (hl : LnAt w X dg d a l kv) : LiveD w X dg d a ra n k 1 true A s := ⟨l, kv, gr, hl, h.is, h.lv, h.r, h.size, h.gen, fun _ => h.up⟩
theorem LvD.of (h : LiveD w X dg d a ra n k 1 true A s) : ∃ l kv gr, LnAt w X dg d a l kv ∧ LvD d l gr ra n k A s := by
  obtain ⟨l, kv, gr, h1, h2, h3, h4, h5, h6, h7⟩ := h
  exact ⟨l, kv, gr, h1, h2, h3, h4, h5, h6, h7 rfl⟩
theorem LvD.apart (h : LvD d l gr ra n k A s) (ha : Apart d d' q) (hq : ra ≠ q) (hk : Small d' k') : LvD d' l gr ra n k' A s :=
  ⟨⟨(ha.2 ra hq).trans h.is.at_, by rw [ha.1]; exact h.is.size, by rw [ha.1]; exact h.is.fit, hk⟩, h.lv, h.r, ha.1.trans h.size, h.gen, h.up⟩
/-- Behind a call of the one lane's, the other one. -/
theorem LnAt.other (hn : LnAt w' (LX X b kw) dg d' a l' kv') (hb : Blk w b 83 (m.cells dg kw)) (hkp : Kp w kw m.kept) (hx : ¬ X b) (hxk : ∀ k, blkOf kw = some k → ¬ X k ∧ k ≠ b) (ho : Out (LX X b kw) w w') : LnAt w' (LX X a kv') dg d' b m kw := by
  refine ⟨hn.many.more (Below.refl _ _) (fun k hk => .inl ?_), ?_, ?_, Out.blk ho hb (.inr (.inl rfl)), hkp.out ho (fun k hk => .inr (.inr hk))⟩
  · rcases hk with (h | h | h) | h | h
    · exact .inl (.inl h)
    · exact .inr (.inl h)
    · exact .inr (.inr h)
    · exact .inl (.inr (.inl h))
    · exact .inl (.inr (.inr h))
  · rintro (h | h | h)
    · exact hx h
    · exact hn.xg (.inr (.inl h.symm))
    · exact (hn.xk b h).1 (.inr (.inl rfl))
  · intro k hk
    refine ⟨?_, (hxk k hk).2⟩
    rintro (h | h | h)
    · exact (hxk k hk).1 h
    · subst h; exact hn.xg (.inr (.inr hk))
    · exact (hn.xk k h).1 (.inr (.inr hk))
/-- Two lanes: a, with A, of which s are sure, in region ra; and b, with B. -/
def Duo (w : World) (X : Nat → Prop) (dg a ra : Nat) (A : List Rc) (s b rb : Nat) (B : List Rc) (t n k : Nat) : Prop :=
  ∃ d l kv gr m kw hr, ra ≠ rb ∧ LnAt w (LX X b kw) dg d a l kv ∧ LnAt w (LX X a kv) dg d b m kw ∧ LvD d l gr ra n k A s ∧ LvD d m hr rb n k B t
theorem Duo.symm (h : Duo w X dg a ra A s b rb B t n k) : Duo w X dg b rb B t a ra A s n k := by
  obtain ⟨d, l, kv, gr, m, kw, hr, h0, h1, h2, h3, h4⟩ := h
  exact ⟨d, m, kw, hr, l, kv, gr, Ne.symm h0, h2, h1, h4, h3⟩
theorem Duo.xlt (h : Duo w X dg a ra A s b rb B t n k) : ∀ k, X k → k < w.heap.size := by
  obtain ⟨d, l, kv, gr, m, kw, hr, h0, h1, h2, h3, h4⟩ := h
  exact fun k hk => h1.many.1 k (.inl (.inl hk))
theorem Duo.ok (h : Duo w X dg a ra A s b rb B t n k) : ∀ q ∈ A, q.Ok := by
  obtain ⟨d, l, kv, gr, m, kw, hr, h0, h1, h2, h3, h4⟩ := h
  exact h3.lv.ok
theorem Duo.upto (h : Duo w X dg a ra A s b rb B t n k) (hk : k ≤ k') : Duo w X dg a ra A s b rb B t n k' := by
  obtain ⟨d, l, kv, gr, m, kw, hr, h0, h1, h2, h3, h4⟩ := h
  exact ⟨d, l, kv, gr, m, kw, hr, h0, h1, h2, ⟨h3.is.more hk, h3.lv, h3.r, h3.size, h3.gen, h3.up⟩, ⟨h4.is.more hk, h4.lv, h4.r, h4.size, h4.gen, h4.up⟩⟩
theorem LX.grow {g : Nat} (hY : ∀ k, Y k → X k ∨ (w.heap.size ≤ k ∧ k < w'.heap.size)) : ∀ k, LX Y g kv k → LX X g kv k ∨ (w.heap.size ≤ k ∧ k < w'.heap.size) := by
  rintro k (h | h | h)
  · exact (hY k h).imp (fun h => .inl h) id
  · exact .inl (.inr (.inl h))
  · exact .inl (.inr (.inr h))
theorem Duo.wide {S : Nat → Prop} (h : Duo w X dg a ra A s b rb B t n k) (hk : Kept S w w') (hS : ∀ k, S k → X k) (hY : ∀ k, Y k → X k ∨ (w.heap.size ≤ k ∧ k < w'.heap.size)) : Duo w' Y dg a ra A s b rb B t n k := by
  obtain ⟨d, l, kv, gr, m, kw, hr, h0, h1, h2, h3, h4⟩ := h
  exact ⟨d, l, kv, gr, m, kw, hr, h0, h1.wide hk (fun k e => .inl (hS k e)) (LX.grow hY), h2.wide hk (fun k e => .inl (hS k e)) (LX.grow hY), h3, h4⟩
theorem Duo.more (h : Duo w X dg a ra A s b rb B t n k) (hb : Below w.heap.size w w') (hY : ∀ k, Y k → X k ∨ (w.heap.size ≤ k ∧ k < w'.heap.size)) : Duo w' Y dg a ra A s b rb B t n k := by
  obtain ⟨d, l, kv, gr, m, kw, hr, h0, h1, h2, h3, h4⟩ := h
  exact ⟨d, l, kv, gr, m, kw, hr, h0, h1.more hb (LX.grow hY), h2.more hb (LX.grow hY), h3, h4⟩
theorem Duo.below (h : Duo w X dg a ra A s b rb B t n k) (hb : Below w.heap.size w w') : Duo w' X dg a ra A s b rb B t n k := h.more hb (fun _ hk => .inl hk)
theorem Duo.ext (h : Duo w X dg a ra A s b rb B t n k) (hb : Below w.heap.size w w') : Duo w' (Ext X w.heap.size w'.heap.size) dg a ra A s b rb B t n k := h.more hb (fun _ hk => hk)
theorem Duo.grown {S : Nat → Prop} {lo : Nat} (h : Duo w (Ext X lo w.heap.size) dg a ra A s b rb B t n k) (hk : Kept S w w') (hS : ∀ k, S k → X k) : Duo w' (Ext X lo w'.heap.size) dg a ra A s b rb B t n k := by
  refine h.wide hk (fun k e => .inl (hS k e)) (fun k hy => ?_)
  rcases hy with hy | hy
  · exact .inl (.inl hy)
  · rcases Nat.lt_or_ge k w.heap.size with h3 | h3
    · exact .inl (.inr ⟨hy.1, h3⟩)
    · exact .inr ⟨h3, hy.2⟩
theorem duo_step (h0 : ra ≠ rb) (h2 : LnAt w (LX X a kv) dg d b m kw) (h4 : LvD d m hr rb n k B t) (hn : LiveD w' (LX X b kw) dg d' a ra n k' 1 true A' s) (ha : Apart d d' ra) (ho : Out (LX X b kw) w w') : Duo w' X dg a ra A' s b rb B t n k' := by
  obtain ⟨l', kv', gr', h5, h6⟩ := LvD.of hn
  exact ⟨d', l', kv', gr', m, kw, hr, h0, h5, h5.other h2.blk h2.kept (fun hx => h2.xg (.inl hx)) (fun k hk => ⟨fun hx => (h2.xk k hk).1 (.inl hx), (h2.xk k hk).2⟩) ho, h6, h4.apart ha (Ne.symm h0) h6.is.small⟩
theorem duo_append {q : Rc} {A2 : Option Addr} {c2 : Nat} (h : Duo w X dg a ra A s b rb B t n k) (hq : q.Ok) (hr : Rd w (.slice A2 q.ds.length c2) (u64s q.ds)) (hl : (frsR A).length + q.frame.length ≤ 14336) :
    Calls Try.prog 17 #[.pointer (some ⟨a, 0, none⟩), .agg #[.int .i64 (q.k : Int), .int .i64 (q.t : Int), .int .i64 (q.p : Int), .int .i64 (q.s : Int), .string q.b, .string q.a, .string q.i, .slice A2 q.ds.length c2]] w fun e w' => (∃ z : Int, e = .returned (.tuple #[.int .u64 z, .int .i64 0])) ∧ Duo w' X dg a ra (A ++ [q]) s b rb B t n k ∧ Out X w w' := by
  obtain ⟨d, l, kv, gr, m, kw, hr2, h0, h1, h2, h3, h4⟩ := h
  refine (ld_append (h3.live h1) hq hr hl).mono ?_
  rintro e w' ⟨rfl, h5, ho⟩
  exact ⟨⟨_, rfl⟩, duo_step h0 h2 h4 h5 (Apart.refl _ _) ho, ho.less (fun k hk => .inl hk)⟩
theorem duo_flush (h : Duo w X dg a ra A s b rb B t n k) (hk : k ≤ 400000) : Calls Try.prog 20 #[.pointer (some ⟨a, 0, none⟩)] w fun e w' => e = .returned (.int .i64 0) ∧ Duo w' X dg a ra A A.length b rb B t n (k + 301) ∧ Out X w w' := by
  obtain ⟨d, l, kv, gr, m, kw, hr2, h0, h1, h2, h3, h4⟩ := h
  refine (ld_flush (h3.live h1) hk).mono ?_
  rintro e w' ⟨d', rfl, ha, h5, ho⟩
  exact ⟨rfl, duo_step h0 h2 h4 h5 ha ho, ho.less (fun k hk => .inl hk)⟩
/-- New, beside a lane. -/
theorem duo_new (h : LiveD w X dg d a 0 n k 1 true A s) (hd : d.regs[1]? = some (Rg.new n)) (hk : k ≤ 400000) : Calls Try.prog 15 #[.pointer (some ⟨dg, 0, none⟩), .int .i64 1] w fun e w' => ∃ b, e = .returned (.tuple #[.pointer (some ⟨b, 0, none⟩), .int .i64 0]) ∧ Duo w' X dg a 0 A s b 1 [checkR] 1 n (k + 700) ∧ Out X w w' := by
  obtain ⟨l, kv, gr, h1, h2⟩ := LvD.of h
  refine (ld_new1 h1.many ⟨hd, h2.is.size, by rw [h2.size]; exact Rg.new_fit n, h2.is.small⟩ h2.size hk).mono ?_
  rintro e w' ⟨b, d', rfl, ha, h3, ho⟩
  obtain ⟨m, kw, hr, h4, h5⟩ := LvD.of h3
  exact ⟨b, rfl, ⟨d', l, kv, gr, m, kw, hr, by omega, h4.other h1.blk h1.kept h1.xg h1.xk ho, h4, h2.apart ha (by omega) h5.is.small, h5⟩, ho.less (fun k hk => .inl hk)⟩
/-- A crash, all being sure. -/
theorem duo_crash (h : Duo w X dg a ra A A.length b rb B B.length n k) (hk : k ≤ 400000) (mask : Nat) : Calls Try.prog 22 #[.pointer (some ⟨dg, 0, none⟩), .int .u64 (mask : Int)] w fun e w' => e = .returned (.tuple #[]) ∧ ∃ d', CrdD w' X dg d' ra n k 1 A A.length none ∧ CrdD w' X dg d' rb n k 1 B B.length none ∧ Out X w w' := by
  obtain ⟨d, l, kv, gr, m, kw, hr2, h0, h1, h2, h3, h4⟩ := h
  have hm : Many w X [(dg, d)] := h1.many.more (Below.refl _ _) (fun k hk => .inl (.inl (.inl hk)))
  refine (crash_many (i := 0) hm rfl (h3.is.small.more (by omega)) mask).mono ?_
  rintro e w' ⟨rfl, hm', ho⟩
  have c1 := (h3.live h1).crashed hm'
  have c2 := (h4.live h2).crashed hm'
  rw [List.take_length] at c1 c2
  exact ⟨rfl, _, c1, c2, ho⟩
/-- Open, of the first one. -/
theorem duo_open (h1 : CrdD w X dg d 0 n k 1 A A.length none) (h2 : CrdD w X dg d 1 n k 1 B B.length none) (hk : k ≤ 400000) : Calls Try.prog 23 #[.pointer (some ⟨dg, 0, none⟩), .int .i64 0] w fun e w' => ∃ (g : Nat) (v : Value) (E : Nat → Prop) (d' : Ds), e = .returned (.tuple #[.pointer (some ⟨g, 0, none⟩), v, .int .i64 0]) ∧
    CrdD w' (fun k => X k ∨ E k) dg d' 1 n (k + 700) 1 B B.length none ∧ EntsAt w' E v 1 A ∧ Out X w w' := by
  refine (ld_open0 h1 hk).mono ?_
  rintro e w' ⟨g, v, E, d', rfl, ha, hv, he, _, ho⟩
  obtain ⟨l, kv, gr, h3, h4⟩ := LvD.of hv
  obtain ⟨gb, _, hd, hr, hup, hdn, hok, hsl, hcr⟩ := h2
  exact ⟨g, v, E, d', rfl, ⟨gb, h3.many.more (Below.refl _ _) (fun k hk => .inl (.inl hk)), ⟨(ha.2 1 (by omega)).trans hd.at_, by rw [ha.1]; exact hd.size, by rw [ha.1]; exact hd.fit, h4.is.small⟩, hr, hup, ha.1.trans hdn, hok, hsl, hcr⟩, he, ho⟩
end
theorem starts_refl (al : List Rc) : startsB al al = true := startsB_iff.2 ⟨Nat.le_refl _, (List.take_length ..).symm⟩
/-- Two rows of records gathered, none in the other one's block. -/
def Gath2 (w : World) (X : Nat → Prop) (va : Value) (ea : List Re) (vb : Value) (eb : List Re) : Prop :=
  Gath w (fun k => X k ∧ vb.ownBlock ≠ some k) va ea ∧ Gath w (fun k => X k ∧ va.ownBlock ≠ some k) vb eb
section
variable {w w' : World} {X Y : Nat → Prop} {va vb va' : Value} {ea eb ea' : List Re}
theorem Gath2.symm (h : Gath2 w X va ea vb eb) : Gath2 w X vb eb va ea := ⟨h.2, h.1⟩
theorem Gath2.nil (w : World) (X : Nat → Prop) : Gath2 w X (.slice none 0 0) [] (.slice none 0 0) [] := ⟨Gath.nil _ _, Gath.nil _ _⟩
theorem Gath2.out (h : Gath2 w X va ea vb eb) (ho : Out X w w') : Gath2 w' X va ea vb eb := ⟨h.1.out (ho.less (fun _ hk => hk.1)), h.2.out (ho.less (fun _ hk => hk.1))⟩
theorem Gath2.below (h : Gath2 w X va ea vb eb) (hb : Below w.heap.size w w') : Gath2 w' X va ea vb eb := ⟨h.1.below hb, h.2.below hb⟩
theorem Gath2.sub (h : Gath2 w X va ea vb eb) (hY : ∀ k, X k → Y k) : Gath2 w Y va ea vb eb := ⟨h.1.sub (fun k hk => ⟨hY k hk.1, hk.2⟩), h.2.sub (fun k hk => ⟨hY k hk.1, hk.2⟩)⟩
theorem Gath2.one (h : Gath2 w X va ea vb eb) : Gath w X va ea := h.1.sub (fun _ hk => hk.1)
theorem Gath2.two (h : Gath2 w X va ea vb eb) : Gath w X vb eb := h.2.sub (fun _ hk => hk.1)
theorem Gath2.form (h : Gath2 w X va ea vb eb) : (∃ A c, va = .slice A ea.length c) ∧ ∃ A c, vb = .slice A eb.length c := ⟨h.1.form, h.2.form⟩
theorem Gath2.grow {lo : Nat} (h : Gath2 w X va ea vb eb) (hg : Gath w' (Ext (fun k => X k ∧ vb.ownBlock ≠ some k) lo w'.heap.size) va' ea') (hgr : w.grownBy w' va.ownBlock) (hov : va'.ownBlock = va.ownBlock ∨ va'.ownBlock = some w.heap.size) (hX : ∀ k, X k → k < lo) (hlo : lo ≤ w.heap.size) :
    Gath2 w' (Ext X lo w'.heap.size) va' ea' vb eb := by
  refine ⟨hg.sub ?_, h.2.keep (fun k hk hx => hgr.block k hk (fun e => hx.2 e.symm)) hgr.size ?_⟩
  · rintro k (hk | hk)
    · exact ⟨.inl hk.1, hk.2⟩
    · refine ⟨.inr hk, fun e => ?_⟩
      have := hX k (h.2.inX k e).1
      omega
  · intro k hk
    refine ⟨.inl hk.1, ?_⟩
    rcases hov with e | e
    · rw [e]; exact hk.2
    · rw [e]
      intro e2
      injection e2 with e2
      have := hX k hk.1
      omega
end
/-- One more record in the one row, the other one beside it. -/
theorem wpList_gather2 {ops : Array Oper} {rest : List Oper} {o : Oper} {a : Act} {Q : Exit → Act → World → Prop} {w : World} (hgd : o.guard = none) (s y : Operand)
    (ho : o.op = .call { callee := .builtin .append, args := #[s, y], argTypes := #[34, 34] }) {X : Nat → Prop} {v vb : Value} {es eb : List Re} (hs : a.eval s = v) (hg : Gath2 w X v es vb eb) (hlen : es.length ≤ 100000)
    {b c lo m c2 : Nat} {A : Option Addr} {r : Rc} (hy : a.eval y = .slice (some ⟨b, 0, none⟩) 1 c) (hb : Blk w b 33 #[.int .i64 (r.k : Int), .int .i64 (r.t : Int), .int .i64 (r.p : Int), .int .i64 (r.s : Int), .string r.b, .string r.a, .string r.i, .slice A m c2])
    (hlo : lo ≤ w.heap.size) (hX : ∀ k, X k → k < lo) (hD : RIn w (fun k => lo ≤ k) (.slice A m c2) (u64s r.ds))
    (h : ∀ v' w', Gath2 w' (Ext X lo w'.heap.size) v' (es ++ [(r, .slice A m c2)]) vb eb → Kept (fun k => v.ownBlock = some k) w w' → (v'.ownBlock = v.ownBlock ∨ v'.ownBlock = some w.heap.size) → wpList Try.prog ops Q rest (a.put o.dst v') w') : wpList Try.prog ops Q (o :: rest) a w := by
  refine wpList_gather hgd s y ho hs hg.1 hlen hy hb hlo (fun k hk => hX k hk.1) hD ?_
  intro v' w' h1 h2 h3
  exact h v' w' (hg.grow h1 h2 h3 hX hlo) ((kept_grown h2).mono (fun k e => .inl e)) h3
/-- append(check[:1:1], all...), check in a block of its own that stays. -/
theorem joined_at {w : World} {X : Nat → Prop} {v : Value} {es : List Re} {g : Nat} (h : Gath w X v es) (hnil : es = [] → v = .slice none 0 0) (hl : es.length ≤ 100000) (hc : Blk w g 33 #[.int .i64 1, .int .i64 0, .int .i64 0, .int .i64 0, .string ⟨#[]⟩, .string ⟨#[]⟩, .string ⟨#[]⟩, .slice none 0 0]) :
    ∃ v' w', (Builtin.append_ #[34, 34] 34 #[.slice (some ⟨g, 0, none⟩) 1 1, v]).run Try.prog w = .ok v' w' ∧ RecsAt w' (fun _ => True) v' (checkR :: es.map (·.1)) ∧ Below w.heap.size w w' := by
  have own1 : w.ownsRow 0 33 8 (.slice (some ⟨g, 0, none⟩) 1 1) 1 (rcell (checkR, .slice none 0 0)) :=
    ⟨rfl, .inr ⟨g, 1, #[.int .i64 1, .int .i64 0, .int .i64 0, .int .i64 0, .string ⟨#[]⟩, .string ⟨#[]⟩, .string ⟨#[]⟩, .slice none 0 0], rfl, Nat.zero_le _, hc, Nat.le_refl _, by simp only [maxLen]; omega, rfl, rfl⟩⟩
  have G1 : Gath w (fun _ => True) (.slice (some ⟨g, 0, none⟩) 1 1) [(checkR, .slice none 0 0)] := ⟨own1, fun _ _ => trivial, fun e he => by obtain rfl := List.mem_singleton.1 he; exact rin_nil _ _ _ _⟩
  obtain ⟨i, hi⟩ : ∃ i, Try.prog.info? 33 = some i := by
    have := infoRec3
    cases hq : Try.prog.info? 33 with
    | none => rw [hq] at this; cases this
    | some i => exact ⟨i, rfl⟩
  have hinf := infoRec3
  rw [hi] at hinf
  simp only [Option.map_some, Option.some.injEq, Prod.mk.injEq] at hinf
  obtain ⟨hz, hs, hby⟩ := hinf
  rcases h.own.2 with ⟨rfl, h0⟩ | ⟨gb, cap, cur, rfl, hg, hh, hn, hcap, hsz, htake⟩
  · obtain rfl : es = [] := List.eq_nil_of_length_eq_zero h0
    exact ⟨_, _, run_append_owned_none (P := Try.prog) (w := w) 0 34 34 33 i 8 Try.underlying34 hi _ 1 _ own1, G1.recs, Below.refl _ _⟩
  · rcases Nat.eq_zero_or_pos es.length with h0 | hpos
    · obtain rfl : es = [] := List.eq_nil_of_length_eq_zero h0
      cases hnil rfl
    · obtain ⟨v', w', hrun, h2, h3⟩ := run_append_arg_grows (P := Try.prog) w 34 34 33 i _ 8 104 Try.underlying34 hi hz hs hby rfl (by omega) ⟨g, 0, none⟩ 1 1 (rcell (checkR, .slice none 0 0)) rfl (fun j u hu => by rw [addr_add, Nat.zero_add]; exact hc.cell j u (by rw [← Array.getElem?_toList]; exact hu))
        ⟨gb, 0, none⟩ es.length cap (es.flatMap rcell) h.own.1
        (fun j u hu => by
          rw [addr_add, Nat.zero_add]
          unfold World.cell?
          simp only [hh]
          rw [← htake, List.getElem?_take] at hu
          split at hu
          · simpa using hu
          · cases hu) (by omega) (by simp only [maxLen]; omega) (by omega)
      have hb : Below w.heap.size w w' := (kept_grown h3).below (Nat.le_refl _) (fun k e => by cases e)
      refine ⟨v', w', hrun, ?_, hb⟩
      have hG : Gath w' (fun _ => True) v' ((checkR, .slice none 0 0) :: es) := by
        refine ⟨?_, fun _ _ => trivial, fun e he => ?_⟩
        · obtain ⟨ha, hc⟩ := h2
          rw [Nat.add_comm] at ha hc
          refine ⟨by rw [List.flatMap_cons]; exact ha, hc.imp id ?_⟩
          rintro ⟨g', cap', cur', e1, _, e2⟩
          exact ⟨g', cap', cur', e1, Nat.zero_le _, e2⟩
        · rcases List.mem_cons.1 he with rfl | he
          · exact rin_nil _ _ _ _
          · refine (h.nums e he).keep (fun p hp _ => hb.cell hp) hb.size (fun k hk _ => ⟨trivial, fun e => ?_⟩)
            have := (World.ownsRow.lt h2 k e).1
            omega
      exact hG.recs
end Go.Proofs.Ytlmoiepbnnfebaa
