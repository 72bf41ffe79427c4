/-
  Small values and what they stand for; small heaps and worlds. No statement.
-/
import Derived.Test.YtlncjakfckdjcaaGreatDoorEvA
import Derived.Deep.MidRow
import Derived.Deep.AppendSrc
import Derived.Deep.Upon
import Derived.CallsIn
import Derived.RangeFuncIn
import Derived.OrdersIn
import Derived.KernelRfl
set_option linter.all false
namespace Go.Ev
open Go
/-! ## tries and lists -/
theorem gP_get {α : Type} : ∀ (f k : Nat), k < f → ∀ t : Tr α, gP (pathF f k) t = t.get0 k
  | 0, k, h, _ => absurd h (Nat.not_lt_zero k)
  | f + 1, 0, _, t => by cases t <;> rfl
  | f + 1, k + 1, h, t => by
    have ih := gP_get (α := α) f (k / 2) (by omega)
    show gP (Bool.rec (motive := fun _ => Pth) (.r (pathF f (k / 2))) (.l (pathF f (k / 2))) (Nat.beq (k % 2) 0)) t = _
    cases t with
    | e => cases Nat.beq (k % 2) 0 <;> rfl
    | n l v r =>
      simp only [Tr.get0]
      cases Nat.beq (k % 2) 0
      · exact ih r
      · exact ih l
theorem pP_put {α : Type} (v : Option α) : ∀ (f k : Nat), k < f → ∀ t : Tr α, pP v (pathF f k) t = Tr.put0 v f t k
  | 0, k, h, _ => absurd h (Nat.not_lt_zero k)
  | f + 1, 0, _, t => by cases t <;> rfl
  | f + 1, k + 1, h, t => by
    have ih := pP_put v f (k / 2) (by omega)
    show pP v (Bool.rec (motive := fun _ => Pth) (.r (pathF f (k / 2))) (.l (pathF f (k / 2))) (Nat.beq (k % 2) 0)) t = _
    cases t with
    | e =>
      simp only [Tr.put0]
      cases Nat.beq (k % 2) 0
      · exact congrArg (Tr.n .e none) (ih .e)
      · exact congrArg (fun x => Tr.n x none .e) (ih .e)
    | n l x r =>
      simp only [Tr.put0]
      cases Nat.beq (k % 2) 0
      · exact congrArg (Tr.n l x) (ih r)
      · exact congrArg (fun y => Tr.n y x r) (ih l)
theorem get_put {α : Type} (v : Option α) : ∀ (f : Nat) (t : Tr α) (k j : Nat), k < f → (Tr.put0 v f t k).get0 j = if j = k then v else t.get0 j := by
  intro f
  induction f with
  | zero => intro t k j h; omega
  | succ f ih =>
    intro t k j h
    have key : ∀ (a c : Nat), decide (a % 2 = 0) = decide (c % 2 = 0) → (a / 2 = c / 2 ↔ a = c) := fun a c hac => by
      have h3 : a % 2 = 0 ↔ c % 2 = 0 := by
        exact ⟨fun h => of_decide_eq_true (hac ▸ decide_eq_true h), fun h => of_decide_eq_true (hac.symm ▸ decide_eq_true h)⟩
      omega
    have kb : ∀ a : Nat, Nat.beq (a % 2) 0 = decide (a % 2 = 0) := fun a => by cases h : a % 2 <;> simp [Nat.beq]
    cases t with
    | e =>
      cases k with
      | zero =>
        cases j with
        | zero => simp [Tr.put0, Tr.get0]
        | succ j => simp [Tr.put0, Tr.get0]
      | succ k =>
        simp only [Tr.put0, kb]
        cases hk : decide (k % 2 = 0) <;> simp only [cond_true, cond_false] <;> cases j with
        | zero => simp [Tr.get0]
        | succ j =>
          simp only [Tr.get0, kb]
          cases hj : decide (j % 2 = 0) <;> simp only [cond_true, cond_false, Nat.add_right_cancel_iff]
          all_goals first
            | (rw [ih _ _ _ (by omega)]; simp only [key j k (by rw [hj, hk])]; simp [Tr.get0])
            | (have hne : j ≠ k := fun e => by rw [e, hk] at hj; cases hj
               simp [hne, Tr.get0])
    | n l x r =>
      cases k with
      | zero =>
        cases j with
        | zero => simp [Tr.put0, Tr.get0]
        | succ j => simp [Tr.put0, Tr.get0]
      | succ k =>
        simp only [Tr.put0, kb]
        cases hk : decide (k % 2 = 0) <;> simp only [cond_true, cond_false] <;> cases j with
        | zero => simp [Tr.get0]
        | succ j =>
          simp only [Tr.get0, kb]
          cases hj : decide (j % 2 = 0) <;> simp only [cond_true, cond_false, Nat.add_right_cancel_iff]
          all_goals first
            | (rw [ih _ _ _ (by omega)]; simp only [key j k (by rw [hj, hk])])
            | (have hne : j ≠ k := fun e => by rw [e, hk] at hj; cases hj
               simp [hne])
theorem get_set {α : Type} (v : Option α) (t : Tr α) (k j : Nat) : (t.set k v).get j = if j = k then v else t.get j := by
  unfold Tr.set Tr.get path
  have e1 := pP_put v (k + 1) k (by omega) t
  have e2 : ∀ t : Tr α, gP (pathF (Nat.succ j) j) t = t.get0 j := gP_get (j + 1) j (by omega)
  rw [e2, e2]
  show (pP v (pathF (k + 1) k) t).get0 j = _
  rw [e1, get_put v (k + 1) t k j (by omega)]
theorem get_e {α : Type} (j : Nat) : (Tr.e : Tr α).get j = none := by
  unfold Tr.get path
  have e2 := gP_get (α := α) (j + 1) j (by omega) .e
  exact e2
theorem nth_eq {α : Type} : ∀ (l : List α) (k : Nat), nth l k = l[k]?
  | [], _ => by simp [nth]
  | x :: l, 0 => by simp [nth]
  | x :: l, k + 1 => by simp [nth, nth_eq l k]
theorem len_eq {α : Type} : ∀ (l : List α) (n : Nat), len l n = l.length + n
  | [], n => by simp [len]
  | x :: l, n => by simp [len, len_eq l]; omega
theorem take_eq {α : Type} : ∀ (n : Nat) (l : List α), take n l = l.take n
  | 0, l => by simp [take]
  | n + 1, [] => by simp [take]
  | n + 1, x :: l => by simp [take, take_eq n l]
theorem drop_eq {α : Type} : ∀ (n : Nat) (l : List α), drop n l = l.drop n
  | 0, l => by simp [drop]
  | n + 1, [] => by simp [drop]
  | n + 1, x :: l => by simp [drop, drop_eq n l]
theorem app_eq {α : Type} : ∀ (l m : List α), app l m = l ++ m
  | [], m => rfl
  | x :: l, m => by simp [app, app_eq l m]
theorem rep_len {α : Type} (l : List α) : ∀ n, (rep l n).length = n * l.length
  | 0 => by simp [rep]
  | n + 1 => by simp [rep, app_eq, rep_len l n, Nat.succ_mul]; omega
/-! ## what small values stand for -/
structure E where
  b : Nat
  c : Nat
  s : Nat
abbrev Env := Nat → Option E
mutual
inductive R (ε : Env) : SV → Value → Prop
  | b (x : Bool) : R ε (.b x) (.bool x)
  | i (k : IntKind) (n : Int) : R ε (.i k n) (.int k n)
  | pn : R ε (.p none) (.pointer none)
  | p {n o : Nat} {e : E} (h : ε n = some e) : R ε (.p (some (n, o))) (.pointer (some ⟨e.b, o, none⟩))
  | sn (l c : Nat) : R ε (.s none l c) (.slice none l c)
  | s {n o : Nat} {e : E} (l c : Nat) (h : ε n = some e) : R ε (.s (some (n, o)) l c) (.slice (some ⟨e.b, o, none⟩) l c)
  | o {n i l : Nat} {e : E} (h : ε n = some e) : R ε (.o n i l) (.slice (some ⟨e.b, i * e.s, none⟩) l (e.c - i))
  | z (a : Option Addr) (c : Nat) : R ε .z (.slice a 0 c)
  | m : R ε .m (.map none)
  | f {fn : Nat} {fs cs : List SV} {fs' cs' : List Value} (h : Rs ε fs fs') (h' : Rs ε cs cs') : R ε (.f fn fs cs) (.func (.func fn) fs'.toArray cs'.toArray)
  | y {l : Nat} {e : E} (h : ε l = some e) : R ε (.y l) (.func (.yield e.b) #[] #[])
  | nf : R ε .nf .nilFunc
  | a {l : List SV} {l' : List Value} (h : Rs ε l l') (h1 : ∀ x ∈ l', x.oneCell' = true) : R ε (.a l) (.agg l'.toArray)
  | t {l : List SV} {l' : List Value} (h : Rs ε l l') : R ε (.t l) (.tuple l'.toArray)
inductive Rs (ε : Env) : List SV → List Value → Prop
  | nil : Rs ε [] []
  | cons {x : SV} {y : Value} {l : List SV} {m : List Value} (h : R ε x y) (h' : Rs ε l m) : Rs ε (x :: l) (y :: m)
end
def Ext (ε ε' : Env) : Prop := ∀ n e, ε n = some e → ε' n = some e
theorem Ext.refl (ε : Env) : Ext ε ε := fun _ _ h => h
theorem Ext.trans {a b c : Env} (h : Ext a b) (h' : Ext b c) : Ext a c := fun n e he => h' n e (h n e he)
mutual
theorem R.mono {ε ε' : Env} (hx : Ext ε ε') : ∀ {s : SV} {v : Value}, R ε s v → R ε' s v
  | _, _, .b x => .b x
  | _, _, .i k n => .i k n
  | _, _, .pn => .pn
  | _, _, .p h => .p (hx _ _ h)
  | _, _, .sn l c => .sn l c
  | _, _, .s l c h => .s l c (hx _ _ h)
  | _, _, .o h => .o (hx _ _ h)
  | _, _, .z a c => .z a c
  | _, _, .m => .m
  | _, _, .f h h' => .f (Rs.mono hx h) (Rs.mono hx h')
  | _, _, .y h => .y (hx _ _ h)
  | _, _, .nf => .nf
  | _, _, .a h h1 => .a (Rs.mono hx h) h1
  | _, _, .t h => .t (Rs.mono hx h)
theorem Rs.mono {ε ε' : Env} (hx : Ext ε ε') : ∀ {l : List SV} {m : List Value}, Rs ε l m → Rs ε' l m
  | _, _, .nil => .nil
  | _, _, .cons h h' => .cons (R.mono hx h) (Rs.mono hx h')
end
theorem Rs.length {ε : Env} : ∀ {l : List SV} {m : List Value}, Rs ε l m → l.length = m.length
  | _, _, .nil => rfl
  | _, _, .cons _ h => by simp [Rs.length h]
theorem Rs.append {ε : Env} : ∀ {l l2 : List SV} {m m2 : List Value}, Rs ε l m → Rs ε l2 m2 → Rs ε (l ++ l2) (m ++ m2)
  | _, _, _, _, .nil, h => h
  | _, _, _, _, .cons h h', h2 => .cons h (h'.append h2)
theorem Rs.take {ε : Env} : ∀ (n : Nat) {l : List SV} {m : List Value}, Rs ε l m → Rs ε (l.take n) (m.take n)
  | 0, _, _, _ => by simp; exact .nil
  | n + 1, _, _, .nil => by simp; exact .nil
  | n + 1, _, _, .cons h h' => by simp; exact .cons h (h'.take n)
theorem Rs.drop {ε : Env} : ∀ (n : Nat) {l : List SV} {m : List Value}, Rs ε l m → Rs ε (l.drop n) (m.drop n)
  | 0, _, _, h => by simpa using h
  | n + 1, _, _, .nil => by simp; exact .nil
  | n + 1, _, _, .cons h h' => by simpa using h'.drop n
theorem Rs.get {ε : Env} : ∀ {l : List SV} {m : List Value} (k : Nat) {x : SV}, Rs ε l m → l[k]? = some x → ∃ y, m[k]? = some y ∧ R ε x y
  | _, _, _, _, .nil, h => by simp at h
  | _, _, 0, _, .cons h h', e => by simp at e; subst e; exact ⟨_, by simp, h⟩
  | _, _, k + 1, _, .cons h h', e => by simp at e; obtain ⟨y, hy, hr⟩ := h'.get k e; exact ⟨y, by simpa using hy, hr⟩
theorem R.one {ε : Env} {s : SV} {v : Value} (h : R ε s v) : sc s = v.oneCell' := by
  cases h <;> rfl
/-- the cells of a value -/
theorem R.cells {ε : Env} {s : SV} {v : Value} (h : R ε s v) : Rs ε (cellsOf s) v.cells.toList := by
  cases h with
  | a h h1 => simpa [cellsOf, Value.cells] using h
  | t h => exact .cons (.t h) .nil
  | f h h' => exact .cons (.f h h') .nil
  | _ => exact .cons (by first | (constructor; assumption) | constructor) .nil
theorem R.cells_one {ε : Env} {s : SV} {v : Value} (h : R ε s v) (hs : ∀ l, s ≠ .t l) : ∀ x ∈ v.cells.toList, x.oneCell' = true := by
  cases h with
  | a h h1 => simpa [Value.cells] using h1
  | t h => exact absurd rfl (hs _)
  | _ => intro x hx; simp [Value.cells] at hx; subst hx; rfl
/-! ## small heaps -/
def Cs (ε : Env) (m : Nat) (cs : Tr SV) (arr : Array Value) : Prop := ∀ k, k < m → ∃ v x, cs.get k = some v ∧ arr[k]? = some x ∧ R ε v x ∧ x.oneCell' = true
/-- a frame's temporaries -/
def FR (ε : Env) (N : Nat) (t : Tr SV) (tmps : Array Value) : Prop := tmps.size = N ∧ ∀ i, R ε (gt t i) (tmps.getD i undef)
def Ob (ε : Env) : SO → E → World → Prop
  | .c ty m cs, e, w => ∃ arr, w.heap[e.b]? = some (.cells arr ty (0, 0)) ∧ Cs ε m cs arr ∧ arr.size = m
  | .w ty s m cs, e, w => ∃ arr, w.heap[e.b]? = some (.cells arr ty (0, 0)) ∧ Cs ε m cs arr ∧ arr.size = e.c * s ∧ m ≤ arr.size ∧ e.s = s
  | .l st pend N t params asg body df, e, w => ∃ fn tmps ed, w.heap[e.b]? = some (.loop { state := st, pending := pend, fn := fn, tmps := tmps, params := params.toArray, assign := asg, body := body, defers := ed }) ∧ FR ε N t tmps ∧ ∃ f, ε df = some f ∧ f.b = ed
  | .d tk, e, w => w.heap[e.b]? = some (.deferred (if tk then none else some []))
  | .g m cs, e, w => ∃ arr ty fz, w.heap[e.b]? = some (.cells arr ty fz) ∧ Cs ε m cs arr ∧ arr.size = m
structure Rep (G : Nat) (ε : Env) (h : H) (w : World) : Prop where
  fresh : ∀ n, h.nx ≤ n → ε n = none
  obj : ∀ n o, h.get n = some o → ∃ e, ε n = some e ∧ Ob ε o e w
  inj : ∀ n m o o' e e', h.get n = some o → h.get m = some o' → ε n = some e → ε m = some e' → e.b = e'.b → n = m
  gl : ∀ g, g < G → ∃ e, ε g = some e ∧ e.b = g
theorem Cs.mono {ε ε' : Env} (hx : Ext ε ε') {m : Nat} {cs : Tr SV} {arr : Array Value} (h : Cs ε m cs arr) : Cs ε' m cs arr :=
  fun k hk => let ⟨v, x, a, b, c, d⟩ := h k hk; ⟨v, x, a, b, c.mono hx, d⟩
theorem FR.mono {ε ε' : Env} (hx : Ext ε ε') {N : Nat} {t : Tr SV} {tmps : Array Value} (h : FR ε N t tmps) : FR ε' N t tmps :=
  ⟨h.1, fun i => (h.2 i).mono hx⟩
theorem Ob.mono {ε ε' : Env} (hx : Ext ε ε') {o : SO} {e : E} {w : World} (h : Ob ε o e w) : Ob ε' o e w := by
  cases o with
  | c ty m cs => obtain ⟨arr, h1, h2, h3⟩ := h; exact ⟨arr, h1, h2.mono hx, h3⟩
  | w ty s m cs => obtain ⟨arr, h1, h2, h3⟩ := h; exact ⟨arr, h1, h2.mono hx, h3⟩
  | l st pend N t params asg body df => obtain ⟨fn, tmps, ed, h1, h2, f, h3, h4⟩ := h; exact ⟨fn, tmps, ed, h1, h2.mono hx, f, hx _ _ h3, h4⟩
  | d tk => exact h
  | g m cs => obtain ⟨arr, ty, fz, h1, h2, h3⟩ := h; exact ⟨arr, ty, fz, h1, h2.mono hx, h3⟩
theorem Ob.lt {ε : Env} {o : SO} {e : E} {w : World} (h : Ob ε o e w) : e.b < w.heap.size := by
  cases o with
  | c ty m cs => obtain ⟨arr, h1, _⟩ := h; exact (Array.getElem?_eq_some_iff.1 h1).1
  | w ty s m cs => obtain ⟨arr, h1, _⟩ := h; exact (Array.getElem?_eq_some_iff.1 h1).1
  | l st pend N t params asg body df => obtain ⟨fn, tmps, ed, h1, _⟩ := h; exact (Array.getElem?_eq_some_iff.1 h1).1
  | d tk => exact (Array.getElem?_eq_some_iff.1 h).1
  | g m cs => obtain ⟨arr, ty, fz, h1, _⟩ := h; exact (Array.getElem?_eq_some_iff.1 h1).1
/-- where the block is as it was, so is the object -/
theorem Ob.keep {ε : Env} {o : SO} {e : E} {w w' : World} (h : Ob ε o e w) (hb : w'.heap[e.b]? = w.heap[e.b]?) : Ob ε o e w' := by
  cases o with
  | c ty m cs => obtain ⟨arr, h1, h2⟩ := h; exact ⟨arr, hb.trans h1, h2⟩
  | w ty s m cs => obtain ⟨arr, h1, h2⟩ := h; exact ⟨arr, hb.trans h1, h2⟩
  | l st pend N t params asg body df => obtain ⟨fn, tmps, ed, h1, h2⟩ := h; exact ⟨fn, tmps, ed, hb.trans h1, h2⟩
  | d tk => exact hb.trans h
  | g m cs => obtain ⟨arr, ty, fz, h1, h2⟩ := h; exact ⟨arr, ty, fz, hb.trans h1, h2⟩
/-- the blocks of a small heap -/
def Img (h : H) (ε : Env) (b : Nat) : Prop := ∃ n o e, h.get n = some o ∧ ε n = some e ∧ e.b = b
/-- beside memory and draws, two worlds are one -/
def SameW (w w' : World) : Prop := w'.os = w.os ∧ w'.tape = w.tape ∧ w'.output = w.output
theorem SameW.refl (w : World) : SameW w w := ⟨rfl, rfl, rfl⟩
theorem SameW.trans {a b c : World} (h : SameW a b) (k : SameW b c) : SameW a c := ⟨k.1.trans h.1, k.2.1.trans h.2.1, k.2.2.trans h.2.2⟩
/-- what is kept on the way from one heap and world to others -/
structure KpA (m0 : Nat) (h : H) (ε : Env) (w : World) (h' : H) (ε' : Env) (w' : World) : Prop where
  ext : Ext ε ε'
  size : w.heap.size ≤ w'.heap.size
  keep : ∀ b, b < w.heap.size → ¬ Img h ε b → w'.heap[b]? = w.heap[b]?
  img : ∀ b, Img h' ε' b → Img h ε b ∨ w.heap.size ≤ b
  nx : h.nx ≤ h'.nx
  old : ∀ n, n < h.nx → n ≠ m0 → ε' n = ε n
  same : SameW w w'
  ro : ∀ n m cs, h.get n = some (.g m cs) → h'.get n = some (.g m cs) ∧ ∀ e, ε n = some e → w'.heap[e.b]? = w.heap[e.b]?
abbrev Kp (h : H) := KpA h.nx h
theorem KpA.any {h h' : H} {ε ε' : Env} {w w' : World} (k : Kp h ε w h' ε' w') (m : Nat) : KpA m h ε w h' ε' w' := ⟨k.ext, k.size, k.keep, k.img, k.nx, fun n hn _ => k.old n hn (by omega), k.same, k.ro⟩
theorem KpA.kp {m : Nat} {h h' : H} {ε ε' : Env} {w w' : World} (k : KpA m h ε w h' ε' w') (hm : h.nx ≤ m) : Kp h ε w h' ε' w' := ⟨k.ext, k.size, k.keep, k.img, k.nx, fun n hn _ => k.old n hn (by omega), k.same, k.ro⟩
theorem KpA.refl (h : H) (ε : Env) (w : World) : Kp h ε w h ε w := ⟨Ext.refl ε, Nat.le_refl _, fun _ _ _ => rfl, fun _ h => .inl h, Nat.le_refl _, fun _ _ _ => rfl, SameW.refl w, fun _ _ _ h => ⟨h, fun _ _ => rfl⟩⟩
theorem KpA.trans {h h1 h2 : H} {ε ε1 ε2 : Env} {w w1 w2 : World} (a : Kp h ε w h1 ε1 w1) (b : Kp h1 ε1 w1 h2 ε2 w2) : Kp h ε w h2 ε2 w2 where
  ext := a.ext.trans b.ext
  size := Nat.le_trans a.size b.size
  keep := fun k hk hi => by
    rw [b.keep k (Nat.lt_of_lt_of_le hk a.size) (fun hi' => (a.img k hi').elim hi (fun h => absurd hk (by omega))), a.keep k hk hi]
  img := fun k hk => by
    rcases b.img k hk with h' | h'
    · exact a.img k h'
    · exact .inr (Nat.le_trans a.size h')
  nx := Nat.le_trans a.nx b.nx
  old := fun n hn hm => (b.old n (Nat.lt_of_lt_of_le hn a.nx) (by have := a.nx; omega)).trans (a.old n hn hm)
  same := a.same.trans b.same
  ro := fun n m cs hg => ⟨(b.ro n m cs (a.ro n m cs hg).1).1, fun e he => ((b.ro n m cs (a.ro n m cs hg).1).2 e (a.ext _ _ he)).trans ((a.ro n m cs hg).2 e he)⟩
theorem KpA.draw {h h' : H} {ε ε' : Env} {w w' : World} (a : Kp h ε w h' ε' w') : Kp h ε w h' ε' { w' with drawn := w'.drawn + 1 } :=
  ⟨a.ext, a.size, a.keep, a.img, a.nx, a.old, a.same, a.ro⟩
theorem Rep.heapEq {G : Nat} {ε : Env} {h : H} {w w' : World} (r : Rep G ε h w) (he : w'.heap = w.heap) : Rep G ε h w' :=
  ⟨r.fresh, fun n o hn => let ⟨e, a, b⟩ := r.obj n o hn; ⟨e, a, b.keep (by rw [he])⟩, r.inj, r.gl⟩
end Go.Ev
