/-
  Drawn regions: the evaluator; what an operation hangs on. No statement.
-/
import Derived.Test.YtlncjakfckdjcaaGreatDoorEvG
set_option linter.all false
set_option maxRecDepth 100000
set_option maxHeartbeats 2000000
namespace Go.Ev
open Go
noncomputable section
def isAlc : Op → Bool
  | .alloc _ => true
  | .box .. => true
  | .buildSlice .. => true
  | .makeSlice .. => true
  | _ => false
def preds (o : Oper) : List Nat := (o.after.toList.filter (Region.binds .any)).map (·.on)
def maskOf (ms : List Nat) : List Nat → Nat
  | [] => 0
  | p :: l => Nat.lor (Nat.lor (2 ^ p) ((nth ms p).getD 0)) (maskOf ms l)
def ef (o : Oper) : Bool := !(quiet o.op) && !(isAlc o.op)
/-- of two operations, the earlier one not bound to be ahead: apart, and no effect where one makes or writes -/
def statJ (A : Array Oper) (m : Nat) (oj : Oper) : List Oper → Nat → Bool
  | [], _ => true
  | o :: l, i => (Nat.testBit m i || (o.apart A oj && (!(ef oj) || quiet o.op))) && statJ A m oj l (i + 1)
def stat (A : Array Oper) : List Oper → List Oper → List Nat → Bool
  | [], _, _ => true
  | o :: l, pre, ms => (preds o).all (fun p => Nat.blt p (len pre 0)) && statJ A (maskOf ms (preds o)) o pre 0 && stat A l (app pre [o]) (app ms [maskOf ms (preds o)])
def masks : List Oper → List Nat → List Nat
  | [], ms => ms
  | o :: l, ms => masks l (app ms [maskOf ms (preds o)])
def aeq : Option (Nat × Nat) → Option (Nat × Nat) → Bool
  | none, none => true
  | some a, some b => Nat.beq a.1 b.1 && Nat.beq a.2 b.2
  | _, _ => false
theorem aeq_eq {a b : Option (Nat × Nat)} (e : aeq a b = true) : a = b := by
  cases a <;> cases b <;> simp only [aeq, Bool.false_eq_true] at e
  · rfl
  · rename_i u v
    rw [Bool.and_eq_true] at e
    obtain ⟨u1, u2⟩ := u
    obtain ⟨v1, v2⟩ := v
    have h1 : u1 = v1 := bqi.1 e.1
    have h2 : u2 = v2 := bqi.1 e.2
    rw [h1, h2]
mutual
def sveq : SV → SV → Bool
  | .b x, .b y => x == y
  | .i k n, .i k' n' => keq k k' && ieq n n'
  | .p a, .p b => aeq a b
  | .s a l c, .s b l' c' => aeq a b && Nat.beq l l' && Nat.beq c c'
  | .o a b c, .o a' b' c' => Nat.beq a a' && Nat.beq b b' && Nat.beq c c'
  | .z, .z => true
  | .m, .m => true
  | .f n a b, .f n' a' b' => Nat.beq n n' && sveqs a a' && sveqs b b'
  | .y a, .y b => Nat.beq a b
  | .nf, .nf => true
  | .a l, .a m => sveqs l m
  | .t l, .t m => sveqs l m
  | _, _ => false
def sveqs : List SV → List SV → Bool
  | [], [] => true
  | x :: l, y :: m => sveq x y && sveqs l m
  | _, _ => false
end
structure En where
  o : Oper
  w : Bool
  t : Tr SV
  h : H
  v : SV
  ob : Option SO
section
variable (P : Program) (Q : List Nat)
def trace (call : Caller) (G N : Nat) (all : List Oper) (base : Nat) : List Oper → Nat → Tr SV → H → Option (List En × Tr SV × H)
  | [], _, t, h => some ([], t, h)
  | o :: l, i, t, h => bif wantS t all o then
      (opS P Q call G (bif isAlc o.op then base + i else h.nx) t h o.op).bind fun r => (putD N t o.dst r.1).bind fun t' => (trace call G N all base l (i + 1) t' r.2).bind fun q =>
        some (⟨o, true, t, h, r.1, bif isAlc o.op then r.2.get (base + i) else none⟩ :: q.1, q.2)
    else (putD N t o.dst undefS).bind fun t' => (trace call G N all base l (i + 1) t' h).bind fun q => some (⟨o, false, t, h, undefS, none⟩ :: q.1, q.2)
def addE (base i : Nat) (b : Bool) (e : En) (h : H) : H := match e.ob with
  | none => h
  | some o => bif b then h.put (base + i) (some o) else h
/-- the heap of a stage, with the blocks that were made ahead of an operation -/
def addP (base : Nat) (p : Nat → Bool) : List En → Nat → H → H
  | [], _, h => h
  | e :: l, i, h => addP base p l (i + 1) (addE base i (p i) e h)
def allowed (ms : List Nat) (j m c : Nat) (T : List En) : Nat → Bool := List.rec (motive := fun _ => Nat → Bool) (fun _ => true)
  (fun e _ ih i => Bool.rec (motive := fun _ => Bool) (ih (Nat.succ i)) (Bool.rec (motive := fun _ => Bool) false (ih (Nat.succ i)) (bif Nat.blt i c then !(Nat.testBit ((nth ms i).getD 0) j) else !(Nat.testBit m i))) (ef e.o)) T
theorem allowed_cons {ms : List Nat} {j m c : Nat} {e : En} {l : List En} {i : Nat} : allowed ms j m c (e :: l) i = ((!(ef e.o) || (bif Nat.blt i c then !(Nat.testBit ((nth ms i).getD 0) j) else !(Nat.testBit m i))) && allowed ms j m c l (i + 1)) := by
  show Bool.rec (motive := fun _ => Bool) (allowed ms j m c l (i + 1)) (Bool.rec (motive := fun _ => Bool) false (allowed ms j m c l (i + 1)) (bif Nat.blt i c then !(Nat.testBit ((nth ms i).getD 0) j) else !(Nat.testBit m i))) (ef e.o) = _
  cases ef e.o
  · rfl
  · cases (bif Nat.blt i c then !(Nat.testBit ((nth ms i).getD 0) j) else !(Nat.testBit m i)) <;> rfl
/-- at a stage, a quiet operation hands back what it did in its place -/
def chkQ (G base : Nat) (T : List En) (ms : List Nat) (j : Nat) (e : En) (c : Nat) (hc : H) : Bool :=
  bif allowed ms j ((nth ms j).getD 0) c T 0 then (match op1 P Q G hc.nx e.t (addP base (fun i => Nat.ble c i && Nat.testBit ((nth ms j).getD 0) i) T 0 hc) e.o.op with
    | some r => sveq r.1 e.v
    | none => false) else true
/-- the stages: the start, and behind each operation with an effect -/
def chkS (G base : Nat) (T : List En) (hn : H) (ms : List Nat) (j : Nat) (e : En) (l : List En) : Nat → Bool := List.rec (motive := fun _ => Nat → Bool) (fun _ => true)
  (fun x l ih i => Bool.rec (motive := fun _ => Bool) (ih (Nat.succ i)) (Bool.rec (motive := fun _ => Bool) false (ih (Nat.succ i)) (chkQ P Q G base T ms j e (i + 1) (match l with | [] => hn | y :: _ => y.h))) (ef x.o)) l
theorem chkS_cons {G base : Nat} {T : List En} {hn : H} {ms : List Nat} {j : Nat} {e x : En} {l : List En} {i : Nat} : chkS P Q G base T hn ms j e (x :: l) i = ((!(ef x.o) || chkQ P Q G base T ms j e (i + 1) (match l with | [] => hn | y :: _ => y.h)) && chkS P Q G base T hn ms j e l (i + 1)) := by
  show Bool.rec (motive := fun _ => Bool) (chkS P Q G base T hn ms j e l (i + 1)) (Bool.rec (motive := fun _ => Bool) false (chkS P Q G base T hn ms j e l (i + 1)) (chkQ P Q G base T ms j e (i + 1) (match l with | [] => hn | y :: _ => y.h))) (ef x.o) = _
  cases ef x.o
  · rfl
  · cases chkQ P Q G base T ms j e (i + 1) (match l with | [] => hn | y :: _ => y.h) <;> rfl
def chkJ (G base : Nat) (T : List En) (h0 hn : H) (ms : List Nat) : List En → Nat → Bool
  | [], _ => true
  | e :: l, j => (!(quiet e.o.op) || !(e.w) || (chkQ P Q G base T ms j e 0 h0 && chkS P Q G base T hn ms j e T 0)) && chkJ G base T h0 hn ms l (j + 1)
def noneAt (base : Nat) (h : H) : List En → Nat → Bool
  | [], _ => true
  | e :: l, i => (!(isAlc e.o.op) || (h.get (base + i)).isNone) && noneAt base h l (i + 1)
def chkN (base : Nat) (hn : H) : List En → Nat → Bool
  | [], _ => true
  | e :: l, i => (!(ef e.o) || noneAt base (match l with | [] => hn | y :: _ => y.h) l (i + 1)) && chkN base hn l (i + 1)
def drawS : Draw := fun call G N all t h => bif stat all.toArray all [] [] then
    (trace P Q call G N all h.nx all 0 t ⟨h.h, h.nx + len all 0⟩).bind fun q =>
      bif chkJ P Q G h.nx q.1 ⟨h.h, h.nx + len all 0⟩ q.2.2 (masks all []) q.1 0 && chkN h.nx q.2.2 q.1 0 then some q.2 else none
  else none
end
/-! ## what an operation hangs on -/
section
variable {P : Program} {Q : List Nat} {G : Nat}
theorem opds_congr {t t' : Tr SV} : ∀ {l : List Operand}, (∀ x ∈ l, opd G t x = opd G t' x) → opds G t l = opds G t' l
  | [], _ => rfl
  | x :: l, H => by
    simp only [opds]
    rw [H x (by simp), opds_congr fun y hy => H y (by simp [hy])]
theorem parts_congr {t t' : Tr SV} : ∀ {l : List (Nat × Operand)}, (∀ x ∈ l.map (·.2), opd G t x = opd G t' x) → parts G t l = parts G t' l
  | [], _ => rfl
  | x :: l, H => by
    simp only [parts]
    rw [H x.2 (by simp), parts_congr fun y hy => H y (by simp at hy ⊢; exact .inr hy)]
theorem optd_congr {t t' : Tr SV} {x : Option Operand} (H : ∀ y ∈ x.toList, opd G t y = opd G t' y) : optd G t x = optd G t' x := by
  cases x with
  | none => rfl
  | some x => simp only [optd]; rw [H x (by simp)]
theorem op1_congr {m : Nat} {t t' : Tr SV} {h : H} {o : Op} (K : ∀ x ∈ o.operands, opd G t x = opd G t' x) : op1 P Q G m t h o = op1 P Q G m t' h o := by
  cases o
  case move x => simp only [op1]; rw [K x (by simp [Op.operands])]
  case assign x => simp only [op1]; rw [K x (by simp [Op.operands])]
  case pick c x y =>
    simp only [op1]
    rw [K c (by simp [Op.operands])]
    congr 1; funext v; congr 1; funext b
    cases b
    · rw [cond_false, K y (by simp [Op.operands])]
    · rw [cond_true, K x (by simp [Op.operands])]
  case binOp op xt x y yt => simp only [op1]; rw [K x (by simp [Op.operands]), K y (by simp [Op.operands])]
  case unOp op t x => simp only [op1]; rw [K x (by simp [Op.operands])]
  case load ty x => simp only [op1]; rw [K x (by simp [Op.operands])]
  case store ty x y => simp only [op1]; rw [K x (by simp [Op.operands]), K y (by simp [Op.operands])]
  case nilCheck x => simp only [op1]; rw [K x (by simp [Op.operands])]
  case convert s d x => simp only [op1]; rw [K x (by simp [Op.operands])]
  case fieldAddr s x f => simp only [op1]; rw [K x (by simp [Op.operands])]
  case field s x f => simp only [op1]; rw [K x (by simp [Op.operands])]
  case indexAddr ty x ix => simp only [op1]; rw [K x (by simp [Op.operands]), K ix (by simp [Op.operands])]
  case index ty x ix => simp only [op1]; rw [K x (by simp [Op.operands]), K ix (by simp [Op.operands])]
  case extract x n => simp only [op1]; rw [K x (by simp [Op.operands])]
  case box ty x => simp only [op1]; rw [K x (by simp [Op.operands])]
  case build ty ps => simp only [op1]; rw [parts_congr (t := t) (t' := t') fun x hx => K x (by simpa [Op.operands] using hx)]
  case buildSlice ty n ps => simp only [op1]; rw [parts_congr (t := t) (t' := t') fun x hx => K x (by simpa [Op.operands] using hx)]
  case makeSlice ty x y => simp only [op1]; rw [K x (by simp [Op.operands]), K y (by simp [Op.operands])]
  case slice ty x lo hi mx =>
    simp only [op1]
    rw [K x (by simp [Op.operands]), optd_congr (x := lo) fun y hy => K y (by simp [Op.operands] at hy ⊢; simp [hy]), optd_congr (x := hi) fun y hy => K y (by simp [Op.operands] at hy ⊢; simp [hy]), optd_congr (x := mx) fun y hy => K y (by simp [Op.operands] at hy ⊢; simp [hy])]
  case makeFunc fn fs cs =>
    cases fn <;> simp only [op1]
    rw [opds_congr (t := t) (t' := t') (l := fs.toList) fun y hy => K y (by simp [Op.operands] at hy ⊢; simp [hy]), opds_congr (t := t) (t' := t') (l := cs.toList) fun y hy => K y (by simp [Op.operands] at hy ⊢; simp [hy])]
  case call c =>
    simp only [op1]
    split
    · rw [opds_congr (t := t) (t' := t') (l := c.args.toList) fun y hy => K y (by simp [Op.operands, Call.operands] at hy ⊢; simp [hy])]
    · rfl
  all_goals rfl
theorem opS_congr {call : Caller} {m : Nat} {t t' : Tr SV} {h : H} {o : Op} (K : ∀ x ∈ o.operands, opd G t x = opd G t' x) : opS P Q call G m t h o = opS P Q call G m t' h o := by
  unfold opS
  cases hc : callee o with
  | none => exact op1_congr K
  | some q =>
    have hop : ∃ c : Call, o = .call c ∧ c.callee = .value q.1 ∧ c.args.toList = q.2 := by
      unfold callee at hc
      split at hc
      · rename_i c
        split at hc
        · rename_i g hg
          cases hc
          exact ⟨c, rfl, hg, rfl⟩
        · cases hc
      · cases hc
    obtain ⟨c, rfl, h1, h2⟩ := hop
    simp only
    rw [K q.1 (by simp [Op.operands, Call.operands, h1]), opds_congr (t := t) (t' := t') (l := q.2) fun y hy => K y (by rw [← h2] at hy; simp [Op.operands, Call.operands, h1] at hy ⊢; simp [hy])]
theorem opd_gt {t t' : Tr SV} {x : Operand} (K : ∀ d, x = .tmp d → gt t d = gt t' d) : opd G t x = opd G t' x := by
  cases x with
  | tmp d => simp only [opd]; rw [K d rfl]
  | _ => rfl
/-- a block is made whatever the heap -/
theorem op1_alc {m : Nat} {t : Tr SV} {h h' : H} {o : Op} {v : SV} (ha : isAlc o = true) (e : op1 P Q G m t h o = some (v, h')) : ∃ ob, h' = h.addA m ob ∧ ∀ h2, op1 P Q G m t h2 o = some (v, h2.addA m ob) := by
  cases o <;> simp only [isAlc, Bool.false_eq_true] at ha
  case alloc ty =>
    simp only [op1, Option.bind_eq_some_iff] at e
    obtain ⟨z, hz, e⟩ := e
    cases hc : (sc z || op1.isA z)
    · simp only [hc, cond_false] at e; cases e
    simp only [hc, cond_true, Option.some.injEq, Prod.mk.injEq] at e
    obtain ⟨rfl, rfl⟩ := e
    exact ⟨_, rfl, fun h2 => by simp only [op1, hz, Option.bind_some, hc, cond_true]⟩
  case box ty x =>
    simp only [op1, Option.bind_eq_some_iff] at e
    obtain ⟨z, hz, e⟩ := e
    cases hc : (sc z || op1.isA z)
    · simp only [hc, cond_false] at e; cases e
    simp only [hc, cond_true, Option.some.injEq, Prod.mk.injEq] at e
    obtain ⟨rfl, rfl⟩ := e
    exact ⟨_, rfl, fun h2 => by simp only [op1, hz, Option.bind_some, hc, cond_true]⟩
  case buildSlice ty n ps =>
    simp only [op1, Option.bind_eq_some_iff] at e
    obtain ⟨d, hd, el, hel, l, hl, s, hs, z, hz, e⟩ := e
    cases hc : (Nat.beq (len (cellsOf z) 0) s && Nat.ble (n * s) 16777216 && (cellsOf z).all sc)
    · simp only [hc, cond_false] at e; cases e
    simp only [hc, cond_true, Option.bind_eq_some_iff, Option.some.injEq, Prod.mk.injEq] at e
    obtain ⟨cs, hcs, rfl, rfl⟩ := e
    exact ⟨_, rfl, fun h2 => by simp only [op1, hd, hel, hl, hs, hz, Option.bind_some, hc, cond_true, hcs]⟩
  case makeSlice ty x y =>
    simp only [op1, Option.bind_eq_some_iff] at e
    obtain ⟨d, hd, el, hel, u, hu, q, hq, n, hn, c, hc0, i, hi, zv, hzv, z, hz, e⟩ := e
    cases hc : (Nat.ble n c && Nat.ble c GREAT && Nat.ble i.bytes GREAT && Nat.beq (len (cellsOf z) 0) i.size && (cellsOf z).all sc)
    · simp only [hc, cond_false] at e; cases e
    simp only [hc, cond_true, Option.some.injEq, Prod.mk.injEq] at e
    obtain ⟨rfl, rfl⟩ := e
    exact ⟨_, rfl, fun h2 => by simp only [op1, hd, hel, hu, hq, hn, hc0, hi, hzv, hz, Option.bind_some, hc, cond_true]⟩
theorem op1_quiet {m m' : Nat} {t : Tr SV} {h h' : H} {o : Op} {v : SV} (hq : quiet o = true) (e : op1 P Q G m t h o = some (v, h')) : h' = h ∧ op1 P Q G m' t h o = some (v, h') := by
  have pu : ∀ {r : Option SV}, pureO r h = some (v, h') → h' = h := fun {r} hr => by
    simp only [pureO, Option.bind_eq_some_iff, Option.some.injEq, Prod.mk.injEq] at hr
    obtain ⟨u, _, _, rfl⟩ := hr; rfl
  cases o <;> simp only [quiet, Bool.false_eq_true] at hq
  case move => exact ⟨pu e, e⟩
  case assign => exact ⟨pu e, e⟩
  case pick => refine ⟨?_, e⟩; simp only [op1, Option.bind_eq_some_iff] at e; obtain ⟨_, _, _, _, e⟩ := e; exact pu e
  case binOp => refine ⟨?_, e⟩; simp only [op1, Option.bind_eq_some_iff] at e; obtain ⟨_, _, _, _, e⟩ := e; exact pu e
  case unOp => refine ⟨?_, e⟩; simp only [op1, Option.bind_eq_some_iff] at e; obtain ⟨_, _, e⟩ := e; exact pu e
  case load => refine ⟨?_, e⟩; simp only [op1, Option.bind_eq_some_iff] at e; obtain ⟨_, _, _, _, e⟩ := e; exact pu e
  case nilCheck => refine ⟨?_, e⟩; simp only [op1, Option.bind_eq_some_iff] at e; obtain ⟨_, _, e⟩ := e; exact pu e
  case convert => refine ⟨?_, e⟩; simp only [op1, Option.bind_eq_some_iff] at e; obtain ⟨_, _, _, _, e⟩ := e; exact pu e
  case fieldAddr =>
    refine ⟨?_, e⟩; simp only [op1, Option.bind_eq_some_iff] at e; obtain ⟨_, _, _, _, _, _, n, _, e⟩ := e
    cases hb : Nat.blt 0 n
    · simp only [hb, cond_false] at e; cases e
    · simp only [hb, cond_true, Option.some.injEq, Prod.mk.injEq] at e; exact e.2.symm
  case field => refine ⟨?_, e⟩; simp only [op1, Option.bind_eq_some_iff] at e; obtain ⟨_, _, _, _, _, _, e⟩ := e; exact pu e
  case indexAddr => refine ⟨?_, e⟩; simp only [op1, Option.bind_eq_some_iff] at e; obtain ⟨_, _, _, _, _, _, e⟩ := e; exact pu e
  case index => refine ⟨?_, e⟩; simp only [op1, Option.bind_eq_some_iff] at e; obtain ⟨_, _, _, _, _, _, _, _, e⟩ := e; exact pu e
  case extract => refine ⟨?_, e⟩; simp only [op1, Option.bind_eq_some_iff] at e; obtain ⟨_, _, _, _, e⟩ := e; exact pu e
  case build => refine ⟨?_, e⟩; simp only [op1, Option.bind_eq_some_iff] at e; obtain ⟨_, _, e⟩ := e; exact pu e
  case slice => refine ⟨?_, e⟩; simp only [op1, Option.bind_eq_some_iff] at e; obtain ⟨_, _, _, _, _, _, _, _, e⟩ := e; exact pu e
  case makeFunc fn fs cs =>
    refine ⟨?_, by cases fn <;> exact e⟩
    cases fn <;> simp only [op1, reduceCtorEq] at e
    simp only [Option.bind_eq_some_iff, Option.some.injEq, Prod.mk.injEq] at e
    obtain ⟨_, _, _, _, _, rfl⟩ := e; rfl
  case call c =>
    refine ⟨?_, e⟩
    simp only [op1] at e
    split at e
    · rename_i b hb
      simp only [Option.bind_eq_some_iff] at e
      obtain ⟨l, hl, e⟩ := e
      rw [hb] at hq
      cases b <;> simp only [Bool.false_eq_true] at hq
      all_goals unfold bltn at e
      all_goals split at e
      all_goals first
        | (split at e
           · simp only [Option.bind_eq_some_iff, Option.some.injEq, Prod.mk.injEq] at e
             obtain ⟨_, _, _, rfl⟩ := e; rfl
           · cases e)
        | exact pu e
        | (rename_i hx; cases hx)
        | cases e
    · cases e
mutual
theorem sveq_eq : ∀ {x y : SV}, sveq x y = true → x = y := by
  intro x y e
  cases x <;> cases y <;> simp only [sveq, Bool.false_eq_true] at e
  case b.b => simp at e; rw [e]
  case i.i => simp only [Bool.and_eq_true] at e; rw [keq_eq e.1]; have := e.2; rw [ieq_eq] at this; simp at this; rw [this]
  case p.p => rw [aeq_eq e]
  case s.s => simp only [Bool.and_eq_true, bqi] at e; rw [aeq_eq e.1.1, e.1.2, e.2]
  case o.o => simp only [Bool.and_eq_true, bqi] at e; rw [e.1.1, e.1.2, e.2]
  case z.z => rfl
  case m.m => rfl
  case f.f => simp only [Bool.and_eq_true, bqi] at e; rw [e.1.1, sveqs_eq e.1.2, sveqs_eq e.2]
  case y.y => rw [bqi.1 e]
  case nf.nf => rfl
  case a.a => rw [sveqs_eq e]
  case t.t => rw [sveqs_eq e]
theorem sveqs_eq : ∀ {l m : List SV}, sveqs l m = true → l = m := by
  intro l m e
  cases l <;> cases m <;> simp only [sveqs, Bool.false_eq_true, Bool.and_eq_true] at e
  · rfl
  · rw [sveq_eq e.1, sveqs_eq e.2]
end
end
end
end Go.Ev
