/-
  The evaluator for the kernel answers as the evaluator does. No statement.
-/
import Derived.Test.YtlncjakfckdjcaaGreatDoorEvK
set_option linter.all false
set_option maxRecDepth 100000
set_option maxHeartbeats 2000000
namespace Go.Ev
open Go
section
variable {P : Program} {Q : List Nat} {γ : Type}
theorem orec {α β : Type} (f : α → Option β) (o : Option α) : Option.rec (motive := fun _ => Option β) none f o = o.bind f := by cases o <;> rfl
theorem prec {α β δ : Type} (f : α → β → δ) (p : α × β) : Prod.rec (motive := fun _ => δ) f p = f p.1 p.2 := by cases p; rfl
theorem brec {α : Type} (a b : α) (c : Bool) : Bool.rec (motive := fun _ => α) b a c = bif c then a else b := by cases c <;> rfl
theorem pureO_bind {r : Option SV} {h : H} {k : SV → H → Option γ} : ((pureO r h).bind fun r => k r.1 r.2) = r.bind fun v => k v h := by cases r <;> rfl
theorem kRest_eq {o : Op} {call : Caller} {G : Nat} {t : Tr SV} {h : H} {k : SV → H → Option γ} : kRest o P Q call G t h k = (op1 P Q G h.nx t h o).bind fun r => k r.1 r.2 := by
  unfold kRest
  cases op1 P Q G h.nx t h o <;> rfl
theorem opK_eq {call : Caller} {G : Nat} {t : Tr SV} {h : H} (o : Op) (k : SV → H → Option γ) : opK o P Q call G t h k = (opS P Q call G h.nx t h o).bind fun r => k r.1 r.2 := by
  cases o with
  | move x => show opdK x G t (fun v => k v h) = (pureO (opd G t x) h).bind _; rw [opdK_eq, pureO_bind]
  | assign x => show opdK x G t (fun v => k v h) = (pureO (opd G t x) h).bind _; rw [opdK_eq, pureO_bind]
  | pick c a b =>
    show kPick c a b P Q call G t h k = (op1 P Q G h.nx t h (.pick c a b)).bind _
    simp only [kPick, op1, opdK_eq, orec, brec]
    cases opd G t c with
    | none => rfl
    | some v =>
      simp only [Option.bind_some]
      cases asB v with
      | none => rfl
      | some q =>
        simp only [Option.bind_some, pureO_bind]
        cases q <;> rfl
  | binOp op xt x y yt =>
    show kBin op xt x y yt P Q call G t h k = (op1 P Q G h.nx t h (.binOp op xt x y yt)).bind _
    simp only [kBin, op1, opdK_eq, orec, Option.bind_assoc, pureO_bind]
  | unOp op xt x =>
    show kUn op xt x P Q call G t h k = (op1 P Q G h.nx t h (.unOp op xt x)).bind _
    simp only [kUn, op1, opdK_eq, orec, Option.bind_assoc, pureO_bind]
  | load e x =>
    show kLoad e x P Q call G t h k = (op1 P Q G h.nx t h (.load e x)).bind _
    simp only [kLoad, op1, opdK_eq, orec, Option.bind_assoc, pureO_bind, loadTK_eq]
  | store e x y =>
    show kStore e x y P Q call G t h k = (op1 P Q G h.nx t h (.store e x y)).bind _
    simp only [kStore, op1, opdK_eq, orec, Option.bind_assoc, storeTK_eq, Option.bind_some]
  | nilCheck x =>
    show kNil x P Q call G t h k = (op1 P Q G h.nx t h (.nilCheck x)).bind _
    simp only [kNil, op1, opdK_eq, orec, Option.bind_assoc, pureO_bind]
  | convert s d x =>
    show kConv s d x P Q call G t h k = (op1 P Q G h.nx t h (.convert s d x)).bind _
    simp only [kConv, op1, opdK_eq, orec, Option.bind_assoc, pureO_bind]
  | indexAddr e x ix =>
    show kIA e x ix P Q call G t h k = (op1 P Q G h.nx t h (.indexAddr e x ix)).bind _
    simp only [kIA, op1, opdK_eq, orec, Option.bind_assoc, pureO_bind]
  | extract x n =>
    show kExt x n P Q call G t h k = (op1 P Q G h.nx t h (.extract x n)).bind _
    simp only [kExt, op1, opdK_eq, orec, Option.bind_assoc, pureO_bind]
  | call c =>
    obtain ⟨ce, as, ts⟩ := c
    cases ce with
    | value f =>
      show opdK f G t (fun f => opdsK as.toList G t fun l => Option.rec (motive := fun _ => Option γ) none (fun r => Prod.rec (motive := fun _ => Option γ) k r) (call f l h)) = ((opd G t f).bind fun f => (opds G t as.toList).bind fun l => call f l h).bind _
      simp only [opdK_eq, opdsK_eq, orec, Option.bind_assoc]
    | invoke x s => exact kRest_eq (o := .call ⟨.invoke x s, as, ts⟩) (P := P) (Q := Q) (call := call) (G := G) (t := t) (h := h) (k := k)
    | builtin b => exact kRest_eq (o := .call ⟨.builtin b, as, ts⟩) (P := P) (Q := Q) (call := call) (G := G) (t := t) (h := h) (k := k)
  | alloc a => exact kRest_eq (o := .alloc a) (P := P) (Q := Q) (call := call) (G := G) (t := t) (h := h) (k := k)
  | box a b => exact kRest_eq (o := .box a b) (P := P) (Q := Q) (call := call) (G := G) (t := t) (h := h) (k := k)
  | build a b => exact kRest_eq (o := .build a b) (P := P) (Q := Q) (call := call) (G := G) (t := t) (h := h) (k := k)
  | buildSlice a b c => exact kRest_eq (o := .buildSlice a b c) (P := P) (Q := Q) (call := call) (G := G) (t := t) (h := h) (k := k)
  | insert a b c d => exact kRest_eq (o := .insert a b c d) (P := P) (Q := Q) (call := call) (G := G) (t := t) (h := h) (k := k)
  | ready a => exact kRest_eq (o := .ready a) (P := P) (Q := Q) (call := call) (G := G) (t := t) (h := h) (k := k)
  | waits a => exact kRest_eq (o := .waits a) (P := P) (Q := Q) (call := call) (G := G) (t := t) (h := h) (k := k)
  | sliceToArrayPointer a b => exact kRest_eq (o := .sliceToArrayPointer a b) (P := P) (Q := Q) (call := call) (G := G) (t := t) (h := h) (k := k)
  | makeInterface a b => exact kRest_eq (o := .makeInterface a b) (P := P) (Q := Q) (call := call) (G := G) (t := t) (h := h) (k := k)
  | makeFunc a b c => exact kRest_eq (o := .makeFunc a b c) (P := P) (Q := Q) (call := call) (G := G) (t := t) (h := h) (k := k)
  | makeMap a b => exact kRest_eq (o := .makeMap a b) (P := P) (Q := Q) (call := call) (G := G) (t := t) (h := h) (k := k)
  | makeChan a b => exact kRest_eq (o := .makeChan a b) (P := P) (Q := Q) (call := call) (G := G) (t := t) (h := h) (k := k)
  | makeSlice a b c => exact kRest_eq (o := .makeSlice a b c) (P := P) (Q := Q) (call := call) (G := G) (t := t) (h := h) (k := k)
  | slice a b c d e => exact kRest_eq (o := .slice a b c d e) (P := P) (Q := Q) (call := call) (G := G) (t := t) (h := h) (k := k)
  | fieldAddr a b c => exact kRest_eq (o := .fieldAddr a b c) (P := P) (Q := Q) (call := call) (G := G) (t := t) (h := h) (k := k)
  | field a b c => exact kRest_eq (o := .field a b c) (P := P) (Q := Q) (call := call) (G := G) (t := t) (h := h) (k := k)
  | index a b c => exact kRest_eq (o := .index a b c) (P := P) (Q := Q) (call := call) (G := G) (t := t) (h := h) (k := k)
  | lookup a b c d => exact kRest_eq (o := .lookup a b c d) (P := P) (Q := Q) (call := call) (G := G) (t := t) (h := h) (k := k)
  | mapUpdate a b c d => exact kRest_eq (o := .mapUpdate a b c d) (P := P) (Q := Q) (call := call) (G := G) (t := t) (h := h) (k := k)
  | mapEntry a b c => exact kRest_eq (o := .mapEntry a b c) (P := P) (Q := Q) (call := call) (G := G) (t := t) (h := h) (k := k)
  | entryStore a b c d => exact kRest_eq (o := .entryStore a b c d) (P := P) (Q := Q) (call := call) (G := G) (t := t) (h := h) (k := k)
  | range a b => exact kRest_eq (o := .range a b) (P := P) (Q := Q) (call := call) (G := G) (t := t) (h := h) (k := k)
  | next a b => exact kRest_eq (o := .next a b) (P := P) (Q := Q) (call := call) (G := G) (t := t) (h := h) (k := k)
  | entry a => exact kRest_eq (o := .entry a) (P := P) (Q := Q) (call := call) (G := G) (t := t) (h := h) (k := k)
  | typeAssert a b c d => exact kRest_eq (o := .typeAssert a b c d) (P := P) (Q := Q) (call := call) (G := G) (t := t) (h := h) (k := k)
  | go a => exact kRest_eq (o := .go a) (P := P) (Q := Q) (call := call) (G := G) (t := t) (h := h) (k := k)
  | defer a => exact kRest_eq (o := .defer a) (P := P) (Q := Q) (call := call) (G := G) (t := t) (h := h) (k := k)
  | panic a => exact kRest_eq (o := .panic a) (P := P) (Q := Q) (call := call) (G := G) (t := t) (h := h) (k := k)
  | send a b => exact kRest_eq (o := .send a b) (P := P) (Q := Q) (call := call) (G := G) (t := t) (h := h) (k := k)
  | recv a b c => exact kRest_eq (o := .recv a b c) (P := P) (Q := Q) (call := call) (G := G) (t := t) (h := h) (k := k)
  | select a b => exact kRest_eq (o := .select a b) (P := P) (Q := Q) (call := call) (G := G) (t := t) (h := h) (k := k)
theorem wantK_eq {t : Tr SV} {ops : List Oper} {o : Oper} : wantK t ops o.guard = wantS t ops o := by
  unfold wantK wantS
  cases o.guard with
  | none => rfl
  | some q => cases q with | mk j b => rfl
theorem putK_eq {N : Nat} {t : Tr SV} {d : Option Nat} {v : SV} {k : Tr SV → Option γ} : putK N t d v k = (putD N t d v).bind k := by
  unfold putK putD
  cases d with
  | none => rfl
  | some d =>
    show Bool.rec (motive := fun _ => Option γ) none (k (t.set d (some v))) (Nat.blt d N) = (bif Nat.blt d N then some (t.set d (some v)) else none).bind k
    cases Nat.blt d N <;> rfl
theorem opsK_eq {call : Caller} {G N : Nat} {all : List Oper} : ∀ (l : List Oper) (t : Tr SV) (h : H) (k : Tr SV → H → Option γ), opsK P Q call G N all l t h k = (opsS P Q call G N all l t h).bind fun r => k r.1 r.2
  | [], _, _, _ => rfl
  | o :: l, t, h, k => by
    obtain ⟨dst, op, ty, pos, af, g⟩ := o
    show Bool.rec (motive := fun _ => Option γ) (putK N t dst undefS fun t => opsK P Q call G N all l t h k)
      (opK op P Q call G t h fun v h => putK N t dst v fun t => opsK P Q call G N all l t h k) (wantK t all (Oper.mk dst op ty pos af g).guard) = _
    rw [wantK_eq, brec]
    simp only [opsS, opK_eq, putK_eq]
    cases wantS t all (Oper.mk dst op ty pos af g)
    · simp only [cond_false, Option.bind_assoc]
      congr 1; funext t'
      exact opsK_eq l t' h k
    · simp only [cond_true, Option.bind_assoc]
      congr 1; funext r
      congr 1; funext t'
      exact opsK_eq l t' r.2 k
/-! ## code -/
theorem k4K_eq {k : Ex → Tr SV → List Nat → H → Option γ} : k4K k = k4 k := by funext r; rcases r with ⟨_, _, _, _⟩; rfl
theorem iterK_eq {f : KR γ} {b : Tr SV → List Nat → H → Res} (hf : ∀ t d h k, f t d h k = (b t d h).bind (k4 k)) : ∀ n t d h k, iterK f n t d h k = (iter b n t d h).bind (k4 k)
  | 0, _, _, _, _ => rfl
  | n + 1, t, d, h, k => by
    show f t d h (fun e t d h => Ex.rec (motive := fun _ => Option γ) (iterK f n t d h k) (k .ret t d h) (fun i => k (.exit i) t d h) (fun l => k (.goto l) t d h) e) = _
    rw [hf]
    simp only [iter, Option.bind_assoc]
    congr 1; funext r
    rcases r with ⟨e, t', d', h'⟩
    cases e with
    | normal => exact iterK_eq hf n t' d' h' k
    | ret => rfl
    | exit i => rfl
    | goto l => rfl
variable {draw : Draw} {call : Caller} {again : Code → Tr SV → List Nat → H → Res} {G N : Nat} {ro : Option Nat}
theorem codeK_eq : ∀ (c : Code) (t : Tr SV) (d : List Nat) (h : H) (k : Ex → Tr SV → List Nat → H → Option γ), codeK P Q draw call again G N ro c t d h k = (codeS P Q draw call again G N ro c t d h).bind (k4 k)
  | .skip, _, _, _, _ => rfl
  | .region id ops dr, t, d, h, k => by
    show kRegion P Q ops dr draw call G N t d h k = _
    unfold kRegion codeS
    rw [brec, orec, opsK_eq]
    cases dr
    · simp only [cond_false, Option.bind_assoc]; rfl
    · simp only [cond_true, Option.bind_assoc]; congr 1
  | .seq a b, t, d, h, k => by
    show codeK P Q draw call again G N ro a t d h (fun e t d h => Ex.rec (motive := fun _ => Option γ) (codeK P Q draw call again G N ro b t d h k) (k .ret t d h) (fun i => k (.exit i) t d h) (fun l => k (.goto l) t d h) e) = _
    rw [codeK_eq a]
    simp only [codeS, Option.bind_assoc]
    congr 1; funext r
    rcases r with ⟨e, t', d', h'⟩
    cases e with
    | normal => exact codeK_eq b t' d' h' k
    | ret => rfl
    | exit i => rfl
    | goto l => rfl
  | .cond c a b, t, d, h, k => by
    show opdK c G t (fun v => Option.rec (motive := fun _ => Option γ) none (fun q => Bool.rec (motive := fun _ => Option γ) (codeK P Q draw call again G N ro b t d h k) (codeK P Q draw call again G N ro a t d h k) q) (asB v)) = _
    simp only [opdK_eq, orec, codeS, Option.bind_assoc]
    congr 1; funext v
    congr 1; funext q
    cases q
    · exact codeK_eq b t d h k
    · exact codeK_eq a t d h k
  | .block id c, t, d, h, k => by
    show codeK P Q draw call again G N ro c t d h (fun e t d h => Ex.rec (motive := fun _ => Option γ) (k .normal t d h) (k .ret t d h) (fun i => Bool.rec (motive := fun _ => Option γ) (k (.exit i) t d h) (k .normal t d h) (Nat.beq i id)) (fun l => k (.goto l) t d h) e) = _
    rw [codeK_eq c]
    simp only [codeS, Option.bind_assoc]
    congr 1; funext r
    rcases r with ⟨e, t', d', h'⟩
    cases e with
    | normal => rfl
    | ret => rfl
    | exit i =>
      show Bool.rec (motive := fun _ => Option γ) (k (.exit i) t' d' h') (k .normal t' d' h') (Nat.beq i id) = (bif Nat.beq i id then some (.normal, t', d', h') else some (.exit i, t', d', h')).bind (k4 k)
      cases Nat.beq i id <;> rfl
    | goto l => rfl
  | .loop c, t, d, h, k => iterK_eq (fun t d h k => codeK_eq c t d h k) LIM t d h k
  | .rangeFunc f ps asg body, t, d, h, k => by
    show Option.rec (motive := fun _ => Option γ) none (k4K k) (codeS P Q draw call again G N ro (.rangeFunc f ps asg body) t d h) = _
    rw [orec, k4K_eq]
  | .exit i, _, _, _, _ => rfl
  | .scope c, t, d, h, k => by
    show codeK P Q draw call again G N ro c t d h (fun e t d h => Ex.rec (motive := fun _ => Option γ) (k .normal t d h) (k .ret t d h) (fun i => k (.exit i) t d h) (fun _ => none) e) = _
    rw [codeK_eq c]
    simp only [codeS, Option.bind_assoc]
    congr 1; funext r
    rcases r with ⟨e, t', d', h'⟩
    cases e <;> rfl
  | .label l, _, _, _, _ => rfl
  | .goto l, _, _, _, _ => rfl
  | .ret, _, _, _, _ => rfl
  | .refuse s, _, _, _, _ => rfl
theorem some_bind (r : Res) : r.bind (k4 fun e t d h => some (e, t, d, h)) = r := by rcases r with _ | ⟨_, _, _, _⟩ <;> rfl
theorem bodyK_eq {code : Nat → Option Nat → Code → KR (SV × H)} {code' : Nat → Option Nat → Code → Tr SV → List Nat → H → Res} (hc : ∀ N ro c t d h k, code N ro c t d h k = (code' N ro c t d h).bind (k4 k)) (f : SV) (args : List SV) (h : H) :
    bodyK P code code' f args h = bodyS P code' f args h := by
  cases f with
  | f n fst cap =>
    show Option.rec (motive := fun _ => Option (SV × H)) none (runK P code fst cap args h) (nth P.funcs.toList n) = _
    simp only [orec, bodyS]
    congr 1; funext fn
    unfold runK
    simp only [orec]
    congr 1; funext c
    rw [brec, hc]
    cases Nat.ble (len fst (len args (len cap 0))) fn.ntmps
    · rfl
    · simp only [cond_true]
      congr 1; funext r
      rcases r with ⟨e, t', d', h'⟩
      cases e with
      | normal => show finK P fn.results.toList t' d' h' = _; simp only [finK, orec]
      | ret => show finK P fn.results.toList t' d' h' = _; simp only [finK, orec]
      | exit i => rfl
      | goto l => rfl
  | b x => rfl
  | i k n => rfl
  | p a => rfl
  | s a len cap => rfl
  | o n i len => rfl
  | z => rfl
  | m => rfl
  | y l => rfl
  | nf => rfl
  | a l => rfl
  | t l => rfl
theorem evK_eq : ∀ n, evK P Q draw G n = ev P Q draw G n
  | 0 => rfl
  | n + 1 => by
    have ih := evK_eq n
    have e1 : ∀ N ro c t d h, (codeK P Q draw (evK P Q draw G n).call (fun _ _ _ _ => none) G N ro c t d h fun e t d h => some (e, t, d, h)) = codeS P Q draw (ev P Q draw G n).call (fun _ _ _ _ => none) G N ro c t d h := fun N ro c t d h => by
      rw [codeK_eq, some_bind, ih]
    show EvR.mk (fun N ro c t d h => codeK P Q draw (evK P Q draw G n).call (fun _ _ _ _ => none) G N ro c t d h fun e t d h => some (e, t, d, h))
      (bodyK P (codeK P Q draw (evK P Q draw G n).call (fun _ _ _ _ => none) G) (fun N ro c t d h => codeK P Q draw (evK P Q draw G n).call (fun _ _ _ _ => none) G N ro c t d h fun e t d h => some (e, t, d, h))) = _
    have e2 : (fun N ro c t d h => codeK P Q draw (evK P Q draw G n).call (fun _ _ _ _ => none) G N ro c t d h fun e t d h => some (e, t, d, h)) = fun N ro => codeS P Q draw (ev P Q draw G n).call (fun _ _ _ _ => none) G N ro := by
      funext N ro c t d h; exact e1 N ro c t d h
    rw [e2]
    have e3 : bodyK P (codeK P Q draw (evK P Q draw G n).call (fun _ _ _ _ => none) G) (fun N ro => codeS P Q draw (ev P Q draw G n).call (fun _ _ _ _ => none) G N ro) = bodyS P (fun N ro => codeS P Q draw (ev P Q draw G n).call (fun _ _ _ _ => none) G N ro) := by
      funext f args h
      refine bodyK_eq (fun N ro c t d h k => ?_) f args h
      rw [codeK_eq, ih]
    rw [e3]
    rfl
end
end Go.Ev
