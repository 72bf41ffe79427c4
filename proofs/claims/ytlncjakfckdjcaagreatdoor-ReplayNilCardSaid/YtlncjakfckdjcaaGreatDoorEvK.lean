/-
  The evaluator once more, for the kernel: the same answers by recursors and paths. No statement.
-/
import Derived.Test.YtlncjakfckdjcaaGreatDoorEvA
set_option linter.all false
set_option maxRecDepth 100000
set_option maxHeartbeats 2000000
namespace Go.Ev
noncomputable section
/-! ## small words -/
def ob {α β : Type} (f : α → Option β) (o : Option α) : Option β := Option.rec (motive := fun _ => Option β) none f o
theorem ob_eq {α β : Type} (f : α → Option β) (o : Option α) : ob f o = o.bind f := by cases o <;> rfl
def bi {α : Type} (a b : α) (c : Bool) : α := Bool.rec (motive := fun _ => α) b a c
theorem bi_eq {α : Type} (a b : α) (c : Bool) : bi a b c = bif c then a else b := by cases c <;> rfl
/-! ## operands -/
def opdK {γ : Type} (x : Operand) (G : Nat) (t : Tr SV) (k : SV → Option γ) : Option γ := Operand.rec (motive := fun _ => Option γ)
  (fun i => k (gt t i)) (fun v => Option.rec (motive := fun _ => Option γ) none k (ofV v))
  (fun g => Bool.rec (motive := fun _ => Option γ) none (k (.p (some (g, 0)))) (Nat.blt g G)) (fun f => k (.f f [] [])) x
theorem opdK_eq {γ : Type} (x : Operand) (G : Nat) (t : Tr SV) (k : SV → Option γ) : opdK x G t k = (opd G t x).bind k := by
  cases x with
  | tmp i => rfl
  | const v => show Option.rec (motive := fun _ => Option γ) none k (ofV v) = (ofV v).bind k; cases ofV v <;> rfl
  | global g =>
    show Bool.rec (motive := fun _ => Option γ) none (k (.p (some (g, 0)))) (Nat.blt g G) = _
    simp only [opd]
    cases Nat.blt g G <;> rfl
  | func f => rfl
def iK {γ : Type} (d : γ) (f : IntKind → Int → γ) (x : SV) : γ := match x with
  | .i k n => f k n
  | _ => d
def opdsK {γ : Type} (l : List Operand) (G : Nat) (t : Tr SV) : (List SV → Option γ) → Option γ := List.rec (motive := fun _ => (List SV → Option γ) → Option γ)
  (fun k => k []) (fun x _ ih k => opdK x G t fun v => ih fun r => k (v :: r)) l
theorem opdsK_eq {γ : Type} (G : Nat) (t : Tr SV) : ∀ (l : List Operand) (k : List SV → Option γ), opdsK l G t k = (opds G t l).bind k
  | [], _ => rfl
  | x :: l, k => by
    show opdK x G t (fun v => opdsK l G t fun r => k (v :: r)) = _
    rw [opdK_eq]
    simp only [opds]
    cases opd G t x with
    | none => rfl
    | some v =>
      show opdsK l G t (fun r => k (v :: r)) = ((opds G t l).bind fun r => some (v :: r)).bind k
      rw [opdsK_eq G t l]
      cases opds G t l <;> rfl
/-! ## memory -/
theorem frc_eq {γ : Type} (k : Nat) (F : Nat → γ) : frc k F = F k := rfl
def onRow {γ : Type} (f : (Tr SV → SO) → Nat → Tr SV → Option γ) (o : SO) : Option γ := match o with
  | .c e m cs => f (SO.c e m) m cs
  | .w e s m cs => f (SO.w e s m) m cs
  | _ => none
def onRead {γ : Type} (f : Nat → Tr SV → Option γ) (o : SO) : Option γ := match o with
  | .c _ m cs => f m cs
  | .w _ _ m cs => f m cs
  | .g m cs => f m cs
  | _ => none
def loadCK (h : H) (a : Nat × Nat) (n : Nat) : Option (List SV) := frc a.1 fun b => Option.rec (motive := fun _ => Option (List SV)) none
  (onRead fun m cs => frc a.2 fun i => Bool.rec (motive := fun _ => Option (List SV)) none (readL cs n i) (Nat.ble (Nat.add i n) m)) (h.h.get b)
theorem loadCK_eq (h : H) (a : Nat × Nat) (n : Nat) : loadCK h a n = loadC h a n := by
  show Option.rec (motive := fun _ => Option (List SV)) none (onRead fun m cs => Bool.rec (motive := fun _ => Option (List SV)) none (readL cs n a.2) (Nat.ble (Nat.add a.2 n) m)) (h.h.get a.1) = (h.h.get a.1).bind _
  cases h.h.get a.1 with
  | none => rfl
  | some o =>
    cases o with
    | c e m cs =>
      show Bool.rec (motive := fun _ => Option (List SV)) none (readL cs n a.2) (Nat.ble (a.2 + n) m) = bif Nat.ble (a.2 + n) m then readL cs n a.2 else none
      cases Nat.ble (a.2 + n) m <;> rfl
    | w e s m cs =>
      show Bool.rec (motive := fun _ => Option (List SV)) none (readL cs n a.2) (Nat.ble (a.2 + n) m) = bif Nat.ble (a.2 + n) m then readL cs n a.2 else none
      cases Nat.ble (a.2 + n) m <;> rfl
    | l st pend N tmps params asg body df => rfl
    | d taken => rfl
    | g m cs =>
      show Bool.rec (motive := fun _ => Option (List SV)) none (readL cs n a.2) (Nat.ble (a.2 + n) m) = bif Nat.ble (a.2 + n) m then readL cs n a.2 else none
      cases Nat.ble (a.2 + n) m <;> rfl
def hPut (h : H) (b : Nat) (o : SO) : H := H.rec (motive := fun _ => H) (fun tr nx => ⟨tr.set b (some o), nx⟩) h
theorem hPut_eq (h : H) (b : Nat) (o : SO) : hPut h b o = h.put b (some o) := by
  cases h with | mk tr nx => show H.mk (tr.set b (some o)) nx = _; rfl
def storeCK (h : H) (a : Nat × Nat) (l : List SV) : Option H := frc a.1 fun b => Option.rec (motive := fun _ => Option H) none
  (onRow fun mk m cs => frc a.2 fun i => Bool.rec (motive := fun _ => Option H) none (some (hPut h b (mk (putL cs l i)))) (Nat.ble (Nat.add i (len l 0)) m)) (h.h.get b)
theorem storeCK_eq (h : H) (a : Nat × Nat) (l : List SV) : storeCK h a l = storeC h a l := by
  show Option.rec (motive := fun _ => Option H) none (onRow fun mk m cs => Bool.rec (motive := fun _ => Option H) none (some (hPut h a.1 (mk (putL cs l a.2)))) (Nat.ble (Nat.add a.2 (len l 0)) m)) (h.h.get a.1) = (h.h.get a.1).bind _
  cases h.h.get a.1 with
  | none => rfl
  | some o =>
    cases o with
    | c e m cs =>
      show Bool.rec (motive := fun _ => Option H) none (some (hPut h a.1 (.c e m (putL cs l a.2)))) (Nat.ble (a.2 + len l 0) m) = bif Nat.ble (a.2 + len l 0) m then some (h.put a.1 (some (.c e m (putL cs l a.2)))) else none
      rw [hPut_eq]; cases Nat.ble (a.2 + len l 0) m <;> rfl
    | w e s m cs =>
      show Bool.rec (motive := fun _ => Option H) none (some (hPut h a.1 (.w e s m (putL cs l a.2)))) (Nat.ble (a.2 + len l 0) m) = bif Nat.ble (a.2 + len l 0) m then some (h.put a.1 (some (.w e s m (putL cs l a.2)))) else none
      rw [hPut_eq]; cases Nat.ble (a.2 + len l 0) m <;> rfl
    | l st pend N tmps params asg body df => rfl
    | d taken => rfl
    | g m cs => rfl
def loadTK (P : Program) (h : H) (t : Nat) (a : Nat × Nat) : Option SV := Option.rec (motive := fun _ => Option SV) none (fun d => Bool.rec (motive := fun _ => Option SV)
    (Option.rec (motive := fun _ => Option SV) none (fun l => nth l 0) (loadCK h a 1))
    (Option.rec (motive := fun _ => Option SV) none (fun n => Option.rec (motive := fun _ => Option SV) none (fun l => some (.a l)) (loadCK h a n)) (szOf P t)) (isAg d)) (und P t)
theorem loadTK_eq (P : Program) (h : H) (t : Nat) (a : Nat × Nat) : loadTK P h t a = loadT P h t a := by
  unfold loadTK loadT
  simp only [loadCK_eq]
  cases und P t with
  | none => rfl
  | some d =>
    show Bool.rec (motive := fun _ => Option SV) _ _ (isAg d) = bif isAg d then _ else _
    cases isAg d
    · show Option.rec (motive := fun _ => Option SV) none (fun l => nth l 0) (loadC h a 1) = (loadC h a 1).bind fun l => nth l 0
      cases loadC h a 1 <;> rfl
    · show Option.rec (motive := fun _ => Option SV) none (fun n => Option.rec (motive := fun _ => Option SV) none (fun l => some (.a l)) (loadC h a n)) (szOf P t) = (szOf P t).bind fun n => (loadC h a n).bind fun l => some (.a l)
      cases szOf P t with
      | none => rfl
      | some n => show Option.rec (motive := fun _ => Option SV) none (fun l => some (.a l)) (loadC h a n) = (loadC h a n).bind fun l => some (.a l); cases loadC h a n <;> rfl
def storeTK (P : Program) (h : H) (t : Nat) (a : Nat × Nat) (v : SV) : Option H := Option.rec (motive := fun _ => Option H) none (fun n =>
  Bool.rec (motive := fun _ => Option H) none (match v with
    | .a l => storeCK h a l
    | v => Bool.rec (motive := fun _ => Option H) none (storeCK h a [v]) (sc v)) (Nat.beq (len (cellsOf v) 0) n)) (szOf P t)
theorem storeTK_eq (P : Program) (h : H) (t : Nat) (a : Nat × Nat) (v : SV) : storeTK P h t a v = storeT P h t a v := by
  unfold storeTK storeT
  simp only [storeCK_eq]
  cases szOf P t with
  | none => rfl
  | some n =>
    show Bool.rec (motive := fun _ => Option H) none _ (Nat.beq (len (cellsOf v) 0) n) = bif Nat.beq (len (cellsOf v) 0) n then _ else none
    cases Nat.beq (len (cellsOf v) 0) n
    · rfl
    · cases v <;> first | rfl | (rename_i x; cases x <;> rfl)
/-! ## operations -/
section
variable (P : Program) (Q : List Nat)
abbrev KO (γ : Type) := Program → List Nat → Caller → Nat → Tr SV → H → (SV → H → Option γ) → Option γ
variable {γ : Type}
def kRest (o : Op) : KO γ := fun P Q _ G t h k => Option.rec (motive := fun _ => Option γ) none (fun r => Prod.rec (motive := fun _ => Option γ) k r) (op1 P Q G h.nx t h o)
def kMove (x : Operand) : KO γ := fun _ _ _ G t h k => opdK x G t fun v => k v h
def kPick (c a b : Operand) : KO γ := fun _ _ _ G t h k => opdK c G t fun v => Option.rec (motive := fun _ => Option γ) none (fun q => Bool.rec (motive := fun _ => Option γ) (opdK b G t fun v => k v h) (opdK a G t fun v => k v h) q) (asB v)
def kBin (op : BinOp) (xt : TypeId) (x y : Operand) (_ : TypeId) : KO γ := fun P Q _ G t h k => opdK x G t fun a => opdK y G t fun b => Option.rec (motive := fun _ => Option γ) none (fun v => k v h) (bop P Q op xt a b)
def kUn (op : UnOp) (_ : TypeId) (x : Operand) : KO γ := fun _ _ _ G t h k => opdK x G t fun a => Option.rec (motive := fun _ => Option γ) none (fun v => k v h) (uop op a)
def kLoad (e : TypeId) (x : Operand) : KO γ := fun P _ _ G t h k => opdK x G t fun v => Option.rec (motive := fun _ => Option γ) none (fun a => Option.rec (motive := fun _ => Option γ) none (fun v => k v h) (loadTK P h e a)) (asP v)
def kStore (e : TypeId) (x y : Operand) : KO γ := fun P _ _ G t h k => opdK x G t fun v => Option.rec (motive := fun _ => Option γ) none (fun a => opdK y G t fun u => Option.rec (motive := fun _ => Option γ) none (fun h => k undefS h) (storeTK P h e a u)) (asP v)
def kNil (x : Operand) : KO γ := fun _ _ _ G t h k => opdK x G t fun a => Option.rec (motive := fun _ => Option γ) none (fun v => k v h) (nilC a)
def kConv (s d : TypeId) (x : Operand) : KO γ := fun P _ _ G t h k => opdK x G t fun a => Option.rec (motive := fun _ => Option γ) none (fun _ => Option.rec (motive := fun _ => Option γ) none (fun v => k v h) (conv P d a)) (und P s)
def kIA (e : TypeId) (x ix : Operand) : KO γ := fun P _ _ G t h k => opdK x G t fun a => opdK ix G t fun b => Option.rec (motive := fun _ => Option γ) none (fun i => Option.rec (motive := fun _ => Option γ) none (fun v => k v h) (idxA P h e a i)) (asN b)
def kExt (x : Operand) (n : Nat) : KO γ := fun _ _ _ G t h k => opdK x G t fun a => Option.rec (motive := fun _ => Option γ) none (fun l => Option.rec (motive := fun _ => Option γ) none (fun v => k v h) (nth l n)) (asT a)
def kCall (c : Call) : KO γ := Call.rec (motive := fun _ => KO γ) (fun ce as ts => Callee.rec (motive := fun _ => KO γ)
    (fun f _ _ call G t h k => opdK f G t fun f => opdsK as.toList G t fun l => Option.rec (motive := fun _ => Option γ) none (fun r => Prod.rec (motive := fun _ => Option γ) k r) (call f l h))
    (fun x s => kRest (.call ⟨.invoke x s, as, ts⟩)) (fun b => kRest (.call ⟨.builtin b, as, ts⟩)) ce) c
def opK (o : Op) : KO γ := Op.rec (motive := fun _ => KO γ) kMove kMove kPick (fun a => kRest (.alloc a)) (fun a b => kRest (.box a b)) (fun a b => kRest (.build a b)) (fun a b c => kRest (.buildSlice a b c))
  (fun a b c d => kRest (.insert a b c d)) kLoad kStore (fun a => kRest (.ready a)) (fun a => kRest (.waits a)) kNil kBin kUn kConv (fun a b => kRest (.sliceToArrayPointer a b)) (fun a b => kRest (.makeInterface a b))
  (fun a b c => kRest (.makeFunc a b c)) (fun a b => kRest (.makeMap a b)) (fun a b => kRest (.makeChan a b)) (fun a b c => kRest (.makeSlice a b c)) (fun a b c d e => kRest (.slice a b c d e))
  (fun a b c => kRest (.fieldAddr a b c)) (fun a b c => kRest (.field a b c)) kIA (fun a b c => kRest (.index a b c)) (fun a b c d => kRest (.lookup a b c d)) (fun a b c d => kRest (.mapUpdate a b c d))
  (fun a b c => kRest (.mapEntry a b c)) (fun a b c d => kRest (.entryStore a b c d)) (fun a b => kRest (.range a b)) (fun a b => kRest (.next a b)) (fun a => kRest (.entry a)) (fun a b c d => kRest (.typeAssert a b c d))
  kExt kCall (fun a => kRest (.go a)) (fun a => kRest (.defer a)) (fun a => kRest (.panic a)) (fun a b => kRest (.send a b)) (fun a b c => kRest (.recv a b c)) (fun a b => kRest (.select a b)) o
def wantK (t : Tr SV) (ops : List Oper) (g : Option (Nat × Bool)) : Bool := Option.rec (motive := fun _ => Bool) true (fun q => match nth ops q.1 with
    | none => false
    | some o => match o.dst with
      | none => false
      | some d => match gt t d with
        | .b c => bif q.2 then c else !c
        | _ => false) g
def putK (N : Nat) (t : Tr SV) (d : Option Nat) (v : SV) (k : Tr SV → Option γ) : Option γ := Option.rec (motive := fun _ => Option γ) (k t)
  (fun d => Bool.rec (motive := fun _ => Option γ) none (k (t.set d (some v))) (Nat.blt d N)) d
def opsK (call : Caller) (G N : Nat) (all l : List Oper) : Tr SV → H → (Tr SV → H → Option γ) → Option γ := List.rec (motive := fun _ => Tr SV → H → (Tr SV → H → Option γ) → Option γ)
  (fun t h k => k t h)
  (fun o _ ih t h k => Oper.rec (motive := fun _ => Option γ) (fun dst op _ _ _ g => Bool.rec (motive := fun _ => Option γ)
    (putK N t dst undefS fun t => ih t h k)
    (opK op P Q call G t h fun v h => putK N t dst v fun t => ih t h k)
    (wantK t all g)) o) l
/-! ## code -/
abbrev KR (γ : Type) := Tr SV → List Nat → H → (Ex → Tr SV → List Nat → H → Option γ) → Option γ
def k4 (k : Ex → Tr SV → List Nat → H → Option γ) (r : Ex × Tr SV × List Nat × H) : Option γ := k r.1 r.2.1 r.2.2.1 r.2.2.2
def k4K (k : Ex → Tr SV → List Nat → H → Option γ) (r : Ex × Tr SV × List Nat × H) : Option γ := Prod.rec (motive := fun _ => Option γ) (fun e r => Prod.rec (motive := fun _ => Option γ) (fun t r => Prod.rec (motive := fun _ => Option γ) (fun d h => k e t d h) r) r) r
def iterK (f : KR γ) (n : Nat) : KR γ := Nat.rec (motive := fun _ => KR γ) (fun _ _ _ _ => none) (fun _ ih t d h k => f t d h fun e t d h => Ex.rec (motive := fun _ => Option γ) (ih t d h k) (k .ret t d h) (fun i => k (.exit i) t d h) (fun l => k (.goto l) t d h) e) n
def kRegion (ops : Array Oper) (dr : Bool) (draw : Draw) (call : Caller) (G N : Nat) (t : Tr SV) (d : List Nat) (h : H) (k : Ex → Tr SV → List Nat → H → Option γ) : Option γ := Bool.rec (motive := fun _ => Option γ)
  (opsK P Q call G N ops.toList ops.toList t h fun t h => k .normal t d h) (Option.rec (motive := fun _ => Option γ) none (fun r => Prod.rec (motive := fun _ => Option γ) (fun t h => k .normal t d h) r) (draw call G N ops.toList t h)) dr
def codeK (draw : Draw) (call : Caller) (again : Code → Tr SV → List Nat → H → Res) (G N : Nat) (ro : Option Nat) (c : Code) : KR γ := Code.rec (motive := fun _ => KR γ)
  (fun t d h k => k .normal t d h)
  (fun _ ops dr t d h k => kRegion P Q ops dr draw call G N t d h k)
  (fun _ _ fa fb t d h k => fa t d h fun e t d h => Ex.rec (motive := fun _ => Option γ) (fb t d h k) (k .ret t d h) (fun i => k (.exit i) t d h) (fun l => k (.goto l) t d h) e)
  (fun c _ _ fa fb t d h k => opdK c G t fun v => Option.rec (motive := fun _ => Option γ) none (fun q => Bool.rec (motive := fun _ => Option γ) (fb t d h k) (fa t d h k) q) (asB v))
  (fun id _ f t d h k => f t d h fun e t d h => Ex.rec (motive := fun _ => Option γ) (k .normal t d h) (k .ret t d h) (fun i => Bool.rec (motive := fun _ => Option γ) (k (.exit i) t d h) (k .normal t d h) (Nat.beq i id)) (fun l => k (.goto l) t d h) e)
  (fun _ f => iterK f LIM)
  (fun f ps asg body _ _ t d h k => Option.rec (motive := fun _ => Option γ) none (k4K k) (codeS P Q draw call again G N ro (.rangeFunc f ps asg body) t d h))
  (fun i t d h k => k (.exit i) t d h)
  (fun _ f t d h k => f t d h fun e t d h => Ex.rec (motive := fun _ => Option γ) (k .normal t d h) (k .ret t d h) (fun i => k (.exit i) t d h) (fun _ => none) e)
  (fun _ t d h k => k .normal t d h)
  (fun l t d h k => k (.goto l) t d h)
  (fun t d h k => k .ret t d h)
  (fun _ _ _ _ _ => none) c
abbrev CodeK := Nat → Option Nat → Code → KR (SV × H)
def finK (rs : List ResultVar) (t : Tr SV) (d : List Nat) (h : H) : Option (SV × H) := Option.rec (motive := fun _ => Option (SV × H)) none (fun h => Option.rec (motive := fun _ => Option (SV × H)) none (fun l => some (one l, h)) (resS P h t rs)) (takeD h d)
def runK (code : Nat → Option Nat → Code → KR (SV × H)) (fst cap args : List SV) (h : H) (fn : Func) : Option (SV × H) := Option.rec (motive := fun _ => Option (SV × H)) none (fun c =>
  Bool.rec (motive := fun _ => Option (SV × H)) none (code fn.ntmps none c (putL .e (app fst (app args cap)) 0) [] h fun e t d h => Ex.rec (motive := fun _ => Option (SV × H)) (finK P fn.results.toList t d h) (finK P fn.results.toList t d h) (fun _ => none) (fun _ => none) e)
    (Nat.ble (len fst (len args (len cap 0))) fn.ntmps)) fn.body
def bodyK (code : Nat → Option Nat → Code → KR (SV × H)) (code' : Nat → Option Nat → Code → Tr SV → List Nat → H → Res) (f : SV) (args : List SV) (h : H) : Option (SV × H) := match f with
  | .f n fst cap => Option.rec (motive := fun _ => Option (SV × H)) none (runK P code fst cap args h) (nth P.funcs.toList n)
  | f => bodyS P code' f args h
def evK (draw : Draw) (G : Nat) (n : Nat) : EvR := Nat.rec (motive := fun _ => EvR) ⟨fun _ _ _ _ _ _ => none, fun _ _ _ => none⟩
  (fun _ ih => ⟨fun N ro c t d h => codeK P Q draw ih.call (fun _ _ _ _ => none) G N ro c t d h fun e t d h => some (e, t, d, h),
    bodyK P (codeK P Q draw ih.call (fun _ _ _ _ => none) G) (fun N ro c t d h => codeK P Q draw ih.call (fun _ _ _ _ => none) G N ro c t d h fun e t d h => some (e, t, d, h))⟩) n
end
end
end Go.Ev
