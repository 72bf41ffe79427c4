/-
  An evaluator of closed runs: small values with names in place of blocks. No statement.
-/
import GoSem.Step
set_option linter.all false
namespace Go.Ev
inductive Tr (α : Type) where
  | e
  | n (l : Tr α) (v : Option α) (r : Tr α)
def Tr.get0 {α : Type} : Tr α → Nat → Option α
  | .e, _ => none
  | .n l v r, k => match k with
    | 0 => v
    | k + 1 => bif Nat.beq (k % 2) 0 then l.get0 (k / 2) else r.get0 (k / 2)
def Tr.put0 {α : Type} (v : Option α) : Nat → Tr α → Nat → Tr α
  | 0, t, _ => t
  | f + 1, .e, k => match k with
    | 0 => .n .e v .e
    | k + 1 => bif Nat.beq (k % 2) 0 then .n (Tr.put0 v f .e (k / 2)) none .e else .n .e none (Tr.put0 v f .e (k / 2))
  | f + 1, .n l x r, k => match k with
    | 0 => .n l v r
    | k + 1 => bif Nat.beq (k % 2) 0 then .n (Tr.put0 v f l (k / 2)) x r else .n l x (Tr.put0 v f r (k / 2))
noncomputable section
inductive Pth where
  | s
  | l (p : Pth)
  | r (p : Pth)
def pathF (f : Nat) : Nat → Pth := Nat.rec (motive := fun _ => Nat → Pth) (fun _ => .s) (fun _ g k => Nat.rec (motive := fun _ => Pth) .s (fun k _ => Bool.rec (motive := fun _ => Pth) (.r (g (Nat.div k 2))) (.l (g (Nat.div k 2))) (Nat.beq (Nat.mod k 2) 0)) k) f
def path (k : Nat) : Pth := pathF (Nat.succ k) k
def gP {α : Type} (p : Pth) : Tr α → Option α := Pth.rec (motive := fun _ => Tr α → Option α)
  (fun t => Tr.rec (motive := fun _ => Option α) none (fun _ v _ _ _ => v) t)
  (fun _ ih t => Tr.rec (motive := fun _ => Option α) none (fun l _ _ _ _ => ih l) t)
  (fun _ ih t => Tr.rec (motive := fun _ => Option α) none (fun _ _ r _ _ => ih r) t) p
def pP {α : Type} (v : Option α) (p : Pth) : Tr α → Tr α := Pth.rec (motive := fun _ => Tr α → Tr α)
  (fun t => Tr.rec (motive := fun _ => Tr α) (.n .e v .e) (fun l _ r _ _ => .n l v r) t)
  (fun _ ih t => Tr.rec (motive := fun _ => Tr α) (.n (ih .e) none .e) (fun l x r _ _ => .n (ih l) x r) t)
  (fun _ ih t => Tr.rec (motive := fun _ => Tr α) (.n .e none (ih .e)) (fun l x r _ _ => .n l x (ih r)) t) p
def Tr.get {α : Type} (t : Tr α) (k : Nat) : Option α := gP (path k) t
def Tr.set {α : Type} (t : Tr α) (k : Nat) (v : Option α) : Tr α := pP v (path k) t
inductive SV where
  | b (x : Bool)
  | i (k : IntKind) (n : Int)
  | p (a : Option (Nat × Nat))
  | s (a : Option (Nat × Nat)) (len cap : Nat)
  | o (n i len : Nat)
  | z
  | m
  | f (fn : Nat) (fst cap : List SV)
  | y (l : Nat)
  | nf
  | a (l : List SV)
  | t (l : List SV)
inductive SO where
  | c (e : TypeId) (n : Nat) (cs : Tr SV)
  | w (e s n : Nat) (cs : Tr SV)
  | l (st : LoopState) (pend : Option Code) (N : Nat) (tmps : Tr SV) (params : List Nat) (asg body : Code) (df : Nat)
  | d (taken : Bool)
  | g (n : Nat) (cs : Tr SV)
structure H where
  h : Tr SO
  nx : Nat
def H.get (h : H) (n : Nat) : Option SO := h.h.get n
def H.put (h : H) (n : Nat) (o : Option SO) : H := ⟨h.h.set n o, h.nx⟩
def H.add (h : H) (o : SO) : H := ⟨h.h.set h.nx (some o), h.nx + 1⟩
/-- at a name of the caller's choice -/
def H.addA (h : H) (m : Nat) (o : SO) : H := ⟨h.h.set m (some o), bif Nat.beq m h.nx then h.nx + 1 else h.nx⟩
def nth {α : Type} : List α → Nat → Option α
  | [], _ => none
  | x :: l, k => match k with
    | 0 => some x
    | k + 1 => nth l k
def len {α : Type} : List α → Nat → Nat
  | [], n => n
  | _ :: l, n => len l (n + 1)
def take {α : Type} : Nat → List α → List α
  | 0, _ => []
  | n + 1, l => match l with | [] => [] | x :: l => x :: take n l
def drop {α : Type} : Nat → List α → List α
  | 0, l => l
  | n + 1, l => match l with | [] => [] | _ :: l => drop n l
def app {α : Type} : List α → List α → List α
  | [], m => m
  | x :: l, m => x :: app l m
def rep {α : Type} (l : List α) : Nat → List α
  | 0 => []
  | n + 1 => app l (rep l n)
def mapO {α β : Type} (f : α → Option β) : List α → Option (List β)
  | [] => some []
  | x :: l => (f x).bind fun y => (mapO f l).bind fun r => some (y :: r)
def ofS : Value → Option SV
  | .bool b => some (.b b)
  | .int k n => some (.i k n)
  | .pointer none => some (.p none)
  | .slice none n c => some (.s none n c)
  | .map none => some .m
  | .nilFunc => some .nf
  | _ => none
def ofV : Value → Option SV
  | .agg cs => (mapO ofS cs.toList).bind fun l => some (.a l)
  | .tuple cs => (mapO ofS cs.toList).bind fun l => some (.t l)
  | .func (.func f) fs cs => bif Nat.beq fs.toList.length 0 && Nat.beq cs.toList.length 0 then some (.f f [] []) else none
  | v => ofS v
def cellsOf : SV → List SV
  | .a l => l
  | v => [v]
def undefS : SV := .t []
def asP : SV → Option (Nat × Nat)
  | .p (some a) => some a
  | _ => none
def asN : SV → Option Nat
  | .i _ (.ofNat n) => some n
  | _ => none
def asB : SV → Option Bool
  | .b b => some b
  | _ => none
def asA : SV → Option (List SV)
  | .a l => some l
  | _ => none
def asT : SV → Option (List SV)
  | .t l => some l
  | _ => none
def sc : SV → Bool
  | .a _ => false
  | .t _ => false
  | _ => true
def chk (b : Bool) : Option Unit := bif b then some () else none
def TFr := Tr SV
def gt (t : Tr SV) (i : Nat) : SV := Option.rec (motive := fun _ => SV) undefS (fun v => v) (t.get i)
theorem gt_def (t : Tr SV) (i : Nat) : gt t i = (t.get i).getD undefS := by unfold gt; cases t.get i <;> rfl
section
variable (G : Nat)
def opd (t : Tr SV) : Operand → Option SV
  | .tmp i => some (gt t i)
  | .const v => ofV v
  | .global g => bif Nat.blt g G then some (.p (some (g, 0))) else none
  | .func f => some (.f f [] [])
end
section
variable (P : Program)
def ty (t : Nat) : Option TypeInfo := nth P.types.toList t
def und (t : Nat) : Option TypeDesc := (ty P t).bind fun i => match i.desc with
    | .named _ u => (ty P u).bind fun j => some j.desc
    | d => some d
def isAg : TypeDesc → Bool
  | .struct _ => true
  | .array _ _ => true
  | _ => false
def szOf (t : Nat) : Option Nat := (ty P t).bind fun i => some i.size
def zeroS (t : Nat) : Option SV := (ty P t).bind fun i => i.zero.bind ofV
def asSl : TypeDesc → Option Nat
  | .slice e => some e
  | _ => none
end
def big (k : IntKind) : Nat := match k with
  | .i8 => 128 | .u8 => 256 | .i16 => 32768 | .u16 => 65536 | .i32 => 2147483648 | .u32 => 4294967296
  | .i64 => 9223372036854775808 | .u64 => 18446744073709551616
def wr (k : IntKind) (n : Int) : Int := match n with
  | .ofNat m => bif Nat.blt m (big k) then .ofNat m else k.wrap (.ofNat m)
  | .negSucc m => k.wrap (.negSucc m)
def ilt : Int → Int → Bool
  | .ofNat a, .ofNat b => Nat.blt a b
  | .negSucc _, .ofNat _ => true
  | .ofNat _, .negSucc _ => false
  | .negSucc a, .negSucc b => Nat.blt b a
def ieq : Int → Int → Bool
  | .ofNat a, .ofNat b => Nat.beq a b
  | .negSucc a, .negSucc b => Nat.beq a b
  | _, _ => false
def iadd : Int → Int → Int
  | .ofNat a, .ofNat b => .ofNat (a + b)
  | a, b => a + b
def isub : Int → Int → Int
  | .ofNat a, .ofNat b => bif Nat.ble b a then .ofNat (a - b) else .ofNat a - .ofNat b
  | a, b => a - b
def GREAT : Nat := 1000000
def keq (a b : IntKind) : Bool := Nat.beq a.ctorIdx b.ctorIdx
def leq : List SV → List SV → Option Bool
  | [], [] => some true
  | .i k x :: l, .i k' y :: m => bif keq k k' then (leq l m).bind fun r => some (bif ieq x y then r else false) else none
  | _, _ => none
def iop (op : BinOp) (k : IntKind) (x y : Int) : Option SV := match op with
  | .add => some (.i k (wr k (iadd x y)))
  | .sub => some (.i k (wr k (isub x y)))
  | .mul => match x, y with
    | .ofNat a, .ofNat b => some (.i k (wr k (.ofNat (a * b))))
    | _, _ => none
  | .quo => match x, y with
    | .ofNat a, .ofNat (b + 1) => some (.i k (wr k (.ofNat (a / (b + 1)))))
    | _, _ => none
  | .rem => match x, y with
    | .ofNat a, .ofNat (b + 1) => some (.i k (.ofNat (a % (b + 1))))
    | _, _ => none
  | .and => match x, y with
    | .ofNat a, .ofNat b => bif Nat.blt a (big k) && Nat.blt b (big k) then some (.i k (.ofNat (Nat.land a b))) else none
    | _, _ => none
  | .or => match x, y with
    | .ofNat a, .ofNat b => bif Nat.blt a (big k) && Nat.blt b (big k) then some (.i k (.ofNat (Nat.lor a b))) else none
    | _, _ => none
  | .xor => match x, y with
    | .ofNat a, .ofNat b => bif Nat.blt a (big k) && Nat.blt b (big k) then some (.i k (.ofNat (Nat.xor a b))) else none
    | _, _ => none
  | .eql => some (.b (ieq x y))
  | .neq => some (.b (!ieq x y))
  | .lss => some (.b (ilt x y))
  | .leq => some (.b (!ilt y x))
  | .gtr => some (.b (ilt y x))
  | .geq => some (.b (!ilt x y))
  | _ => none
section
variable (P : Program) (Q : List Nat)
/-- what is compared that is no number: a pointer with nil, rows of numbers of the types of Q -/
def eqS (t : Nat) (x y : SV) : Option Bool := match x, y with
  | .p a, .p none => (und P t).bind fun d => match d with | .pointer _ => some a.isNone | _ => none
  | .b a, .b b => (und P t).bind fun d => match d with | .bool => some (a == b) | _ => none
  | .a l, .a m => (szOf P t).bind fun n => bif Q.any (Nat.beq t) && Nat.beq (len l 0) n && Nat.beq (len m 0) n then leq l m else none
  | _, _ => none
def bop (op : BinOp) (t : Nat) (x y : SV) : Option SV := match op, x, y with
  | .shl, .i k (.ofNat a), .i _ (.ofNat b) => bif Nat.ble b GREAT then some (.i k (wr k (.ofNat (a * 2 ^ (bif Nat.ble b k.bits then b else k.bits))))) else none
  | .shr, .i k (.ofNat a), .i _ (.ofNat b) => bif Nat.ble b GREAT then some (.i k (.ofNat (a / 2 ^ (bif Nat.ble b k.bits then b else k.bits)))) else none
  | op, .i k a, .i k' b => bif keq k k' then iop op k a b else none
  | .eql, x, y => (eqS P Q t x y).bind fun r => some (.b r)
  | .neq, x, y => (eqS P Q t x y).bind fun r => some (.b (!r))
  | _, _, _ => none
def uop (op : UnOp) (x : SV) : Option SV := match op, x with
  | .not, .b x => some (.b (!x))
  | .neg, .i k n => some (.i k (wr k (isub 0 n)))
  | .xor, .i k (.ofNat n) => bif k.signed then none else bif Nat.blt n (big k) then some (.i k (.ofNat (Nat.xor (big k - 1) n))) else none
  | _, _ => none
def conv (dst : Nat) (x : SV) : Option SV := match x with
  | .i _ n => (und P dst).bind fun d => match d with | .int k => some (.i k (wr k n)) | _ => none
  | _ => none
def frc {γ : Type} (k : Nat) (F : Nat → γ) : γ := Nat.rec (motive := fun _ => γ) (F 0) (fun m _ => F m) (Nat.succ k)
def readL (t : Tr SV) (n : Nat) : Nat → Option (List SV) := Nat.rec (motive := fun _ => Nat → Option (List SV)) (fun _ => some [])
  (fun _ ih k => Option.rec (motive := fun _ => Option (List SV)) none (fun v => Option.rec (motive := fun _ => Option (List SV)) none (fun l => some (v :: l)) (frc (Nat.succ k) ih)) (t.get k)) n
theorem readL_zero (t : Tr SV) (k : Nat) : readL t 0 k = some [] := rfl
theorem readL_succ (t : Tr SV) (n k : Nat) : readL t (n + 1) k = (t.get k).bind fun v => (readL t n (k + 1)).bind fun l => some (v :: l) := by
  show Option.rec (motive := fun _ => Option (List SV)) none (fun v => Option.rec (motive := fun _ => Option (List SV)) none (fun l => some (v :: l)) (readL t n (k + 1))) (t.get k) = _
  cases t.get k with
  | none => rfl
  | some v => show Option.rec (motive := fun _ => Option (List SV)) none (fun l => some (v :: l)) (readL t n (k + 1)) = (readL t n (k + 1)).bind _; cases readL t n (k + 1) <;> rfl
def putL (t : Tr SV) (l : List SV) (k : Nat) : Tr SV := List.rec (motive := fun _ => Tr SV → Nat → Tr SV) (fun t _ => t) (fun v _ ih t k => frc (Nat.succ k) (ih (t.set k (some v)))) l t k
theorem putL_nil (t : Tr SV) (k : Nat) : putL t [] k = t := rfl
theorem putL_cons (t : Tr SV) (v : SV) (l : List SV) (k : Nat) : putL t (v :: l) k = putL (t.set k (some v)) l (k + 1) := rfl
def loadC (h : H) (a : Nat × Nat) (n : Nat) : Option (List SV) := (h.get a.1).bind fun o => match o with
  | .c _ m cs => bif Nat.ble (a.2 + n) m then readL cs n a.2 else none
  | .w _ _ m cs => bif Nat.ble (a.2 + n) m then readL cs n a.2 else none
  | .g m cs => bif Nat.ble (a.2 + n) m then readL cs n a.2 else none
  | _ => none
def storeC (h : H) (a : Nat × Nat) (l : List SV) : Option H := (h.get a.1).bind fun o => match o with
  | .c e m cs => bif Nat.ble (a.2 + len l 0) m then some (h.put a.1 (some (.c e m (putL cs l a.2)))) else none
  | .w e s m cs => bif Nat.ble (a.2 + len l 0) m then some (h.put a.1 (some (.w e s m (putL cs l a.2)))) else none
  | _ => none
def loadT (h : H) (t : Nat) (a : Nat × Nat) : Option SV := (und P t).bind fun d => bif isAg d then
    (szOf P t).bind fun n => (loadC h a n).bind fun l => some (.a l)
  else (loadC h a 1).bind fun l => nth l 0
def storeT (h : H) (t : Nat) (a : Nat × Nat) (v : SV) : Option H := (szOf P t).bind fun n =>
  bif Nat.beq (len (cellsOf v) 0) n then (match v with
    | .a l => storeC h a l
    | v => bif sc v then storeC h a [v] else none) else none
def row (e : Nat) (l : List SV) : SO := .c e (len l 0) (putL .e l 0)
def fieldOf (t f : Nat) : Option Field := (und P t).bind fun d => match d with
  | .struct fs => nth fs.toList f
  | _ => none
def fillS (place : Nat → Option (Nat × Nat)) (cells : List SV) : List (Nat × SV) → Option (List SV)
  | [] => some cells
  | x :: rest => (place x.1).bind fun q => bif Nat.beq (len (cellsOf x.2) 0) q.2 && Nat.ble (q.1 + q.2) (len cells 0) && (cellsOf x.2).all sc then
        fillS place (app (take q.1 cells) (app (cellsOf x.2) (drop (q.1 + q.2) cells))) rest else none
def buildS (t : Nat) (parts : List (Nat × SV)) : Option SV := (zeroS P t).bind fun z => (asA z).bind fun z => (und P t).bind fun d => match d with
  | .struct fs => (mapO (fun f => (szOf P f.type).bind fun s => some (f.offset, s)) fs.toList).bind fun places => (fillS (nth places) z parts).bind fun l => some (.a l)
  | .array _ e => (szOf P e).bind fun s => (fillS (fun i => some (i * s, s)) z parts).bind fun l => some (.a l)
  | _ => none
def bnd (x : Option SV) (y : Nat) (d : Nat) : Option Nat := match x with
  | none => some d
  | some v => (asN v).bind fun n => bif Nat.ble n y then some n else none
def sliceS (hp : H) (t : Nat) (x : SV) (lo hi mx : Option SV) : Option SV := (und P t).bind fun d => match d, x with
  | .array n e, .p (some a) => (bnd mx n n).bind fun m => (bnd hi m n).bind fun h => (bnd lo h 0).bind fun l => (szOf P e).bind fun s =>
      bif mx.isSome && hi.isNone then none else bif Nat.ble h m then some (.s (some (bif Nat.beq m l then a else (a.1, a.2 + l * s))) (h - l) (m - l)) else none
  | .slice e, .s a len cap => (bnd mx cap cap).bind fun m => (bnd hi m len).bind fun h => (bnd lo h 0).bind fun l => (szOf P e).bind fun s =>
      bif mx.isSome && hi.isNone then none else
      some (.s (bif Nat.beq m l then a else match a with | some a => some (a.1, a.2 + l * s) | none => none) (h - l) (m - l))
  | .slice e, .o n i len => (szOf P e).bind fun s => (hp.get n).bind fun o => match o with
      | .w _ s' mc _ => bif Nat.beq s s' && Nat.blt 0 s && Nat.ble (i + len) (mc / s) then
        (match mx with
        | some mv => (bnd (some mv) (mc / s - i) 0).bind fun m => (bnd hi m 0).bind fun h => (bnd lo h 0).bind fun l =>
            bif hi.isNone then none else some (.s (some (bif Nat.beq m l then (n, i * s) else (n, (i + l) * s))) (h - l) (m - l))
        | none => (bnd hi (mc / s - i) len).bind fun h => (bnd lo h 0).bind fun l =>
            bif Nat.blt l (mc / s - i) then some (.o n (i + l) (h - l)) else (bif Nat.beq l h then some .z else none)) else none
      | _ => none
  | _, _ => none
def idxA (hp : H) (t : Nat) (x : SV) (i : Nat) : Option SV := (und P t).bind fun d => match d, x with
  | .array n e, .p (some a) => bif Nat.blt i n then (szOf P e).bind fun s => some (.p (some (a.1, a.2 + i * s))) else none
  | .slice e, .s (some a) n _ => bif Nat.blt i n then (szOf P e).bind fun s => some (.p (some (a.1, a.2 + i * s))) else none
  | .slice e, .o b j n => bif Nat.blt i n then (szOf P e).bind fun s => (hp.get b).bind fun o => match o with
      | .w _ s' _ _ => bif Nat.beq s s' then some (.p (some (b, (j + i) * s))) else none
      | _ => none
    else none
  | _, _ => none
def partS (t : Nat) (l : List SV) (off : Nat) : Option SV := (und P t).bind fun d => bif isAg d then
    (szOf P t).bind fun s => bif Nat.ble (off + s) (len l 0) then some (.a (take s (drop off l))) else none
  else nth l off
def idxV (t : Nat) (l : List SV) (i : Nat) : Option SV := (und P t).bind fun d => match d with
  | .array n e => bif Nat.blt i n then (szOf P e).bind fun s => partS P e l (i * s) else none
  | _ => none
def lenS (t : Nat) (x : SV) : Option Nat := (und P t).bind fun d => match d, x with
  | .array n _, _ => some n
  | .slice _, .s _ n _ => some n
  | .slice _, .o _ _ n => some n
  | .slice _, .z => some 0
  | _, _ => none
def lenV : SV → Option Nat
  | .s _ n _ => some n
  | .o _ _ n => some n
  | .z => some 0
  | _ => none
/-- the first n elements (of size s) of a slice, their cells -/
def firstC (h : H) (s n : Nat) : SV → Option (List SV)
  | .s (some a) _ _ => bif Nat.beq (n * s) 0 then some [] else loadC h a (n * s)
  | .s none _ _ => bif Nat.beq n 0 then some [] else none
  | .o b i _ => bif Nat.beq (n * s) 0 then some [] else (h.get b).bind fun o => match o with
    | .w _ s' _ _ => bif Nat.beq s s' then loadC h (b, i * s) (n * s) else none
    | _ => none
  | .z => bif Nat.beq n 0 then some [] else none
  | _ => none
def appS (h : H) (ts : List Nat) (x y : SV) : Option (SV × H) := match ts with
  | [t, u] => (und P t).bind fun d => (asSl d).bind fun e => (und P u).bind fun d' => (asSl d').bind fun _ => (ty P e).bind fun i => (lenV y).bind fun n =>
      (firstC h i.size n y).bind fun new => i.zero.bind fun z => bif Nat.ble n GREAT && Nat.ble i.bytes GREAT && Nat.blt 0 i.size && Nat.beq z.cells.toList.length i.size then (match x with
        | .s a ln cap => bif Nat.beq n 0 then (bif Nat.ble ln cap then some (x, h) else none) else bif Nat.ble (ln + n) cap then
            (match a with
             | some a => (storeC h (a.1, a.2 + ln * i.size) new).bind fun h => some (.s (some a) (ln + n) cap, h)
             | none => none)
          else bif Nat.ble ln GREAT then (firstC h i.size ln x).bind fun old => some (.o h.nx 0 (ln + n), h.add (.w e i.size ((ln + n) * i.size) (putL .e (app old new) 0))) else none
        | .o b j ln => (h.get b).bind fun o => match o with
          | .w e' s' m _ => bif Nat.beq i.size s' && Nat.beq e e' then (bif Nat.beq n 0 then (bif Nat.ble ((j + ln) * i.size) m then some (x, h) else none) else bif Nat.ble ((j + ln + n) * i.size) m then
              (storeC h (b, (j + ln) * i.size) new).bind fun h => some (.o b j (ln + n), h)
            else bif Nat.beq j 0 && Nat.ble ln GREAT then (firstC h i.size ln x).bind fun old =>
                some (.o h.nx 0 (ln + n), (h.put b none).add (.w e i.size ((ln + n) * i.size) (putL .e (app old new) 0))) else none) else none
          | _ => none
        | _ => none) else none
  | _ => none
def copyS (h : H) (ts : List Nat) (x y : SV) : Option (SV × H) := match ts with
  | [t, _] => (und P t).bind fun d => (asSl d).bind fun e => (szOf P e).bind fun s => (lenV x).bind fun dl => (lenV y).bind fun m =>
        (firstC h s (Nat.min m dl) y).bind fun l => bif Nat.beq (Nat.min m dl) 0 then some (.i .i64 0, h) else (match x with
          | .s (some a) _ _ => (storeC h a l).bind fun h => some (.i .i64 (.ofNat (Nat.min m dl)), h)
          | _ => none)
  | _ => none
def clearS (h : H) (ts : List Nat) (x : SV) : Option (SV × H) := match ts with
  | [t] => (und P t).bind fun d => (asSl d).bind fun e => (lenV x).bind fun n => bif Nat.beq n 0 then some (undefS, h) else
      (szOf P e).bind fun s => (zeroS P e).bind fun z => bif Nat.beq (len (cellsOf z) 0) s && (cellsOf z).all sc then (match x with
        | .s (some a) _ _ => (storeC h a (rep (cellsOf z) n)).bind fun h => some (undefS, h)
        | .o b i _ => (h.get b).bind fun o => match o with
          | .w _ s' _ _ => bif Nat.beq s s' then (storeC h (b, i * s) (rep (cellsOf z) n)).bind fun h => some (undefS, h) else none
          | _ => none
        | _ => none) else none
  | _ => none
def mm (lt : Bool) (x y : SV) : Option SV := match x, y with
  | .i k a, .i _ b => some (.i k (bif lt then (bif ilt b a then b else a) else (bif ilt a b then b else a)))
  | _, _ => none
def opds (G : Nat) (t : Tr SV) : List Operand → Option (List SV)
  | [] => some []
  | x :: l => (opd G t x).bind fun v => (opds G t l).bind fun r => some (v :: r)
def parts (G : Nat) (t : Tr SV) : List (Nat × Operand) → Option (List (Nat × SV))
  | [] => some []
  | x :: l => (opd G t x.2).bind fun v => (parts G t l).bind fun r => some ((x.1, v) :: r)
def optd (G : Nat) (t : Tr SV) : Option Operand → Option (Option SV)
  | none => some none
  | some x => (opd G t x).bind fun v => some (some v)
abbrev Caller := SV → List SV → H → Option (SV × H)
def pureO (r : Option SV) (h : H) : Option (SV × H) := r.bind fun v => some (v, h)
def bltn (b : Builtin) (ts : List Nat) (l : List SV) (h : H) : Option (SV × H) := match b, l with
  | .len, [x] => match ts with | [t] => (lenS P t x).bind fun n => some (.i .i64 (.ofNat n), h) | _ => none
  | .append, [x, y] => appS P h ts x y
  | .copy, [x, y] => copyS P h ts x y
  | .clear, [x] => clearS P h ts x
  | .min, [x, y] => pureO (mm true x y) h
  | .max, [x, y] => pureO (mm false x y) h
  | _, _ => none
def nilC : SV → Option SV
  | .p none => none
  | .nf => none
  | .a _ => none
  | .t _ => none
  | v => some v
/-- operations that run no code of the program's -/
def op1 (G m : Nat) (t : Tr SV) (h : H) (o : Op) : Option (SV × H) := match o with
  | .move x => pureO (opd G t x) h
  | .assign x => pureO (opd G t x) h
  | .pick c a b => (opd G t c).bind fun v => (asB v).bind fun q => pureO (opd G t (bif q then a else b)) h
  | .binOp op xt x y _ => (opd G t x).bind fun a => (opd G t y).bind fun b => pureO (bop P Q op xt a b) h
  | .unOp op _ x => (opd G t x).bind fun a => pureO (uop op a) h
  | .load e x => (opd G t x).bind fun v => (asP v).bind fun a => pureO (loadT P h e a) h
  | .store e x y => (opd G t x).bind fun v => (asP v).bind fun a => (opd G t y).bind fun u => (storeT P h e a u).bind fun h => some (undefS, h)
  | .nilCheck x => (opd G t x).bind fun v => pureO (nilC v) h
  | .convert s d x => (opd G t x).bind fun a => (und P s).bind fun _ => pureO (conv P d a) h
  | .fieldAddr s x f => (opd G t x).bind fun v => (asP v).bind fun a => (fieldOf P s f).bind fun f => (szOf P f.type).bind fun n => bif Nat.blt 0 n then some (.p (some (a.1, a.2 + f.offset)), h) else none
  | .field s x f => (opd G t x).bind fun v => (asA v).bind fun l => (fieldOf P s f).bind fun f => pureO (partS P f.type l f.offset) h
  | .indexAddr e x ix => (opd G t x).bind fun a => (opd G t ix).bind fun b => (asN b).bind fun i => pureO (idxA P h e a i) h
  | .index e x ix => (opd G t x).bind fun a => (asA a).bind fun l => (opd G t ix).bind fun b => (asN b).bind fun i => pureO (idxV P e l i) h
  | .extract x n => (opd G t x).bind fun v => (asT v).bind fun l => pureO (nth l n) h
  | .alloc e => (zeroS P e).bind fun z => bif sc z || isA z then some (.p (some (m, 0)), h.addA m (row e (cellsOf z))) else none
  | .box e x => (opd G t x).bind fun z => bif sc z || isA z then some (.p (some (m, 0)), h.addA m (row e (cellsOf z))) else none
  | .build e ps => (parts G t ps.toList).bind fun l => pureO (buildS P e l) h
  | .buildSlice e n ps => (und P e).bind fun d => (asSl d).bind fun e => (parts G t ps.toList).bind fun l => (szOf P e).bind fun s => (zeroS P e).bind fun z =>
      bif Nat.beq (len (cellsOf z) 0) s && Nat.ble (n * s) 16777216 && (cellsOf z).all sc then (fillS (fun i => some (i * s, s)) (rep (cellsOf z) n) l).bind fun cs => some (.s (some (m, 0)) n n, h.addA m (row e cs)) else none
  | .makeSlice e x y => (und P e).bind fun d => (asSl d).bind fun e => (opd G t x).bind fun a => (opd G t y).bind fun b => (asN a).bind fun n => (asN b).bind fun c => (ty P e).bind fun i => i.zero.bind fun z' => (ofV z').bind fun z =>
      bif Nat.ble n c && Nat.ble c GREAT && Nat.ble i.bytes GREAT && Nat.beq (len (cellsOf z) 0) i.size && (cellsOf z).all sc then some (.s (some (m, 0)) n c, h.addA m (row e (rep (cellsOf z) c))) else none
  | .slice e x lo hi mx => (opd G t x).bind fun x => (optd G t lo).bind fun lo => (optd G t hi).bind fun hi => (optd G t mx).bind fun mx => pureO (sliceS P h e x lo hi mx) h
  | .makeFunc (.func f) fst cap => (opds G t fst.toList).bind fun k => (opds G t cap.toList).bind fun l => some (.f f k l, h)
  | .call c => match c.callee with
    | .builtin b => (opds G t c.args.toList).bind fun l => bltn P b c.argTypes.toList l h
    | _ => none
  | _ => none
where
  isA : SV → Bool
    | .a _ => true
    | _ => false
def callee : Op → Option (Operand × List Operand)
  | .call c => match c.callee with
    | .value f => some (f, c.args.toList)
    | _ => none
  | _ => none
/-- what neither makes nor writes memory, nor runs code -/
def quiet : Op → Bool
  | .move _ => true
  | .assign _ => true
  | .pick .. => true
  | .binOp .. => true
  | .unOp .. => true
  | .load .. => true
  | .nilCheck _ => true
  | .convert .. => true
  | .fieldAddr .. => true
  | .field .. => true
  | .indexAddr .. => true
  | .index .. => true
  | .extract .. => true
  | .build .. => true
  | .slice .. => true
  | .makeFunc .. => true
  | .call c => match c.callee with
    | .builtin .len => true
    | .builtin .min => true
    | .builtin .max => true
    | _ => false
  | _ => false
def opS (call : Caller) (G m : Nat) (t : Tr SV) (h : H) (o : Op) : Option (SV × H) := match callee o with
  | some q => (opd G t q.1).bind fun f => (opds G t q.2).bind fun l => call f l h
  | none => op1 P Q G m t h o
def wantS (t : Tr SV) (ops : List Oper) (o : Oper) : Bool := match o.guard with
  | none => true
  | some (j, b) => match nth ops j with
    | none => false
    | some q => match q.dst with
      | none => false
      | some d => match gt t d with
        | .b c => bif b then c else !c
        | _ => false
def putD (N : Nat) (t : Tr SV) (d : Option Nat) (v : SV) : Option (Tr SV) := match d with
  | some d => bif Nat.blt d N then some (t.set d (some v)) else none
  | none => some t
def opsS (call : Caller) (G N : Nat) (all : List Oper) : List Oper → Tr SV → H → Option (Tr SV × H)
  | [], t, h => some (t, h)
  | o :: l, t, h => bif wantS t all o then (opS P Q call G h.nx t h o.op).bind fun r => (putD N t o.dst r.1).bind fun t => opsS call G N all l t r.2
    else (putD N t o.dst undefS).bind fun t => opsS call G N all l t h
/-! ## code -/
inductive Ex where
  | normal
  | ret
  | exit (id : Nat)
  | goto (l : Nat)
abbrev Res := Option (Ex × Tr SV × List Nat × H)
def iter (body : Tr SV → List Nat → H → Res) : Nat → Tr SV → List Nat → H → Res
  | 0, _, _, _ => none
  | n + 1, t, d, h => (body t d h).bind fun r => match r.1 with
    | .normal => iter body n r.2.1 r.2.2.1 r.2.2.2
    | _ => some r
def LIM : Nat := 100000
abbrev Draw := Caller → Nat → Nat → List Oper → Tr SV → H → Option (Tr SV × H)
def isBusy : LoopState → Bool
  | .busy => true
  | _ => false
def jumpE : Option Code → Option Ex
  | none => some .normal
  | some .ret => some .ret
  | some (.exit i) => some (.exit i)
  | some (.goto i) => some (.goto i)
  | _ => none
def codeS (draw : Draw) (call : Caller) (again : Code → Tr SV → List Nat → H → Res) (G N : Nat) (ro : Option Nat) : Code → Tr SV → List Nat → H → Res
  | .skip, t, d, h => some (.normal, t, d, h)
  | .label _, t, d, h => some (.normal, t, d, h)
  | .region _ ops dr, t, d, h => (bif dr then draw call G N ops.toList t h else opsS P Q call G N ops.toList ops.toList t h).bind fun r => some (.normal, r.1, d, r.2)
  | .seq a b, t, d, h => (codeS draw call again G N ro a t d h).bind fun r => match r.1 with
    | .normal => codeS draw call again G N ro b r.2.1 r.2.2.1 r.2.2.2
    | _ => some r
  | .cond c a b, t, d, h => (opd G t c).bind fun v => (asB v).bind fun q => bif q then codeS draw call again G N ro a t d h else codeS draw call again G N ro b t d h
  | .block id c, t, d, h => (codeS draw call again G N ro c t d h).bind fun r => match r.1 with
    | .exit i => bif Nat.beq i id then some (.normal, r.2) else some r
    | _ => some r
  | .loop c, t, d, h => iter (codeS draw call again G N ro c) LIM t d h
  | .scope c, t, d, h => (codeS draw call again G N ro c t d h).bind fun r => match r.1 with
    | .goto _ => none
    | _ => some r
  | .exit i, t, d, h => some (.exit i, t, d, h)
  | .goto l, t, d, h => some (.goto l, t, d, h)
  | .ret, t, d, h => some (.ret, t, d, h)
  | .rangeFunc f ps asg body, t, d, h => (opd G t f).bind fun v => match v with
    | .f _ _ _ => (match ro with
      | none => some (h.nx, h.add (.d false), [h.nx])
      | some l0 => (h.get l0).bind fun o => match o with
        | .l _ _ _ _ _ _ _ df => some (df, h, [])
        | _ => none).bind fun q =>
      (call v [.y q.2.1.nx] (q.2.1.add (.l .ready none N t ps.toList asg body q.1))).bind fun r => (r.2.get q.2.1.nx).bind fun o => match o with
        | .l st pe N' tm ps' asg' body' df => bif isBusy st then none else (jumpE pe).bind fun e => some (e, t, app q.2.2 d, r.2.put q.2.1.nx (some (.l .exhausted pe N' tm ps' asg' body' df)))
        | _ => none
    | _ => none
  | .refuse _, _, _, _ => none
def resS (h : H) (t : Tr SV) : List ResultVar → Option (List SV)
  | [] => some []
  | r :: l => (match r with
      | .tmp i => some (gt t i)
      | .cell a e => (asP (gt t a)).bind fun a => loadT P h e a).bind fun v => (resS h t l).bind fun r => some (v :: r)
def takeD (h : H) : List Nat → Option H
  | [] => some h
  | n :: l => (h.get n).bind fun o => match o with
    | .d false => takeD (h.put n (some (.d true))) l
    | _ => none
def one : List SV → SV
  | [v] => v
  | l => .t l
def parm (N : Nat) : List Nat → List SV → Tr SV → Option (Tr SV)
  | [], [], t => some t
  | p :: ps, v :: vs, t => bif Nat.blt p N then parm N ps vs (t.set p (some v)) else none
  | _, _, _ => none
def exJ : Ex → Option Code
  | .normal => none
  | .ret => some .ret
  | .exit i => some (.exit i)
  | .goto i => some (.goto i)
def bodyS (code : Nat → Option Nat → Code → Tr SV → List Nat → H → Res) (f : SV) (args : List SV) (h : H) : Option (SV × H) := match f with
  | .f n fst cap => (nth P.funcs.toList n).bind fun fn => fn.body.bind fun c => bif Nat.ble (len fst (len args (len cap 0))) fn.ntmps then
      (code fn.ntmps none c (putL .e (app fst (app args cap)) 0) [] h).bind fun r => match r.1 with
        | .normal => (takeD r.2.2.2 r.2.2.1).bind fun h => (resS P h r.2.1 fn.results.toList).bind fun l => some (one l, h)
        | .ret => (takeD r.2.2.2 r.2.2.1).bind fun h => (resS P h r.2.1 fn.results.toList).bind fun l => some (one l, h)
        | _ => none
    else none
  | .y l => (h.get l).bind fun o => match o with
    | .l st pe N tm ps asg body df => (parm N ps args tm).bind fun t => (code N (some l) asg t [] h).bind fun r => match r.1, r.2.2.1 with
      | .normal, [] => (r.2.2.2.get l).bind fun o => match o with
        | .l .ready pe N' tm ps asg' body' df => bif Nat.beq N N' then (code N (some l) body r.2.1 [] (r.2.2.2.put l (some (.l .busy pe N' tm ps asg' body' df)))).bind fun q => match q.2.2.1 with
            | [] => (q.2.2.2.get l).bind fun o => match o with
              | .l _ _ N'' tm ps asg'' body'' df => some (.b (exJ q.1).isNone, q.2.2.2.put l (some (.l (bif (exJ q.1).isNone then .ready else .done) (exJ q.1) N'' tm ps asg'' body'' df)))
              | _ => none
            | _ => none else none
        | _ => none
      | _, _ => none
    | _ => none
  | _ => none
structure EvR where
  code : Nat → Option Nat → Code → Tr SV → List Nat → H → Res
  call : Caller
def ev (draw : Draw) (G : Nat) : Nat → EvR
  | 0 => ⟨fun _ _ _ _ _ _ => none, fun _ _ _ => none⟩
  | n + 1 => ⟨fun N ro => codeS P Q draw (ev draw G n).call (fun _ _ _ _ => none) G N ro, bodyS P (fun N ro => codeS P Q draw (ev draw G n).call (fun _ _ _ _ => none) G N ro)⟩
end
end
end Go.Ev
