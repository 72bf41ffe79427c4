import Derived.Test.YtcpbekopbeaflaaGreatDoorLrah
namespace Go.Proofs.YtcpbekopbeaflaaGreatDoor
set_option maxHeartbeats 8000000
open Go.Proofs.Tryz
open Go.RowKit
set_option linter.unusedVariables false
set_option linter.unusedSimpArgs false
set_option maxRecDepth 100000
def jq (q : Nat) (v : Value) (x : LgS) : List Value := [ptr q, .int .i64 (x.d : Int), .int .u64 (x.own : Int), .int .i64 (x.size : Int), .int .u64 (x.cnt : Int), .int .u64 (x.fst : Int), .int .u64 (x.pos : Int), v]
structure RLg (w : World) (p q : Nat) (v : Value) (x : LgS) : Prop where
 at_ : w.heap[p]? = some (.cells (jq q v x).toArray 59 (0, 0))
 row : aO bi w 0 v x.nts
def cp (p : Nat) (v : Value) (b : Nat) : Prop := b = p \/ v.ownBlock = some b
section
variable {w w' : World} {p q : Nat} {v : Value} {x : LgS} {G : Nat -> Prop}
theorem RLg.lt (h : RLg w p q v x) : ∀ b, cp p v b -> b < w.heap.size := by
 intro b hb;rcases hb with rfl | hb
 ·exact aR h.at_
 ·exact h.row.ie b hb
theorem RLg.only (h : RLg w p q v x) (ho : Only G w w') (hn : ∀ b, cp p v b -> ¬ G b) : RLg w' p q v x := ⟨ho.keep h.at_ (hn p (.inl rfl)), h.row.only ho fun b hb => hn b (.inr hb)⟩
theorem RLg.below (h : RLg w p q v x) (hb : Below w.heap.size w w') : RLg w' p q v x := h.only (Only.of_below (fun _ => False) hb) fun _ _ e => e
theorem RLg.vG (h : RLg w p q v x) : v.ownBlock ≠ some p := h.row.dl h.at_ (by decide)
theorem RLg.rng (h : RLg w p q v x) : w.rangeAt p 0 (jq q v x) := dW h.at_
theorem RLg.c0 (h : RLg w p q v x) : w.cell? ⟨p, 0, none⟩ = some (.pointer (some ⟨q, 0, none⟩)) := h.rng 0 _ rfl
theorem RLg.c1 (h : RLg w p q v x) : w.cell? ⟨p, 1, none⟩ = some (.int .i64 (x.d : Int)) := h.rng 1 _ rfl
theorem RLg.c2 (h : RLg w p q v x) : w.cell? ⟨p, 2, none⟩ = some (.int .u64 (x.own : Int)) := h.rng 2 _ rfl
theorem RLg.c3 (h : RLg w p q v x) : w.cell? ⟨p, 3, none⟩ = some (.int .i64 (x.size : Int)) := h.rng 3 _ rfl
theorem RLg.c4 (h : RLg w p q v x) : w.cell? ⟨p, 4, none⟩ = some (.int .u64 (x.cnt : Int)) := h.rng 4 _ rfl
theorem RLg.c5 (h : RLg w p q v x) : w.cell? ⟨p, 5, none⟩ = some (.int .u64 (x.fst : Int)) := h.rng 5 _ rfl
theorem RLg.c6 (h : RLg w p q v x) : w.cell? ⟨p, 6, none⟩ = some (.int .u64 (x.pos : Int)) := h.rng 6 _ rfl
theorem RLg.c7 (h : RLg w p q v x) : w.cell? ⟨p, 7, none⟩ = some (v) := h.rng 7 _ rfl
theorem RLg.yD (h : RLg w p q v x) (j : Nat) : w.frozen? ⟨p, j, none⟩ = false := frozen_of_row w p j _ _ h.at_
theorem RLg.slice (h : RLg w p q v x) : ∃ A c, v = .slice A x.nts.length c /\ x.nts.length <= c /\ c <= maxLen := h.row.form
theorem m4 : (Instr.fieldAt 59 (.pointer (some ⟨p, 0, none⟩)) 0).run prog w = .ok (.pointer (some ⟨p, 0, none⟩)) w := by kernel_rfl
theorem mj : (Instr.fieldAt 59 (.pointer (some ⟨p, 0, none⟩)) 1).run prog w = .ok (.pointer (some ⟨p, 1, none⟩)) w := by kernel_rfl
theorem agu : (Instr.fieldAt 59 (.pointer (some ⟨p, 0, none⟩)) 2).run prog w = .ok (.pointer (some ⟨p, 2, none⟩)) w := by kernel_rfl
theorem uP : (Instr.fieldAt 59 (.pointer (some ⟨p, 0, none⟩)) 3).run prog w = .ok (.pointer (some ⟨p, 3, none⟩)) w := by kernel_rfl
theorem abQ : (Instr.fieldAt 59 (.pointer (some ⟨p, 0, none⟩)) 4).run prog w = .ok (.pointer (some ⟨p, 4, none⟩)) w := by kernel_rfl
theorem kv : (Instr.fieldAt 59 (.pointer (some ⟨p, 0, none⟩)) 5).run prog w = .ok (.pointer (some ⟨p, 5, none⟩)) w := by kernel_rfl
theorem aeh : (Instr.fieldAt 59 (.pointer (some ⟨p, 0, none⟩)) 6).run prog w = .ok (.pointer (some ⟨p, 6, none⟩)) w := by kernel_rfl
theorem jA : (Instr.fieldAt 59 (.pointer (some ⟨p, 0, none⟩)) 7).run prog w = .ok (.pointer (some ⟨p, 7, none⟩)) w := by kernel_rfl
theorem agz {off : Nat} : (Instr.fieldAt 107 (.pointer (some ⟨p, off, none⟩)) 2).run prog w = .ok (.pointer (some ⟨p, off + 2, none⟩)) w := by kernel_rfl
theorem s4 {ad : Addr} {a : Option Addr} (h : w.cell? ad = some (.pointer a)) : (Instr.loadAt 25 (.pointer (some ad))).run prog w = .ok (.pointer a) w := by simp [go_sem, h]
theorem gm {ad : Addr} {A : Option Addr} {n c : Nat} (h : w.cell? ad = some (.slice A n c)) : (Instr.loadAt 57 (.pointer (some ad))).run prog w = .ok (.slice A n c) w := by simp [go_sem, h]
end
section
variable {ρ : Operand -> Value} {o : Oper} {x y : Operand} {w : World} {t r : TypeId} {a b : Nat}
theorem kC (ho : o.op = .binOp .sub t x y r) (hx : ρ x = .int .u64 ((a + b : Nat) : Int)) (hy : ρ y = .int .u64 (a : Int)) (h : a + b < 18446744073709551616) : (execOp ρ o).run prog w = .ok (.value (.int .u64 (b : Int))) w := by
 have e : IntKind.u64.wrap (((a + b : Nat) : Int) - (a : Int)) = (b : Int) := by rw [show ((a + b : Nat) : Int) - (a : Int) = (b : Int) from by omega]; exact IntWalk.u64_in _ ⟨by omega, by omega⟩
 unfold execOp;simp [ho, hx, hy, eqGuard, binOp, Op.intArith]
 simpa using e
theorem km (ho : o.op = .convert 35 3 x) (hx : ρ x = .int .u64 (a : Int)) (h : a < 9223372036854775808) : (execOp ρ o).run prog w = .ok (.value (.int .i64 (a : Int))) w := by
 have e : IntKind.i64.wrap (a : Int) = (a : Int) := IntWalk.i64_in _ ⟨by omega, by omega⟩;have hc : (convert 35 3 (.int .u64 (a : Int))).run prog w = .ok (.int .i64 (a : Int)) w := by simp [convert, go_sem, e]
 unfold execOp;simp only [ho, hx, Sem.run_bind, hc, Result.andThen_ok, Sem.run_pure]
end
theorem lX {n : Nte} (h : 1 <= n.cells /\ n.cells <= 32) : ez n.cells = bF n := by unfold ez bF; rw [if_neg (by omega)]
theorem oM {n : Int} {k : Nat} (h : ez n = k) (w : World) : Calls prog 62 #[.int .i64 n] w fun e w' => e = .returned (.int .i64 (k : Nat)) /\ w = w' := by subst h; exact lK n w
section
variable {p q N : Nat} {v : Value} {x : LgS} {M : aK}
theorem kJ (w : World) (h : RLg w p q v x) (hk : cg M x N) : Calls prog 27 #[.pointer (some ⟨p, 0, none⟩)] w fun e w' => e = .returned (.int .u64 ((x.next : Nat) : Int)) /\ Below w.heap.size w w' := by
 obtain ⟨A, c, rfl, h1, h2⟩ := h.slice;have HL := af h;have HN8 : Hid (x.nts.length < 18446744073709551616) := af (by have := hk.eig; omega);have HNX : Hid (x.fst + x.nts.length < 18446744073709551616) := af (by have := hk.nxt; have := hk.lim; unfold LgS.next at *; omega);clear h hk h1 h2;go_enter func27, ntmps27;go_upto_region 1 with fail;refine aZ (B := w.heap.size) (by kernel_rfl) ?_;refine bC 2 ?_;refine ak9 (fun _ hw => av rfl alb kv) ?_;refine ak9 (fun _ hw => aA rfl alb (b7 (RLg.c5 (HL.out.below hw)))) ?_;refine bC 2 ?_;refine ak9 (fun _ hw => av rfl alb jA) ?_;refine ak9 (fun _ hw => aA rfl alb (gm (RLg.c7 (HL.out.below hw)))) ?_;refine ak9 (fun _ hw => cI underlying57 rfl alb) ?_;refine ak9 (fun _ hw => jQ rfl alb HN8) ?_;refine ak9 (fun _ hw => iN rfl alb alb HNX) ?_;refine bC 1 ?_;refine wpQuiet_nil ?_;intro w2 hw;go_wp2_with fail;go_ret;exact ⟨rfl, hw⟩
theorem vF (w : World) (h : RLg w p q v x) (hk : cg M x N) : Calls prog 61 #[.pointer (some ⟨p, 0, none⟩)] w fun e w' => e = .returned (.int .u64 ((x.head : Nat) : Int)) /\ w = w' := by
 obtain ⟨A, c, rfl, h1, h2⟩ := h.slice;have hrd := h.row.rd;have hcell : ∀ i, i < x.nts.length -> ∃ b off, A = some ⟨b, off, none⟩ /\ w.cell? ⟨b, off + i * 4 + 2, none⟩ = some (.int .i64 (x.nts.getD i bc).cells) := fun i hi => by
  obtain ⟨b, off, e, _, hr⟩ := hrd.2 i hi;exact ⟨b, off, e, hr 2 _ rfl⟩
 have hb : ∀ i, i < x.nts.length -> x.pos + usd (x.nts.take (i + 1)) < 9223372036854775808 /\ usd (x.nts.take (i + 1)) = usd (x.nts.take i) + bF (x.nts.getD i bc) /\ ez (x.nts.getD i bc).cells = bF (x.nts.getD i bc) := fun i hi => by
  have h1 := gJ hi;have h2 := hk.vC hi;have h3 := hk.hed;have h4 := hk.lim;have h5 : x.head = x.pos + x.used := rfl;obtain ⟨n1, n2, _⟩ := hk.nts i hi;exact ⟨by omega, h1, lX ⟨n1, n2⟩⟩
 have HD : Hid (x.pos + usd (x.nts.take x.nts.length) = x.head) := af (by rw [List.take_length]; rfl);have h8 := hk.eig;have c6 := h.c6;have c7 := h.c7;have HU0 : Hid (x.pos + usd (x.nts.take 0) = x.pos) := af rfl;have HCE := fun i hi => af (hcell i hi)
 have HBD := fun i hi => af (hb i hi)
 clear h hk h1 h2 hrd hcell hb;obtain ⟨n, hn⟩ : ∃ n, x.nts.length = n := ⟨_, rfl⟩;rw [hn] at c7 h8 HCE HBD HD;clear hn;go_enter func61, ntmps61;go_wp2_with fail
 go_loop [3, 4] (fun a i => ∃ k : Nat, k <= n /\ i = .int .i64 (k : Int) /\ a = .int .u64 ((x.pos + usd (x.nts.take k) : Nat) : Int)) (fun _ i => n - (intOf i).toNat)
 case atStart => exact ⟨0, Nat.zero_le _, rfl, by rw [HU0.out]⟩
 case round =>
  obtain ⟨k, hkn, rfl, rfl⟩ := hrel;by_cases hlt : k < n
  ·obtain ⟨b, off, rfl, hce⟩ := (HCE k hlt).out;obtain ⟨g1, g2, g3⟩ := (HBD k hlt).out;obtain ⟨cc, hcc⟩ : ∃ cc, (x.nts.getD k bc).cells = cc := ⟨_, rfl⟩;obtain ⟨tk, htk⟩ : ∃ tk, bF (x.nts.getD k bc) = tk := ⟨_, rfl⟩;obtain ⟨u0, hu0⟩ : ∃ u, usd (x.nts.take k) = u := ⟨_, rfl⟩;rw [hcc] at hce g3;rw [htk] at g2 g3;rw [hu0] at g2 ⊢;have HG2 := af g2;have HG3 := af g3;have hu : x.pos + u0 + tk < 9223372036854775808 := by omega
   clear hcc htk hu0 g1 g2 g3 HCE HBD;go_upto_region 5 with fail;refine aY 3 ?_;refine ak1 (av rfl alb jA) ?_;refine ak1 (aA rfl alb (gm c7)) ?_;refine runs 1 ?_;refine ak1 (bH (E := bi) rfl alb alb hlt) ?_;refine ak1 (av rfl alb agz) ?_;refine ak1 (aA rfl alb (bm hce)) ?_;refine aD rfl (aC call62 rfl (evc alb evn)) ?_;refine (oM HG3 w).mono ?_;rintro e w' ⟨rfl, rfl⟩;refine bp ?_;refine ak1 (jQ rfl alb (by omega)) ?_;refine ak1 (iN rfl alb alb (by omega)) ?_;refine aQ 1 ?_;go_wp2_with fail
   go_round
   case rel => exact ⟨k + 1, by omega, by go_num, by rw [HG2.out, Nat.add_assoc]⟩
   case measure => simp [intOf]; omega
  ·have hkk : k = n := by omega
   subst hkk;clear hlt hkn HCE HBD;go_wp2_with fail;go_ret;refine ⟨br ?_, rfl⟩;have := HD.out;omega
theorem t0 (w : World) (h : RLg w p q v x) (hk : cg M x N) : Calls prog 61 #[.pointer (some ⟨p, 0, none⟩)] w fun e w' => e = .returned (.int .u64 ((x.head : Nat) : Int)) /\ Below w.heap.size w w' :=
 (vF w h hk).mono fun e w' ⟨he, hw⟩ => ⟨he, hw ▸ ak⟩
theorem wx (w : World) (h : RLg w p q v x) (hk : cg M x N) : Calls prog 29 #[.pointer (some ⟨p, 0, none⟩)] w fun e w' => e = .returned (.int .i64 ((x.free : Nat) : Int)) /\ Below w.heap.size w w' := by
 have HL := af h;have HK := af hk;have hu := hk.use;have hs := hk.siz;have HU : Hid (x.used < 9223372036854775808) := af (by omega);have HH : Hid (x.pos + x.used < 18446744073709551616) := af (by have := hk.hed; have := hk.lim; unfold LgS.head at *; omega);have HF : Hid (IntKind.i64.wrap ((x.size : Int) - (x.used : Int)) = ((x.free : Nat) : Int)) := af (by rw [IntWalk.i64_in _ ⟨by omega, by omega⟩]; unfold LgS.free; omega);clear h hk hu hs;go_enter func29, ntmps29;go_upto_region 1 with fail;refine aZ (B := w.heap.size) (by kernel_rfl) ?_;refine bC 2 ?_;refine ak9 (fun _ hw => av rfl alb uP) ?_;refine ak9 (fun _ hw => aA rfl alb (bm (RLg.c3 (HL.out.below hw)))) ?_;refine bC 1 ?_;refine bE rfl (fun _ => aC call61 rfl (evc alb evn)) (bl aj fun w' hw => t0 w' (HL.out.below hw) HK) ?_;simp only [aa];refine bC 2 ?_;refine ak9 (fun _ hw => av rfl alb aeh) ?_;refine ak9 (fun _ hw => aA rfl alb (b7 (RLg.c6 (HL.out.below hw)))) ?_;refine ak9 (fun _ hw => kC (a := x.pos) (b := x.used) rfl alb alb HH) ?_;refine ak9 (fun _ hw => km rfl alb HU) ?_;refine ak9 (fun _ hw => m6 rfl alb alb HF) ?_;refine bC 1 ?_;refine wpQuiet_nil ?_;intro w2 hw;go_wp2_with fail;go_ret;exact ⟨rfl, hw⟩
end
section
variable {S S' : List Blk} {x : LgS} {A : Nat -> List Cl} {N left st : Nat} {cs : List Cl} {f : Nat}
theorem afc (h : gR x cs = 0) : gc cs = 0 /\ x.nts.length < 8 /\ (dC cs).length <= x.free := by
 unfold gR at h;by_cases h1 : gc cs = 0
 ·rw [if_neg (by omega)] at h;by_cases h2 : 8 <= x.nts.length \/ x.free < (dC cs).length
  ·rw [if_pos h2] at h; cases h
  ·exact ⟨h1, by omega, by omega⟩
 ·rw [if_pos h1] at h; omega
theorem kX : bF (cU x cs) = (dC cs).length := by unfold bF cU; rw [dz]; simp
end
section
variable {S : List Blk} {x : LgS} {A : Nat -> List Cl} {N left st : Nat} {cs : List Cl} {f : Nat}
def aji (x : LgS) (cs : List Cl) (i : Nat) : Int × Blk := (cx x.size (x.head + i), (dC cs).getD i aE)
theorem iy : ow x.size x.head (dC cs) = (List.range (dC cs).length).map fun i => Stp.wr (aji x cs i).1 (aji x cs i).2 := rfl
theorem pR : (dI x cs).length = (dC cs).length + 3 := by unfold dI; rw [iy]; simp
end
theorem tZ {d : Int} {M : aK} {k : Nat} (h : Room M (k + 1)) (s : Stp) : Room (ou d M s) k := by
 cases s with
 |wr n b => exact sv h d n b
 |fl => exact yW h d
theorem lx {d : Int} {k : Nat} (l : List Stp) : ∀ {M : aK}, Room M (k + l.length) -> Room (goB d M l) k := by
 induction l with
 |nil => intro M h; exact h
 |cons s l ih =>
  intro M h;have h1 : Room (ou d M s) (k + l.length) := tZ (by rw [List.length_cons] at h; exact h) s;by_cases e : ju d M s = 0
  ·rw [(go_ok e).2]; exact ih h1
  ·rw [(jj e).2];clear ih
   induction l with
   |nil => exact h1
   |cons t l ih => exact ih (Room.less (by rw [List.length_cons] at h; exact h)) (Room.less h1)
def aiY : List Value := [.int .i64 8, .int .i64 2, .int .i64 8, .int .i64 8]
def sA : Value := .agg aiY.toArray
def Siz (w : World) : Prop := w.rangeAt 1 0 aiY
theorem Siz.below {w w' : World} (h : Siz w) (hb : Below w.heap.size w w') : Siz w' :=
 cY h (World.block_lt_of_cell? w _ (h 0 _ rfl)) hb
structure om (w : World) : Prop where
 tab : Tab w
 siz : Siz w
theorem om.below {w w' : World} (h : om w) (hb : Below w.heap.size w w') : om w' := ⟨h.tab.below hb, h.siz.below hb⟩
theorem aho : (prog.info? 201).map (·.size) = some 4 := by kernel_rfl
section
variable {ρ : Operand -> Value} {o : Oper} {x y : Operand} {w : World} {t : TypeId} {p q u : Value}
theorem qj (ho : o.op = .load 201 x) (hx : ρ x = .pointer (some ⟨1, 0, none⟩)) (h : Siz w) : (execOp ρ o).run prog w = .ok (.value sA) w :=
 eI underlying201 rfl aho ho hx h
theorem mi (ho : o.op = .index t x y) (hx : ρ x = p) (hy : ρ y = q) (h : (Instr.index t p q).run prog w = .ok u w) : (execOp ρ o).run prog w = .ok (.value u) w := by
 unfold execOp;simp only [ho, hx, hy, Sem.run_bind, h, Result.andThen_ok, Sem.run_pure]
theorem akx : (Instr.index 201 sA (.int .i64 0)).run prog w = .ok (.int .i64 8) w := by kernel_rfl
theorem akF : (Instr.index 201 sA (.int .i64 1)).run prog w = .ok (.int .i64 2) w := by kernel_rfl
theorem akJ : (Instr.index 201 sA (.int .i64 2)).run prog w = .ok (.int .i64 8) w := by kernel_rfl
theorem ako : (Instr.index 201 sA (.int .i64 3)).run prog w = .ok (.int .i64 8) w := by kernel_rfl
end
def ja (a b c d : Nat) : List Value := [.int .u64 a, .int .u64 b, .int .u64 c, .int .u64 d]
def afz (a b c d : Nat) : Value := .agg (ja a b c d).toArray
theorem abx (a b c d : Nat) : ∀ v ∈ ja a b c d, v.oneCell' = true := by
 intro v hv;simp only [ja, List.mem_cons, List.not_mem_nil, or_false] at hv;rcases hv with rfl | rfl | rfl | rfl <;> rfl
theorem akg : (prog.info? 200).map (·.size) = some 4 := by kernel_rfl
theorem xM : (prog.info? 200).map (fun i => i.zero) = some (some (afz 0 0 0 0)) := by kernel_rfl
def kO (w : World) (g a b c d : Nat) : Prop := w.heap[g]? = some (.cells (ja a b c d).toArray 200 (0, 0))
section
variable {w w' : World} {g a b c d : Nat}
theorem kO.cells (h : kO w g a b c d) : w.cell? ⟨g, 0, none⟩ = some (.int .u64 a) /\ w.cell? ⟨g, 1, none⟩ = some (.int .u64 b) /\ w.cell? ⟨g, 2, none⟩ = some (.int .u64 c) /\ w.cell? ⟨g, 3, none⟩ = some (.int .u64 d) := by
 have hr := dW h;exact ⟨hr 0 _ rfl, hr 1 _ rfl, hr 2 _ rfl, hr 3 _ rfl⟩
theorem kO.free (h : kO w g a b c d) (j : Nat) : w.frozen? ⟨g, j, none⟩ = false := frozen_of_row w g j _ _ h
theorem kO.set {a' b' c' d' j n : Nat} (h : kO w g a b c d) (e : (ja a b c d).set j (.int .u64 n) = ja a' b' c' d') : kO (w.setCell ⟨g, j, none⟩ (.int .u64 n)) g a' b' c' d' := by
 have := heap_setCell_same w g j (ja a b c d).toArray 200 (.int .u64 n) h;rw [List.setIfInBounds_toArray, e] at this;exact this
end
section
variable {ρ : Operand -> Value} {o : Oper} {x y z u v : Operand} {w : World} {g a b c d : Nat}
theorem nU (ho : o.op = .alloc 200) : (execOp ρ o).run prog w = .ok (.value (.pointer (some ⟨w.heap.size, 0, none⟩))) (w.alloc (.cells (ja 0 0 0 0).toArray 200)) := eB xM ho
theorem vv (ho : o.op = .store 200 x y) (hx : ρ x = .pointer (some ⟨w.heap.size, 0, none⟩)) (hy : ρ y = afz a b c d) : (execOp ρ o).run prog (w.alloc (.cells (ja 0 0 0 0).toArray 200)) = .ok .skip (w.alloc (.cells (ja a b c d).toArray 200)) :=
 fO akg rfl (abx a b c d) ho hx hy
theorem rE {t : TypeId} {y0 y1 y2 y3 q : Value} (ho : o.op = .build t #[(0, x), (1, y), (2, z), (3, u)]) (h0 : ρ x = y0) (h1 : ρ y = y1) (h2 : ρ z = y2) (h3 : ρ u = y3)
  (h : (Instr.build t #[(0, y0), (1, y1), (2, y2), (3, y3)]).run prog w = .ok q w) : (execOp ρ o).run prog w = .ok (.value q) w := by
 subst h0 h1 h2 h3;unfold execOp;simp only [ho, List.map_toArray, List.map_cons, List.map_nil, Sem.run_bind, h, Result.andThen_ok, Sem.run_pure]
theorem abU (a b c d : Nat) : (Instr.build 200 #[(0, .int .u64 a), (1, .int .u64 b), (2, .int .u64 c), (3, .int .u64 d)]).run prog w = .ok (afz a b c d) w := by kernel_rfl
theorem xA (a b c d : Nat) (ho : o.op = .build 200 #[(0, x), (1, y), (2, z), (3, u)]) (h0 : ρ x = .int .u64 a) (h1 : ρ y = .int .u64 b) (h2 : ρ z = .int .u64 c) (h3 : ρ u = .int .u64 d) : (execOp ρ o).run prog w = .ok (.value (afz a b c d)) w :=
 rE ho h0 h1 h2 h3 (abU a b c d)
theorem zJ (a : Nat) (r : Int) (c d : Nat) : (Instr.build 95 #[(0, .int .u64 a), (1, .int .i64 r), (2, .int .u64 c), (3, .int .u64 d)]).run prog w = .ok (mrk ⟨a, r, c, d⟩) w := by kernel_rfl
theorem lW (a : Nat) (r : Int) (c d : Nat) (ho : o.op = .build 95 #[(0, x), (1, y), (2, z), (3, u)]) (h0 : ρ x = .int .u64 a) (h1 : ρ y = .int .i64 r) (h2 : ρ z = .int .u64 c) (h3 : ρ u = .int .u64 d) : (execOp ρ o).run prog w = .ok (.value (mrk ⟨a, r, c, d⟩)) w :=
 rE ho h0 h1 h2 h3 (zJ a r c d)
theorem ixN {j : Nat} (hj : j < 4) : (Instr.indexAt 200 (.pointer (some ⟨g, 0, none⟩)) (.int .i64 (j : Int))).run prog w = .ok (.pointer (some ⟨g, j, none⟩)) w := by
 have e : (0 <= (j : Int) /\ (j : Int) < 4) := by omega
 simp [Instr.indexAt, Instr.sureAddr, asIntOf, run_underlying underlying200, Tryz.sizeOf35, Addr.add_mid, e, hj]
theorem akp : (Instr.indexAt 200 (.pointer (some ⟨g, 0, none⟩)) (.int .i64 0)).run prog w = .ok (.pointer (some ⟨g, 0, none⟩)) w := ixN (j := 0) (by omega)
theorem akr : (Instr.indexAt 200 (.pointer (some ⟨g, 0, none⟩)) (.int .i64 1)).run prog w = .ok (.pointer (some ⟨g, 1, none⟩)) w := ixN (j := 1) (by omega)
theorem akK : (Instr.indexAt 200 (.pointer (some ⟨g, 0, none⟩)) (.int .i64 2)).run prog w = .ok (.pointer (some ⟨g, 2, none⟩)) w := ixN (j := 2) (by omega)
theorem akC : (Instr.indexAt 200 (.pointer (some ⟨g, 0, none⟩)) (.int .i64 3)).run prog w = .ok (.pointer (some ⟨g, 3, none⟩)) w := ixN (j := 3) (by omega)
end
section
variable {ρ : Operand -> Value} {o : Oper} {x y : Operand} {w : World} {g b : Nat} {k : Int} {n : Nat} {ad : Addr}
theorem aaX (ho : o.op = .fieldAddr 95 x 0) (hx : ρ x = .pointer (some ⟨b, 0, none⟩)) : (execOp ρ o).run prog w = .ok (.value (.pointer (some ⟨b, 0, none⟩))) w := av ho hx aga
theorem aai (ho : o.op = .fieldAddr 95 x 1) (hx : ρ x = .pointer (some ⟨b, 0, none⟩)) : (execOp ρ o).run prog w = .ok (.value (.pointer (some ⟨b, 1, none⟩))) w := av ho hx tD
theorem rL (ho : o.op = .fieldAddr 95 x 2) (hx : ρ x = .pointer (some ⟨b, 0, none⟩)) : (execOp ρ o).run prog w = .ok (.value (.pointer (some ⟨b, 2, none⟩))) w := av ho hx ae6
theorem rP (ho : o.op = .fieldAddr 95 x 3) (hx : ρ x = .pointer (some ⟨b, 0, none⟩)) : (execOp ρ o).run prog w = .ok (.value (.pointer (some ⟨b, 3, none⟩))) w := av ho hx ag4
theorem nh (ho : o.op = .indexAddr 200 x y) (hy : ρ y = .int .i64 0) (hx : ρ x = .pointer (some ⟨g, 0, none⟩)) : (execOp ρ o).run prog w = .ok (.value (.pointer (some ⟨g, 0, none⟩))) w := dH ho hx hy akp
theorem nK (ho : o.op = .indexAddr 200 x y) (hy : ρ y = .int .i64 1) (hx : ρ x = .pointer (some ⟨g, 0, none⟩)) : (execOp ρ o).run prog w = .ok (.value (.pointer (some ⟨g, 1, none⟩))) w := dH ho hx hy akr
theorem nA (ho : o.op = .indexAddr 200 x y) (hy : ρ y = .int .i64 2) (hx : ρ x = .pointer (some ⟨g, 0, none⟩)) : (execOp ρ o).run prog w = .ok (.value (.pointer (some ⟨g, 2, none⟩))) w := dH ho hx hy akK
theorem nL (ho : o.op = .indexAddr 200 x y) (hy : ρ y = .int .i64 3) (hx : ρ x = .pointer (some ⟨g, 0, none⟩)) : (execOp ρ o).run prog w = .ok (.value (.pointer (some ⟨g, 3, none⟩))) w := dH ho hx hy akC
theorem rr (ho : o.op = .index 201 x y) (hy : ρ y = .int .i64 0) (hx : ρ x = sA) : (execOp ρ o).run prog w = .ok (.value (.int .i64 8)) w := mi ho hx hy akx
theorem rG (ho : o.op = .index 201 x y) (hy : ρ y = .int .i64 1) (hx : ρ x = sA) : (execOp ρ o).run prog w = .ok (.value (.int .i64 2)) w := mi ho hx hy akF
theorem qY (ho : o.op = .index 201 x y) (hy : ρ y = .int .i64 2) (hx : ρ x = sA) : (execOp ρ o).run prog w = .ok (.value (.int .i64 8)) w := mi ho hx hy akJ
theorem qR (ho : o.op = .index 201 x y) (hy : ρ y = .int .i64 3) (hx : ρ x = sA) : (execOp ρ o).run prog w = .ok (.value (.int .i64 8)) w := mi ho hx hy ako
end
theorem oI : (prog.info? 178).map (·.size) = some 44 := by kernel_rfl
theorem s7 : (prog.info? 178).map (fun i => i.zero) = some (some (arr z44)) := by kernel_rfl
theorem abu : prog.eqGuardType prog.depth 178 = false := by kernel_rfl
section
variable {ρ : Operand -> Value} {o : Oper} {x y : Operand} {w : World} {b off g c : Nat} {t : TypeId} {l : List UInt8}
theorem kf (hl : l.length = 44) (ho : o.op = .load 178 x) (hx : ρ x = .pointer (some ⟨b, off, none⟩)) (hc : w.rangeAt b off (vals l)) : (execOp ρ o).run prog w = .ok (.value (arr l)) w :=
 eI underlying178 rfl (by rw [bZ, hl]; exact oI) ho hx hc
theorem jr (ho : o.op = .alloc 178) : (execOp ρ o).run prog w = .ok (.value (.pointer (some ⟨w.heap.size, 0, none⟩))) (w.alloc (.cells (vals z44).toArray 178)) := eB s7 ho
theorem ss (hl : l.length = 44) (ho : o.op = .store 178 x y) (hx : ρ x = .pointer (some ⟨w.heap.size, 0, none⟩)) (hy : ρ y = arr l) :
  (execOp ρ o).run prog (w.alloc (.cells (vals z44).toArray 178)) = .ok .skip (w.alloc (.cells (vals l).toArray 178)) :=
 fO (by rw [bZ, hl]; exact oI) (by rw [bZ, bZ, hl, kn]) (kW l) ho hx hy
theorem uJ (hl : l.length = 44) (ho : o.op = .store 178 x y) (hx : ρ x = .pointer (some ⟨b, off, none⟩)) (hy : ρ y = arr l) (ht : w.there b off 44) : (execOp ρ o).run prog w = .ok .skip (w.setCells b off (vals l)) :=
 lu (by rw [bZ, hl]; exact oI) (kW l) ho hx hy (by rw [bZ, hl]; exact ht)
theorem pS {l' : List UInt8} (c : Bool) (ha : l.length = 44) (hb : l'.length = 44) (ho : o.op = .binOp .neq 178 x y t) (hx : ρ x = arr l) (hy : ρ y = arr l') (h : decide (l = l') = c) : (execOp ρ o).run prog w = .ok (.value (.bool (!c))) w := by
 subst h; exact pK abu (qS underlying178 w l l' ha hb 9998) ho hx hy
theorem vp (ho : o.op = .slice 178 x none none none) (hx : ρ x = .pointer (some ⟨g, off, none⟩)) : (execOp ρ o).run prog w = .ok (.value (.slice (some ⟨g, off, none⟩) 44 44)) w := by
 have h : (Instr.sliceAt 178 (.pointer (some ⟨g, off, none⟩)) none none none).run prog w = .ok (.slice (some ⟨g, off, none⟩) 44 44) w := by
  simp [Instr.sliceAt, Instr.sliceBounds, Instr.sliceBound, Instr.sureAddr, asIntOf, run_underlying underlying178, Tryz.sizeOf5, Addr.add_mid]
 unfold execOp;simp only [ho, hx, Option.map_none, Sem.run_bind, h, Result.andThen_ok, Sem.run_pure]
theorem il (p n : Nat) (hn : p + n = 44) (h0 : 0 < n) (ho : o.op = .slice 178 x (some y) none none) (hx : ρ x = .pointer (some ⟨g, 0, none⟩)) (hy : ρ y = .int .i64 (p : Int)) : (execOp ρ o).run prog w = .ok (.value (.slice (some ⟨g, p, none⟩) n n)) w := by
 have e1 : (0 <= (p : Int) /\ (p : Int) <= 44) := by omega
 have e2 : p <= 44 := by omega
 have e3 : 44 - p = n := by omega
 have e4 : n ≠ 0 := by omega
 have e5 : ¬ 44 = p := by omega
 have h : (Instr.sliceAt 178 (.pointer (some ⟨g, 0, none⟩)) (some (.int .i64 (p : Int))) none none).run prog w = .ok (.slice (some ⟨g, p, none⟩) n n) w := by
  simp [Instr.sliceAt, Instr.sliceBounds, Instr.sliceBound, Instr.sureAddr, asIntOf, run_underlying underlying178, Tryz.sizeOf5, Addr.add_mid, e1, e2, e3, e4, e5]
 unfold execOp;simp only [ho, hx, hy, Option.map_none, Option.map_some, Sem.run_bind, h, Result.andThen_ok, Sem.run_pure]
theorem rH (ho : o.op = .sliceToArrayPointer 178 x) (hx : ρ x = .slice (some ⟨g, 0, none⟩) 44 c) : (execOp ρ o).run prog w = .ok (.value (.pointer (some ⟨g, 0, none⟩))) w := by
 unfold execOp;simp [ho, hx, Instr.arrayAt, run_underlying underlying178]
end
section
variable {P : Program} {md : Region.Mode} {l : List Oper} {Q : Exit -> Act -> World -> Prop} {S : World -> Prop} {K : Act -> World -> Prop} {fuel : Nat} {listed : Array Bool} {a : Act} {w w' : World} {o : Oper} {v : Value}
theorem dV (i : Nat) {f : FuncId} {vs : Array Value} (hi : l[i]? = some o) (hw : Region.wanted o (yielded l.toArray a.tmps) = true) (h : (execOp a.eval o).run P w = .ok (.enter f vs) w)
  (hc : Calls P f vs w fun e w' => ∃ v, e = .returned v /\ K (a.put o.dst v) w') : wpOp P l.toArray Q i K a w := by
 unfold wpOp;simp only [List.getElem?_toArray, hi, hw, if_true];refine .inl ?_;unfold Oper.wp;rw [h];exact hc.mono fun e w' ⟨v, he, hk⟩ => by subst he; exact hk
theorem fy (i : Nat) (hi : l[i]? = some o) (hw : Region.wanted o (yielded l.toArray a.tmps) = true) (h : (execOp a.eval o).run P w = .ok (.value v) w') (hk : K (a.put o.dst v) w') : wpOp P l.toArray Q i K a w := by
 unfold wpOp;simp only [List.getElem?_toArray, hi, hw, if_true];refine .inl ?_;unfold Oper.wp;rw [h];exact hk
theorem iT (i j : Nat) (hr : Region.ready md l.toArray listed = [i, j])
  (h1 : wpOp P l.toArray Q i (fun a' w' => S w' /\ wpAnyH P md l.toArray Q S fuel (listed.setIfInBounds i true) a' w') a w) (h2 : wpOp P l.toArray Q j (fun a' w' => S w' /\ wpAnyH P md l.toArray Q S fuel (listed.setIfInBounds j true) a' w') a w) : wpAnyH P md l.toArray Q S (fuel + 1) listed a w :=
 wpAnyH_all hr (by simp) fun k hk => by
  have hk2 : k = i \/ k = j := by simpa using hk
  rcases hk2 with rfl | rfl
  ·exact h1
  ·exact h2
theorem de (i : Nat) (hr : Region.ready md l.toArray listed = [i])
  (h1 : wpOp P l.toArray Q i (fun a' w' => S w' /\ wpAnyH P md l.toArray Q S fuel (listed.setIfInBounds i true) a' w') a w) : wpAnyH P md l.toArray Q S (fuel + 1) listed a w :=
 wpAnyH_all hr (by simp) fun k hk => by
  obtain rfl : k = i := by simpa using hk
  exact h1
end
section
variable {P : Program} {md : Region.Mode} {l : List Oper} {Q : Exit -> Act -> World -> Prop} {S : World -> Prop} {K : Act -> World -> Prop} {z fuel : Nat} {listed : Array Bool} {a : Act} {w w' : World} {o : Oper} {v : Value}
theorem ahT (i : Nat) (hi : l[i]? = some o) (hw : Region.wanted o (yielded l.toArray a.tmps) = true) (h : (execOp a.eval o).run P w = .ok .skip w') (hk : K (a.put o.dst undef) w') : wpOp P l.toArray Q i K a w := by
 unfold wpOp;simp only [List.getElem?_toArray, hi, hw, if_true];refine .inl ?_;unfold Oper.wp;rw [h];exact hk
end
def RJ (w0 : World) (H K : Nat -> Prop) (w : World) (p q : Nat) (v : Value) (M : aK) (x : LgS) : Prop :=
 ∃ G, bD.Bn w G q M /\ RLg w p q v x /\ (∀ b, cp p v b -> ¬ G b) /\ Only H w0 w /\ Grow w0 H (fun b => G b \/ cp p v b) /\ ∀ b, K b -> ¬ G b /\ b < w.heap.size
def kept (K : Nat -> Prop) (w w' : World) : Prop := ∀ b, K b -> w'.heap[b]? = w.heap[b]?
theorem eO {w w' : World} {b o : Nat} {cs : List Value} (h : w'.heap[b]? = w.heap[b]?) (hr : w.rangeAt b o cs) : w'.rangeAt b o cs := fun j v hj => (World.cell?_of_block (w := w) h).trans (hr j v hj)
theorem kept.trans {K : Nat -> Prop} {w w1 w2 : World} (h : kept K w w1) (k : kept K w1 w2) : kept K w w2 := fun b hb => (k b hb).trans (h b hb)
section
variable {w0 w w' : World} {H K K' : Nat -> Prop} {p q : Nat} {v : Value} {M : aK} {x : LgS}
theorem RJ.log (h : RJ w0 H K w p q v M x) : RLg w p q v x := by obtain ⟨_, _, h, _⟩ := h; exact h
theorem RJ.size (h : RJ w0 H K w p q v M x) : w0.heap.size <= w.heap.size := by obtain ⟨_, _, _, _, h, _⟩ := h; exact h.size
theorem RJ.lt (h : RJ w0 H K w p q v M x) {b : Nat} (hb : K b) : b < w.heap.size := by obtain ⟨_, _, _, _, _, _, h⟩ := h; exact (h b hb).2
theorem RJ.start {G : Nat -> Prop} (hb : bD.Bn w G q M) (h : RLg w p q v x) (hd : ∀ b, cp p v b -> ¬ G b) : RJ w (fun b => G b \/ cp p v b) (fun _ => False) w p q v M x :=
 ⟨G, hb, h, hd, Only.refl _ _, Grow.same _ _, fun _ e => e.elim⟩
theorem RJ.guard (h : RJ w0 H K w p q v M x) (hb : Below w.heap.size w w') (hK : ∀ b, K' b -> K b \/ (w.heap.size <= b /\ b < w'.heap.size)) : RJ w0 H K' w' p q v M x := by
 obtain ⟨G, h1, h2, h3, h4, h5, h6⟩ := h;have hlt := bD.lt h1;have hs := hb.size;refine ⟨G, bD.below h1 hb, h2.below hb, h3, h4.dF hb, h5, fun b e => ?_⟩;rcases hK b e with e | ⟨e1, e2⟩
 ·obtain ⟨g1, g2⟩ := h6 b e;exact ⟨g1, by omega⟩
 ·exact ⟨fun hg => by have := hlt b hg; omega, e2⟩
theorem RJ.below (h : RJ w0 H K w p q v M x) (hb : Below w.heap.size w w') : RJ w0 H K w' p q v M x := h.guard hb fun b e => .inl e
theorem RJ.drew (h : RJ w0 H K w p q v M x) : RJ w0 H K w.drew p q v M x := h.below (bd ak)
theorem RJ.less (h : RJ w0 H K w p q v M x) (hK : ∀ b, K' b -> K b) : RJ w0 H K' w p q v M x := h.guard ak fun b e => .inl (hK b e)
theorem RJ.kept (h : RJ w0 H K w p q v M x) (hb : Below w.heap.size w w') : kept K w w' := fun b e => hb.block b (h.lt e)
theorem RJ.turn {G G' : Nat -> Prop} {M' : aK} (h1 : bD.Bn w G q M) (h2 : RLg w p q v x) (h3 : ∀ b, cp p v b -> ¬ G b) (h4 : Only H w0 w) (h5 : Grow w0 H (fun b => G b \/ cp p v b)) (h6 : ∀ b, K b -> ¬ G b /\ b < w.heap.size)
  (k1 : bD.Bn w' G' q M') (k2 : Only G w w') (k3 : Grow w G G') : RJ w0 H K w' p q v M' x /\ Proofs.YtcpbekopbeaflaaGreatDoor.kept K w w' := by
 have hs := k2.size;have hs0 := h4.size;refine ⟨⟨G', k1, h2.only k2 h3, fun b hb hg => ?_, h4.trans k2 fun b hb => h5 b (.inl hb), fun b hb => ?_, fun b hb => ?_⟩, fun b hb => k2.block b (h6 b hb).2 (h6 b hb).1⟩
 ·rcases k3 b hg with e | e
  ·exact h3 b hb e
  ·have := h2.lt b hb; omega
 ·rcases hb with hb | hb
  ·rcases k3 b hb with e | e
   ·exact h5 b (.inl e)
   ·exact .inr (by omega)
  ·exact h5 b (.inr hb)
 ·obtain ⟨g1, g2⟩ := h6 b hb;refine ⟨fun hg => ?_, by omega⟩;rcases k3 b hg with e | e
  ·exact g1 e
  ·omega
theorem RJ.write (d n : Int) (b : Blk) (hr : Room M 1) (h : RJ w0 H K w p q v M x) : Calls prog 67 #[.pointer (some ⟨q, 0, none⟩), .int .i64 d, .int .i64 n, blk b] w fun e w' => e = .returned (.int .i64 (f9 M d n)) /\ RJ w0 H K w' p q v (eS M d n b) x /\ Proofs.YtcpbekopbeaflaaGreatDoor.kept K w w' := by
 obtain ⟨G, h1, h2, h3, h4, h5, h6⟩ := h;exact (bD.write d n b hr h1).mono fun e w' ⟨k0, G', k1, k2, k3⟩ => ⟨k0, RJ.turn h1 h2 h3 h4 h5 h6 k1 k2 k3⟩
theorem RJ.flush (d : Int) (hr : Room M 1) (h : RJ w0 H K w p q v M x) : Calls prog 68 #[.pointer (some ⟨q, 0, none⟩), .int .i64 d] w fun e w' => e = .returned (.int .i64 (fM M d)) /\ RJ w0 H K w' p q v (eJ M d) x /\ Proofs.YtcpbekopbeaflaaGreatDoor.kept K w w' := by
 obtain ⟨G, h1, h2, h3, h4, h5, h6⟩ := h;exact (bD.flush d hr h1).mono fun e w' ⟨k0, G', k1, k2, k3⟩ => ⟨k0, RJ.turn h1 h2 h3 h4 h5 h6 k1 k2 k3⟩
theorem RJ.read (d n : Int) (h : RJ w0 H K w p q v M x) : Calls prog 57 #[.pointer (some ⟨q, 0, none⟩), .int .i64 d, .int .i64 n] w fun e w' => e = .returned (.tuple #[blk (df M d n), .int .i64 (cM M d n)]) /\ Below w.heap.size w w' := by
 obtain ⟨G, h1, _⟩ := h;exact bD.read d n h1
end
theorem tI {d : Int} {M : aK} {own size c f a : Nat} (h : f9 M d (ew c) ≠ 0) : goE d M (mkT own size c f a) = f9 M d (ew c) /\ goB d M (mkT own size c f a) = eS M d (ew c) (bf.pB ⟨c, ⟨own, (size : Int), f, a⟩⟩) := jj (s := .wr (ew c) _) h
theorem agV (d : Int) (M : aK) : goE d M [.fl] = fM M d /\ goB d M [.fl] = eJ M d := by
 by_cases h : fM M d = 0
 ·have := go_ok (d := d) (M := M) (s := .fl) (l := []) h;exact ⟨this.1.trans h.symm, this.2⟩
 ·exact jj (s := .fl) (l := []) h
theorem tJ {d : Int} {M : aK} {own size c f a : Nat} (h : f9 M d (ew c) = 0) : goE d M (mkT own size c f a) = fM (eS M d (ew c) (bf.pB ⟨c, ⟨own, (size : Int), f, a⟩⟩)) d /\ goB d M (mkT own size c f a) = eJ (eS M d (ew c) (bf.pB ⟨c, ⟨own, (size : Int), f, a⟩⟩)) d := by
 have h1 := go_ok (d := d) (M := M) (s := .wr (ew c) (bf.pB ⟨c, ⟨own, (size : Int), f, a⟩⟩)) (l := [.fl]) h;exact ⟨h1.1.trans (agV d _).1, h1.2.trans (agV d _).2⟩
theorem acH {w0 w : World} {H K : Nat -> Prop} {p q : Nat} {v : Value} {M : aK} {x : LgS} (c f a : Nat) (h : RJ w0 H K w p q v M x) (hr : Room M 2) (hc : c < 18446744073709551616) (hf : (⟨x.own, (x.size : Int), f, a⟩ : Mrk).fit) :
  Calls prog 69 #[.pointer (some ⟨p, 0, none⟩), .int .u64 (c : Nat), .int .u64 (f : Nat), .int .u64 (a : Nat)] w fun e w' => e = .returned (.int .i64 (goE (x.d : Int) M (mkT x.own x.size c f a))) /\ RJ w0 H K w' p q v (goB (x.d : Int) M (mkT x.own x.size c f a)) x /\ kept K w w' := by
 have HJ := af h;have HL := af h.log;have HR := af hr;have HC := af hc;have HFT := af hf;have HS0 := af (bd (Below.refl w.heap.size w));obtain ⟨mb, hmb⟩ : ∃ mb, bf.pB ⟨c, ⟨x.own, (x.size : Int), f, a⟩⟩ = mb := ⟨_, rfl⟩;have HMB := af hmb;clear h hr hc hf hmb;go_enter func69, ntmps69;go_upto_region 1 with fail;refine wp_region_held (S := fun w' => Below w.heap.size w w') (by kernel_rfl) ?_;change wpAnyH _ _ _ _ _ 19 _ _ w.drew;refine alp 0 rfl HS0 ?_;refine alp 1 rfl HS0 ?_;refine alr 2 rfl HS0 ?_;refine ak4 3 rfl (fun _ hw => av rfl alb agu) HS0 ?_;refine ak4 4 rfl (fun _ hw => aA rfl alb (b7 (RLg.c2 (HL.out.below hw)))) HS0 ?_;refine alp 5 rfl HS0 ?_;refine alr 6 rfl HS0 ?_;refine ak4 7 rfl (fun _ hw => av rfl alb uP) HS0 ?_;refine ak4 8 rfl (fun _ hw => aA rfl alb (bm (RLg.c3 (HL.out.below hw)))) HS0 ?_;refine alp 9 rfl HS0 ?_;refine alp 10 rfl HS0 ?_;refine ak4 11 rfl (fun _ hw => lW x.own (x.size : Int) f a rfl alb alb alb alb) HS0 ?_;refine iT 12 16 (by kernel_rfl) ?_ ?_
 ·refine dV 12 rfl rfl (aC call127 rfl (evc alb (evc alb evn))) ?_;refine (agJ c ⟨x.own, (x.size : Int), f, a⟩ w.drew HC HFT).mono ?_;rintro e w1 ⟨rfl, hb⟩;rw [HMB.out];have HS1 := af (HS0.out.trans (hb.mono HS0.out.size));clear hb;refine ⟨_, rfl, HS1, ?_⟩;simp only [aa];refine alp 13 rfl HS1 ?_;refine als 14 rfl HS1 ?_;refine als 15 rfl HS1 ?_;refine de 16 (by kernel_rfl) (fy 16 rfl rfl (aV rfl) ⟨HS1.out.alloc HS1.out.size _, ?_⟩);simp only [aa];have HS2 := af (HS1.out.alloc HS1.out.size (.cells (cel mb).toArray 64));refine ex 17 rfl (by kernel_rfl) rfl (dD (c := mb) rfl (ev rfl) (ev rfl)) HS2.out ?_;simp only [Act.put];refine alq 18 rfl HS2 ?_;refine wpAnyH_done (by kernel_rfl) ?_ _;have HBB := af (b8 w1 (cel mb) 64);have HBL : Hid (w.heap.size <= w1.heap.size /\ w1.heap.size < (w1.alloc (.cells (cel mb).toArray 64)).heap.size) := af ⟨HS1.out.size, by rw [World.size_alloc]; omega⟩;generalize w1.alloc (.cells (cel mb).toArray 64) = w2 at *;generalize w1.heap.size = bb at *;have HJ2 := af (HJ.out.guard (K' := fun b => K b \/ b = bb) HS2 (fun b e => e.elim .inl (fun e => .inr (by rw [e]; exact HBL))));have HK2 := af (HJ.out.kept HS2);have hS : RLg w2.drew p q v x /\ w2.drew.rangeAt bb 0 (cel mb) := ⟨HJ2.out.drew.log, HBB⟩;go_upto_region 2 with fail;refine bk (fun w' => RLg w' p q v x /\ w'.rangeAt bb 0 (cel mb)) 12 (by kernel_rfl) ?_;change cu _ _ _ _ _ _ 13 _ _ w2.drew;refine ak5 0 rfl (fun _ hw => aB rfl alb) hS ?_;refine ak5 1 rfl (fun _ hw => aM rfl alb) hS ?_;refine ak5 2 rfl (fun _ hw => av rfl alb m4) hS ?_;refine ak5 3 rfl (fun _ hw => aA rfl alb (s4 (RLg.c0 hw.1))) hS ?_;refine ak5 4 rfl (fun _ hw => aB rfl alb) hS ?_;refine ak5 5 rfl (fun _ hw => aM rfl alb) hS ?_;refine ak5 6 rfl (fun _ hw => av rfl alb mj) hS ?_;refine ak5 7 rfl (fun _ hw => aA rfl alb (bm (RLg.c1 hw.1))) hS ?_;refine ak5 8 rfl (fun _ hw => aB rfl alb) hS ?_;refine ak5 10 rfl (fun _ hw => aU (c := mb) rfl alb hw.2) hS ?_;refine bT 9 rfl (by kernel_rfl) rfl (aC call128 rfl (evc alb evn)) ?_;refine (ad7 c w2.drew HC).mono ?_;rintro e w' ⟨rfl, rfl⟩;refine ⟨_, rfl, fun _ => hS, ?_⟩;simp only [aa];refine bT 11 rfl (by kernel_rfl) rfl (aC call67 rfl (evc alb (evc alb (evc alb (evc alb evn))))) ?_;refine (RJ.write (x.d : Int) (ew c) mb (Room.less HR) HJ2.out.drew).mono ?_;rintro e w3 ⟨rfl, hj, hk⟩;have hS3 : RLg w3 p q v x /\ w3.rangeAt bb 0 (cel mb) := ⟨hj.log, eO (hk bb (.inr rfl)) HBB⟩;have HJ3 := af (hj.less (K' := K) (fun b e => .inl e));have HK3 := af (HK2.out.trans (show kept K w2 w3 from fun b e => hk b (.inl e)));refine ⟨_, rfl, fun _ => hS3, ?_⟩;simp only [aa];refine bh 12 rfl (by kernel_rfl) rfl (bu rfl alb) (fun e => absurd rfl e) ?_;simp only [aa];refine bK (by kernel_rfl) ?_ _;clear hj hk hS hS3 HS2 HBB HBL HJ2;by_cases h0 : f9 M (x.d : Int) (ew c) = 0
  ·obtain ⟨g1, g2⟩ := tJ (own := x.own) (size := x.size) (f := f) (a := a) h0;rw [HMB.out] at g1 g2;have HRM := af (sv HR (x.d : Int) (ew c) mb);have HG1 := af g1;have HG2 := af g2;rw [h0];clear g1 g2 h0;generalize eS M (x.d : Int) (ew c) mb = M1 at *;go_upto_region 5 with fail;have hS5 : RLg w3.drew p q v x := HJ3.out.drew.log;refine bk (fun w' => RLg w' p q v x) 9 (by kernel_rfl) ?_;change cu _ _ _ _ _ _ 10 _ _ w3.drew;refine ak5 0 rfl (fun _ hw => aB rfl alb) hS5 ?_;refine ak5 1 rfl (fun _ hw => aM rfl alb) hS5 ?_;refine ak5 2 rfl (fun _ hw => av rfl alb m4) hS5 ?_;refine ak5 3 rfl (fun _ hw => aA rfl alb (s4 (RLg.c0 hw))) hS5 ?_;refine ak5 4 rfl (fun _ hw => aB rfl alb) hS5 ?_;refine ak5 5 rfl (fun _ hw => aM rfl alb) hS5 ?_;refine ak5 6 rfl (fun _ hw => av rfl alb mj) hS5 ?_;refine ak5 7 rfl (fun _ hw => aA rfl alb (bm (RLg.c1 hw))) hS5 ?_;refine bT 8 rfl (by kernel_rfl) rfl (aC call68 rfl (evc alb (evc alb evn))) ?_;refine (RJ.flush (x.d : Int) HRM HJ3.out.drew).mono ?_;rintro e w4 ⟨rfl, hj, hk⟩;have hS4 := hj.log;refine ⟨_, rfl, fun _ => hS4, ?_⟩;simp only [aa];refine bh 9 rfl (by kernel_rfl) rfl (bu rfl alb) (fun e => absurd rfl e) ?_;simp only [aa];refine bK (by kernel_rfl) ?_ _;go_wp2_with fail;go_ret;exact ⟨by rw [HG1.out]; rfl, by rw [HG2.out]; exact hj, HK3.out.trans hk⟩
  ·obtain ⟨g1, g2⟩ := tI (own := x.own) (size := x.size) (f := f) (a := a) h0;rw [HMB.out] at g2;obtain ⟨E, hE⟩ : ∃ E, f9 M (x.d : Int) (ew c) = E := ⟨_, rfl⟩;rw [hE] at h0 g1 ⊢;have hne : (E != 0) = true := by simpa using h0
   have HG1 := af g1;have HG2 := af g2;clear g1 g2 hE h0;go_wp2_with fail;go_ret;exact ⟨by rw [HG1.out]; rfl, by rw [HG2.out]; exact HJ3, HK3⟩
 ·refine fy 16 rfl rfl (aV rfl) ⟨HS0.out.alloc HS0.out.size _, ?_⟩;simp only [aa];have HS1 := af (HS0.out.alloc HS0.out.size (.cells (cel aE).toArray 64));have HTH := af (dj w.drew aE 64);have HBN := af (heap_alloc_new w.drew (.cells (cel aE).toArray 64));have HZ1 : Hid (w.heap.size < (w.drew.alloc (.cells (cel aE).toArray 64)).heap.size) := af (by rw [World.size_alloc]; exact Nat.lt_succ_self _);rw [show w.drew.heap.size = w.heap.size from rfl];generalize w.drew.alloc (.cells (cel aE).toArray 64) = w1 at *;refine de 12 (by kernel_rfl) (dV 12 rfl rfl (aC call127 rfl (evc alb (evc alb evn))) ?_);refine (agJ c ⟨x.own, (x.size : Int), f, a⟩ w1 HC HFT).mono ?_;rintro e w3 ⟨rfl, hb⟩;rw [HMB.out];have HS3 := af (HS1.out.trans (hb.mono HS1.out.size));have HT3 := af (aS HTH HZ1 hb);have HB3 := af ((hb.block w.heap.size HZ1).trans HBN);have HZ3 : Hid (w.heap.size < w3.heap.size) := af (aq HZ1 hb.size);clear hb;refine ⟨_, rfl, HS3, ?_⟩;simp only [aa];refine alp 13 rfl HS3 ?_;refine als 14 rfl HS3 ?_;refine als 15 rfl HS3 ?_;have HS2 := af (below_setCells (b := w.heap.size) (o := 0) HS3 aj (cel mb));refine ex 17 rfl (by kernel_rfl) rfl (aX (c := mb) rfl (ev rfl) (ev rfl) HT3.out) HS2.out ?_;simp only [Act.put];refine alq 18 rfl HS2 ?_;refine wpAnyH_done (by kernel_rfl) ?_ _;have HBB := af (World.rangeAt_setCells_same w3 w.heap.size 0 (cel mb) (by rw [aG]; exact HT3));have HBL : Hid (w.heap.size <= w.heap.size /\ w.heap.size < (w3.setCells w.heap.size 0 (cel mb)).heap.size) := af ⟨aj, by rw [size_setCells]; exact HZ3⟩;generalize w3.setCells w.heap.size 0 (cel mb) = w2 at *;obtain ⟨bb, hbb⟩ : ∃ bb, w.heap.size = bb := ⟨_, rfl⟩;clear HB3 HZ3 HT3 HTH HBN HZ1;rw [hbb] at HBB HBL ⊢;have HWB := af hbb;have HBL2 : Hid (w.heap.size <= bb /\ bb < w2.heap.size) := af ⟨by rw [hbb]; exact aj, HBL.out.2⟩;clear hbb HBL;have HBL := HBL2;clear HBL2;have HJ2 := af (HJ.out.guard (K' := fun b => K b \/ b = bb) HS2 (fun b e => e.elim .inl (fun e => .inr (by rw [e]; exact HBL))));have HK2 := af (HJ.out.kept HS2);have hS : RLg w2.drew p q v x /\ w2.drew.rangeAt bb 0 (cel mb) := ⟨HJ2.out.drew.log, HBB⟩;go_upto_region 2 with fail;refine bk (fun w' => RLg w' p q v x /\ w'.rangeAt bb 0 (cel mb)) 12 (by kernel_rfl) ?_;change cu _ _ _ _ _ _ 13 _ _ w2.drew;refine ak5 0 rfl (fun _ hw => aB rfl alb) hS ?_;refine ak5 1 rfl (fun _ hw => aM rfl alb) hS ?_;refine ak5 2 rfl (fun _ hw => av rfl alb m4) hS ?_;refine ak5 3 rfl (fun _ hw => aA rfl alb (s4 (RLg.c0 hw.1))) hS ?_;refine ak5 4 rfl (fun _ hw => aB rfl alb) hS ?_;refine ak5 5 rfl (fun _ hw => aM rfl alb) hS ?_;refine ak5 6 rfl (fun _ hw => av rfl alb mj) hS ?_;refine ak5 7 rfl (fun _ hw => aA rfl alb (bm (RLg.c1 hw.1))) hS ?_;refine ak5 8 rfl (fun _ hw => aB rfl alb) hS ?_;refine ak5 10 rfl (fun _ hw => aU (c := mb) rfl alb hw.2) hS ?_;refine bT 9 rfl (by kernel_rfl) rfl (aC call128 rfl (evc alb evn)) ?_;refine (ad7 c w2.drew HC).mono ?_;rintro e w' ⟨rfl, rfl⟩;refine ⟨_, rfl, fun _ => hS, ?_⟩;simp only [aa];refine bT 11 rfl (by kernel_rfl) rfl (aC call67 rfl (evc alb (evc alb (evc alb (evc alb evn))))) ?_;refine (RJ.write (x.d : Int) (ew c) mb (Room.less HR) HJ2.out.drew).mono ?_;rintro e w3 ⟨rfl, hj, hk⟩;have hS3 : RLg w3 p q v x /\ w3.rangeAt bb 0 (cel mb) := ⟨hj.log, eO (hk bb (.inr rfl)) HBB⟩;have HJ3 := af (hj.less (K' := K) (fun b e => .inl e));have HK3 := af (HK2.out.trans (show kept K w2 w3 from fun b e => hk b (.inl e)));refine ⟨_, rfl, fun _ => hS3, ?_⟩;simp only [aa];refine bh 12 rfl (by kernel_rfl) rfl (bu rfl alb) (fun e => absurd rfl e) ?_;simp only [aa];refine bK (by kernel_rfl) ?_ _;clear hj hk hS hS3 HS2 HBB HBL HJ2;by_cases h0 : f9 M (x.d : Int) (ew c) = 0
  ·obtain ⟨g1, g2⟩ := tJ (own := x.own) (size := x.size) (f := f) (a := a) h0;rw [HMB.out] at g1 g2;have HRM := af (sv HR (x.d : Int) (ew c) mb);have HG1 := af g1;have HG2 := af g2;rw [h0];clear g1 g2 h0;generalize eS M (x.d : Int) (ew c) mb = M1 at *;go_upto_region 5 with fail;have hS5 : RLg w3.drew p q v x := HJ3.out.drew.log;refine bk (fun w' => RLg w' p q v x) 9 (by kernel_rfl) ?_;change cu _ _ _ _ _ _ 10 _ _ w3.drew;refine ak5 0 rfl (fun _ hw => aB rfl alb) hS5 ?_;refine ak5 1 rfl (fun _ hw => aM rfl alb) hS5 ?_;refine ak5 2 rfl (fun _ hw => av rfl alb m4) hS5 ?_;refine ak5 3 rfl (fun _ hw => aA rfl alb (s4 (RLg.c0 hw))) hS5 ?_;refine ak5 4 rfl (fun _ hw => aB rfl alb) hS5 ?_;refine ak5 5 rfl (fun _ hw => aM rfl alb) hS5 ?_;refine ak5 6 rfl (fun _ hw => av rfl alb mj) hS5 ?_;refine ak5 7 rfl (fun _ hw => aA rfl alb (bm (RLg.c1 hw))) hS5 ?_;refine bT 8 rfl (by kernel_rfl) rfl (aC call68 rfl (evc alb (evc alb evn))) ?_;refine (RJ.flush (x.d : Int) HRM HJ3.out.drew).mono ?_;rintro e w4 ⟨rfl, hj, hk⟩;have hS4 := hj.log;refine ⟨_, rfl, fun _ => hS4, ?_⟩;simp only [aa];refine bh 9 rfl (by kernel_rfl) rfl (bu rfl alb) (fun e => absurd rfl e) ?_;simp only [aa];refine bK (by kernel_rfl) ?_ _;go_wp2_with fail;go_ret;exact ⟨by rw [HG1.out]; rfl, by rw [HG2.out]; exact hj, HK3.out.trans hk⟩
  ·obtain ⟨g1, g2⟩ := tI (own := x.own) (size := x.size) (f := f) (a := a) h0;rw [HMB.out] at g2;obtain ⟨E, hE⟩ : ∃ E, f9 M (x.d : Int) (ew c) = E := ⟨_, rfl⟩;rw [hE] at h0 g1 ⊢;have hne : (E != 0) = true := by simpa using h0
   have HG1 := af g1;have HG2 := af g2;clear g1 g2 hE h0;go_wp2_with fail;go_ret;exact ⟨by rw [HG1.out]; rfl, by rw [HG2.out]; exact HJ3, HK3⟩
def iw (r t h : Int) : Bool := decide (1 <= r /\ r <= 256 /\ t <= h /\ h <= 4611686018427387904 /\ h - t <= r)
theorem fX {r t h : Int} : iw r t h = true ↔ 1 <= r /\ r <= 256 /\ t <= h /\ h <= 4611686018427387904 /\ h - t <= r := by unfold iw; exact decide_eq_true_iff
theorem abw {r t h : Int} : iw r t h = false ↔ ¬(1 <= r /\ r <= 256 /\ t <= h /\ h <= 4611686018427387904 /\ h - t <= r) := by unfold iw; rw [decide_eq_false_iff_not]
def adL (r t : Int) : Int := if iw r t t then t % r else 0
def adX (r t : Int) : Int := if iw r t t then 0 else 2
def abW (r t h : Int) : Int := if iw r t h then r - (h - t) else 0
def ack (r t h : Int) : Int := if iw r t h then 0 else 2
def aa0 (r t h n : Int) : Bool := decide (iw r t h = true /\ 0 <= n)
def aaa (r t h n : Int) : Bool := decide (n <= r - (h - t) /\ h + n <= 4611686018427387904)
def xv (r t h n : Int) : Int := if aa0 r t h n && aaa r t h n then h + n else 0
def uL (r t h n : Int) : Int := if aa0 r t h n then (if aaa r t h n then 0 else 10) else 2
def aaS (r : Int) : Bool := decide (1 <= r /\ r <= 256)
def abz (t : Int) : Bool := decide (t <= 4611686018427387904)
theorem sU (r : Int) (w : World) : Calls prog 132 #[.int .i64 r] w fun e w' => e = .returned (.bool (aaS r)) /\ w = w' := by
 go_enter func132, ntmps132;go_wp2
 all_goals
  go_ret;refine ⟨bL ?_, rfl⟩;unfold aaS
  first
   |(refine Eq.symm (am ?_); omega)
   |(rw [Bool.eq_iff_iff, decide_eq_true_iff, decide_eq_true_iff]; omega)
theorem xo (t : Int) (w : World) : Calls prog 172 #[.int .u64 t] w fun e w' => e = .returned (.bool (abz t)) /\ w = w' := by
 go_enter func172, ntmps172;go_wp2;go_ret;exact ⟨rfl, rfl⟩
theorem mX (t : Int) (w : World) (h0 : 0 <= t) (h1 : t <= 4611686018427387904) : Calls prog 178 #[.int .u64 t] w fun e w' => e = .returned (.int .u64 (4611686018427387904 - t)) /\ w = w' := by
 go_enter func178, ntmps178;go_wp2;go_ret;exact ⟨br (by omega), rfl⟩
theorem z9 (r t : Int) (w : World) (h1 : 1 <= r) (h2 : r <= 256) (h0 : 0 <= t) (h3 : t <= 18446744073709551615) : Calls prog 192 #[.int .i64 r, .int .u64 t] w fun e w' => e = .returned (.int .i64 (t % r)) /\ w = w' := by
 have hm0 := Int.emod_nonneg t (show r ≠ 0 by omega);have hm1 := Int.emod_lt_of_pos t (show 0 < r by omega);go_enter func192, ntmps192;go_wp2;go_ret;exact ⟨br (by omega), rfl⟩
theorem agE (r t h : Int) (w : World) (ht0 : 0 <= t) (ht1 : t <= 18446744073709551615) (hh0 : 0 <= h) (hh1 : h <= 18446744073709551615) : Calls prog 149 #[.int .i64 r, .int .u64 t, .int .u64 h] w fun e w' => e = .returned (.bool (iw r t h)) /\ w = w' := by
 go_enter func149, ntmps149;go_wp2
 all_goals
  go_ret;refine ⟨bL ?_, rfl⟩
  first
   |(refine Eq.symm (abw.2 ?_); omega)
   |(rw [Bool.eq_iff_iff, fX, decide_eq_true_iff]; omega)
def tu (r t h : Int) : Bool := decide (t <= h /\ h <= 4611686018427387904 /\ h - t <= r)
theorem ahU (r t h : Int) (w : World) (hr1 : 1 <= r) (hr2 : r <= 256) (ht0 : 0 <= t) (ht1 : t <= 18446744073709551615) (hh0 : 0 <= h) (hh1 : h <= 18446744073709551615) : Calls prog 133 #[.int .i64 r, .int .u64 t, .int .u64 h] w fun e w' => e = .returned (.bool (tu r t h)) /\ w = w' := by
 go_enter func133, ntmps133;go_wp2_with fail;refine (xo h w).mono ?_;rintro e w1 ⟨rfl, rfl⟩;by_cases h1 : h <= 4611686018427387904
 ·rw [show abz h = true from ao h1];go_wp2
  all_goals
   go_ret;refine ⟨bL ?_, rfl⟩;unfold tu
   first
    |(refine Eq.symm (am ?_); omega)
    |(rw [Bool.eq_iff_iff, decide_eq_true_iff, decide_eq_true_iff]; omega)
 ·rw [show abz h = false from am h1];go_wp2;go_ret;refine ⟨bL ?_, rfl⟩;unfold tu;refine Eq.symm (am ?_); omega
theorem ln {r : Int} (h : 1 <= r /\ r <= 256) : aaS r = true := ao h
theorem lN {r : Int} (h : ¬(1 <= r /\ r <= 256)) : aaS r = false := am h
theorem vt {r : Int} (h : r <= 4611686018427387904) : abz r = true := ao h
theorem zL {r : Int} (h : ¬r <= 4611686018427387904) : abz r = false := am h
theorem afn {r t h : Int} : tu r t h = true ↔ t <= h /\ h <= 4611686018427387904 /\ h - t <= r := by unfold tu; exact decide_eq_true_iff
theorem sF {r t h : Int} : iw r t h = (aaS r && tu r t h) := by
 rw [Bool.eq_iff_iff, fX, Bool.and_eq_true];unfold aaS tu;rw [decide_eq_true_iff, decide_eq_true_iff];omega
theorem aiv {r t : Int} (h : iw r t t = false) : adL r t = 0 /\ adX r t = 2 := by unfold adL adX; rw [h]; exact ⟨rfl, rfl⟩
theorem wg {r t : Int} (h : iw r t t = true) : adL r t = t % r /\ adX r t = 0 := by unfold adL adX; rw [h]; exact ⟨rfl, rfl⟩
theorem ta {r t h : Int} (hm : iw r t h = false) : abW r t h = 0 /\ ack r t h = 2 := by unfold abW ack; rw [hm]; exact ⟨rfl, rfl⟩
theorem sH {r t h : Int} (hm : iw r t h = true) : abW r t h = r - (h - t) /\ ack r t h = 0 := by unfold abW ack; rw [hm]; exact ⟨rfl, rfl⟩
theorem fB {k k' : IntKind} {a b a' b' : Int} (h : a = b /\ a' = b') : Ending.returned (.tuple #[.int k b, .int k' b']) = .returned (.tuple #[.int k a, .int k' a']) := by rw [h.1, h.2]
theorem aky (r t : Int) (w : World) (h0 : 0 <= t) (h1 : t <= 18446744073709551615) : Calls prog 150 #[.int .i64 r, .int .u64 t] w fun e w' => e = .returned (.tuple #[.int .i64 (adL r t), .int .i64 (adX r t)]) /\ w = w' := by
 go_enter func150, ntmps150;go_wp2_with fail;refine (agE r t t w h0 h1 h0 h1).mono ?_;rintro e w1 ⟨rfl, rfl⟩;cases hm : iw r t t
 ·have hs := af (aiv hm);clear hm;go_wp2;go_ret2;exact ⟨fB hs.out, rfl⟩
 ·have hs := af (wg hm);obtain ⟨g1, g2, -, g3, -⟩ := fX.1 hm;have hm0 := Int.emod_nonneg t (show r ≠ 0 by omega);have hm1 := Int.emod_lt_of_pos t (show 0 < r by omega);clear hm;go_wp2;go_ret2;exact ⟨fB ⟨hs.out.1.trans (by omega), hs.out.2⟩, rfl⟩
theorem ajl (r t h : Int) (w : World) (ht0 : 0 <= t) (ht1 : t <= 18446744073709551615) (hh0 : 0 <= h) (hh1 : h <= 18446744073709551615) : Calls prog 84 #[.int .i64 r, .int .u64 t, .int .u64 h] w fun e w' => e = .returned (.tuple #[.int .i64 (abW r t h), .int .i64 (ack r t h)]) /\ w = w' := by
 go_enter func84, ntmps84;go_wp2_with fail;refine (sU r w).mono ?_;rintro e w1 ⟨rfl, rfl⟩;by_cases hr : 1 <= r /\ r <= 256
 ·rw [ln hr];go_wp2_with fail;refine (ahU r t h w hr.1 hr.2 ht0 ht1 hh0 hh1).mono ?_;rintro e w1 ⟨rfl, rfl⟩;cases hu : tu r t h
  ·have hs := af (ta (r := r) (t := t) (h := h) (by rw [sF, hu, Bool.and_false]));clear hu;go_wp2;go_ret2;exact ⟨fB hs.out, rfl⟩
  ·have hs := af (sH (r := r) (t := t) (h := h) (by rw [sF, hu, ln hr]; rfl));obtain ⟨g1, g2, g3⟩ := afn.1 hu;clear hu;go_wp2;go_ret2;exact ⟨fB ⟨hs.out.1.trans (by omega), hs.out.2⟩, rfl⟩
 ·have hs := af (ta (r := r) (t := t) (h := h) (by rw [sF, lN hr, Bool.false_and]));rw [lN hr];go_wp2;go_ret2;exact ⟨fB hs.out, rfl⟩
def mB (r t n : Int) : Bool := decide (1 <= r /\ r <= 256 /\ t <= 4611686018427387904 /\ 0 <= n /\ n <= r /\ t + n <= 4611686018427387905)
def ia (r t : Int) (n : Nat) : List Int := (List.range n).map fun (i : Nat) => (t + (i : Int)) % r
def abY (r t n : Int) : List Int := if mB r t n then ia r t n.toNat else []
def adf (r t n : Int) : Int := if mB r t n then 0 else 2
theorem lk {r t n : Int} : mB r t n = true ↔ 1 <= r /\ r <= 256 /\ t <= 4611686018427387904 /\ 0 <= n /\ n <= r /\ t + n <= 4611686018427387905 := by unfold mB; exact decide_eq_true_iff
theorem afZ {r t n : Int} : mB r t n = false ↔ ¬(1 <= r /\ r <= 256 /\ t <= 4611686018427387904 /\ 0 <= n /\ n <= r /\ t + n <= 4611686018427387905) := by unfold mB; rw [decide_eq_false_iff_not]
theorem ac5 {r t n : Int} (h : mB r t n = false) : abY r t n = [] /\ adf r t n = 2 := by unfold abY adf; rw [h]; exact ⟨rfl, rfl⟩
theorem vQ {r t : Int} {n : Nat} (h : mB r t n = true) : abY r t n = ia r t n /\ adf r t n = 0 := by unfold abY adf; rw [h]; exact ⟨rfl, rfl⟩
theorem pT (r t : Int) (n : Nat) : (ia r t n).length = n := by simp [ia]
theorem af9 {r t : Int} {n k : Nat} (h : k < n) : (ia r t n).getD k 0 = (t + (k : Int)) % r := by
 simp [ia, List.getD, List.getElem?_map, List.getElem?_range h]
theorem aaG {r t : Int} {n k : Nat} (h : k < n) : (ia r t n).take k ++ [(t + (k : Int)) % r] = (ia r t n).take (k + 1) := by
 rw [List.take_add_one]
 congr 1
 unfold ia;simp [List.getElem?_map, List.getElem?_range h]
theorem agc (r t : Int) (N B : Nat) (w : World) (HB0 : Hid (B = w.heap.size)) (h0 : 0 <= t) (h : mB r t N = true) :
  Calls prog 179 #[.int .i64 r, .int .u64 t, .int .i64 N] w fun e w' => ∃ v, e = .returned (.tuple #[v, .int .i64 0]) /\ aO dw w' B v (ia r t N) /\ Below B w w' := by
 obtain ⟨g1, g2, g3, g4, g5, g6⟩ := lk.1 h;clear h;have hmk := run_make_row' (P := prog) 36 3 (.int .i64 0) 8 underlying36 dw.info rfl .i64 .i64 N (by omega) (by omega);have HMK := af hmk;clear hmk;go_enter func179, ntmps179;go_wp2_with fail;refine (sU r w).mono ?_;rintro e w1 ⟨rfl, rfl⟩;rw [ln ⟨g1, g2⟩];go_wp2_with fail;refine (xo t w).mono ?_;rintro e w1 ⟨rfl, rfl⟩;rw [vt g3];by_cases hn : 0 < N
 case' pos =>
  go_wp2_with fail;refine (mX t w h0 g3).mono ?_;rintro e w1 ⟨rfl, rfl⟩
 all_goals
  have hmk := HMK.out w;go_wp2;clear hmk;have hr0 := World.rowIs_made w (Value.int .i64 0) N 3;have hbl0 : Below B w (w.alloc (.cells (madeCells #[Value.int .i64 0] N) 3)) := by rw [HB0.out]; exact ak.alloc aj _
  have hBg : B <= w.heap.size := Nat.le_of_eq HB0;generalize hg : w.heap.size = g at *;have HG := af hg;clear hg
  go_loopw [9, 40] (fun v i wr => ∃ (k : Nat) (f : Nat -> Int), k <= N /\ i = .int .i64 k /\ wr.rowIs g 3 N (fun j => .int .i64 (f j)) /\ (∀ j, j < k -> f j = (t + (j : Int)) % r) /\ Below B w wr) (fun _ i _ => N - (intOf i).toNat)
  case atStart => exact ⟨0, fun _ => 0, Nat.zero_le _, rfl, hr0, fun j hj => absurd hj (by omega), hbl0⟩
  case round =>
   clear hr0 hbl0;obtain ⟨k, f, hk, rfl, hrow, hf, hbl⟩ := hrel;have HF := af hf;clear hf;by_cases hlt : k < N
   ·clear hn;go_wp2_with fail;refine (z9 r (t + (k : Int)) _ g1 g2 (by omega) (by omega)).mono ?_;rintro e w5 ⟨rfl, rfl⟩;have hc := hrow.cell (i := k) hlt;have hfr := hrow.frozen k;generalize hx : (t + (k : Int)) % r = x at *;have HX := af hx;clear hx;go_wp2;go_roundw
    case rel =>
     refine ⟨k + 1, upd f k x, by omega, by go_num, acV hrow _, ?_, hbl.setCell hBg _⟩;intro j hj;by_cases e : j = k
     ·subst e; rw [xp]; exact HX.out.symm
     ·rw [s9 _ _ e]; exact HF.out j (by omega)
    case measure => simp [intOf]; omega
   ·have hkn : k = N := by omega
    subst hkn;go_wp2;go_ret2;exact ⟨_, rfl, aaY hrow hBg (pT ..) (fun j hj => by rw [HF.out j hj, af9 hj]) (by unfold maxLen; omega), hbl⟩
theorem agj (r t n : Int) (w : World) (h0 : 0 <= t) (h1 : t <= 18446744073709551615) (hn1 : -9223372036854775808 <= n) (hn2 : n <= 9223372036854775807) (h : mB r t n = false) :
  Calls prog 179 #[.int .i64 r, .int .u64 t, .int .i64 n] w fun e w' => e = .returned (.tuple #[.slice none 0 0, .int .i64 2]) /\ w = w' := by
 have hq := afZ.1 h;clear h;go_enter func179, ntmps179;go_wp2_with fail;refine (sU r w).mono ?_;rintro e w1 ⟨rfl, rfl⟩;by_cases hr : 1 <= r /\ r <= 256
 ·rw [ln hr];go_wp2_with fail;refine (xo t w).mono ?_;rintro e w1 ⟨rfl, rfl⟩;by_cases ht : t <= 4611686018427387904
  ·rw [vt ht];by_cases hn : 0 <= n /\ n <= r
   ·have hp : 0 < n := by omega
    have ha : 4611686018427387904 - t < n - 1 := by omega
    clear hq;go_wp2_with fail;refine (mX t w h0 ht).mono ?_;rintro e w1 ⟨rfl, rfl⟩;go_wp2;go_ret2;exact ⟨rfl, rfl⟩
   ·clear hq;by_cases h0 : 0 <= n
    ·go_wp2;go_ret2;exact ⟨rfl, rfl⟩
    ·go_wp2;go_ret2;exact ⟨rfl, rfl⟩
  ·rw [zL ht];go_wp2;go_ret2;exact ⟨rfl, rfl⟩
 ·rw [lN hr];go_wp2;go_ret2;exact ⟨rfl, rfl⟩
theorem akz (r t n : Int) (B : Nat) (w : World) (HB : Hid (B = w.heap.size)) (h0 : 0 <= t) (h1 : t <= 18446744073709551615) (hn1 : -9223372036854775808 <= n) (hn2 : n <= 9223372036854775807) :
  Calls prog 179 #[.int .i64 r, .int .u64 t, .int .i64 n] w fun e w' => ∃ v, e = .returned (.tuple #[v, .int .i64 (adf r t n)]) /\ aO dw w' B v (abY r t n) /\ Below B w w' := by
 cases h : mB r t n
 ·rw [(ac5 h).1, (ac5 h).2]; exact (agj r t n w h0 h1 hn1 hn2 h).mono fun e w' ⟨he, hw⟩ => ⟨_, he, aO.nil _ _, hw ▸ ak⟩
 ·obtain ⟨N, rfl⟩ : ∃ N : Nat, n = (N : Int) := ⟨n.toNat, by have := lk.1 h; omega⟩;rw [(vQ h).1, (vQ h).2];exact agc r t N B w HB h0 h
theorem yq (r t : Int) (N B : Nat) (w : World) (HB0 : Hid (B = w.heap.size)) (h0 : 0 <= t) (h : mB r t N = true) :
  Calls prog 98 #[.int .i64 r, .int .u64 t, .int .i64 N] w fun e w' => ∃ v, e = .returned (.tuple #[v, .int .i64 0]) /\ aO dw w' B v (ia r t N) /\ Below B w w' := by
 obtain ⟨g1, g2, g3, g4, g5, g6⟩ := lk.1 h;have HM := af (show iw r t t = true from fX.2 (by omega));clear h;go_enter func98, ntmps98;go_wp2_with fail;refine (agE r t t w h0 (by omega) h0 (by omega)).mono ?_;rintro e w1 ⟨rfl, rfl⟩;rw [HM.out];by_cases hn : 0 < N
 all_goals
  go_wp2
  go_loopw [8, 9, 10, 11] (fun v i x y wr => ∃ k : Nat, k <= N /\ i = .int .i64 k /\ aO dw wr B v ((ia r t N).take k) /\ Below B w wr) (fun _ i _ _ _ => N - (intOf i).toNat)
  case atStart => exact ⟨0, Nat.zero_le _, rfl, aO.nil _ _, ak⟩
  case round =>
   obtain ⟨k, hk, rfl, hmd, hbl⟩ := hrel;by_cases hlt : k < N
   ·clear hn;go_wp2_with fail;refine (aky r (t + (k : Int)) _ (by omega) (by omega)).mono ?_;rintro e w5 ⟨rfl, rfl⟩;rw [(wg (fX.2 (by omega))).1, (wg (fX.2 (by omega))).2];have hsc := aaG (r := r) (t := t) hlt;have hlk : ((ia r t N).take k).length <= 256 := by rw [List.length_take, pT]; omega
    generalize hx : (t + (k : Int)) % r = x at *;generalize hl : (ia r t N).take k = l at *;generalize hl' : (ia r t N).take (k + 1) = l' at *;have HX := af hx;have HL := af hl';have HSC := af hsc;clear hx hl hl' hsc;have hnew : RdE dw _ _ _ 1 _ := fp (E := dw) (l := [x]) wr #[.int .i64 x] 3 rfl;have hmd' := hmd.below ((Below.refl wr.heap.size wr).alloc aj (.cells #[.int .i64 x] 3));have hsz : B <= (wr.alloc (.cells #[.int .i64 x] 3)).heap.size := by rw [World.size_alloc]; have := hbl.size; have := HB0.out; omega
    go_wp2_with (at_builtin; refine kR dw rfl _ _ rfl B _ 1 _ _ _ _ _ rfl rfl hmd' hnew hsz ?c1 ?_)
    case c1 => omega
    intro v6 w6 hm6 hg6;have hb6 : Below B (wr.alloc (.cells #[.int .i64 x] 3)) w6 := ak.grown hg6 hsz hmd.jZ;have hB6 : Below B w w6 := (hbl.alloc (by have := hbl.size; have := HB0.out; omega) _).trans hb6;rw [HSC.out] at hm6;clear hnew hmd' hsz hg6 hb6 hmd hbl;go_wp2;go_roundw
    case rel => exact ⟨k + 1, by omega, by go_num, by rw [HL.out]; exact hm6, hB6⟩
    case measure => simp [intOf]; omega
   ·have hkn : k = N := by omega
    subst hkn;rw [List.take_of_length_le (by rw [pT]; exact aj)] at hmd;go_wp2;go_ret2;exact ⟨_, rfl, hmd, hbl⟩
section
variable {d : Int} {M : aK} {T : List Stp} {k : Nat} {s : Stp}
theorem take_at (h : T[k]? = some s) : T.take (k + 1) = T.take k ++ [s] := by rw [List.take_add_one, h]; rfl
theorem mt (h : T[k]? = some s) (h0 : goE d M (T.take k) = 0) : goE d M (T.take (k + 1)) = ju d (goB d M (T.take k)) s /\ goB d M (T.take (k + 1)) = ou d (goB d M (T.take k)) s := by
 rw [take_at h, li, lj, if_pos h0, if_pos h0];by_cases e : ju d (goB d M (T.take k)) s = 0
 ·have := go_ok (d := d) (M := goB d M (T.take k)) (s := s) (l := []) e;exact ⟨this.1.trans e.symm, this.2⟩
 ·exact jj e
theorem oY (h : T[k]? = some s) (h0 : goE d M (T.take k) = 0) (hs : ju d (goB d M (T.take k)) s ≠ 0) : goE d M T = ju d (goB d M (T.take k)) s /\ goB d M T = ou d (goB d M (T.take k)) s := by
 obtain ⟨e1, e2⟩ := mt h h0;have e : T = T.take (k + 1) ++ T.drop (k + 1) := (List.take_append_drop _ _).symm;have h1 : ¬ goE d M (T.take (k + 1)) = 0 := by rw [e1]; exact hs
 constructor
 ·conv => lhs; rw [e]
  rw [li, if_neg h1, e1]
 ·conv => lhs; rw [e]
  rw [lj, if_neg h1, e2]
theorem ct {m n : Nat} (h : Room M n) (hm : m <= n) : Room M m := by
 induction n with
 |zero => rw [show m = 0 from by omega]; exact h
 |succ n ih =>
  rcases Nat.lt_or_ge n m with e | e
  ·rw [show m = n + 1 from by omega]; exact h
  ·exact ih h.less e
theorem oT {n : Nat} (h : Room M n) (hk : k + 1 <= n) : Room (goB d M (T.take k)) 1 := by
 refine lx (d := d) (k := 1) (T.take k) (ct h ?_);rw [List.length_take];omega
end
section
variable {x : LgS} {cs : List Cl} {j : Nat}
theorem abf (h : j < (dC cs).length) : (dI x cs)[j]? = some (.wr (cx x.size (x.head + j)) ((dC cs).getD j aE)) := by
 unfold dI;rw [List.getElem?_append_left (by rw [iy, List.length_map, List.length_range]; exact h), iy, List.getElem?_map, List.getElem?_range h]
 rfl
theorem ab6 : (dI x cs)[(dC cs).length]? = some .fl := by
 unfold dI;rw [List.getElem?_append_right (by rw [iy, List.length_map, List.length_range]; exact aj), iy, List.length_map, List.length_range, Nat.sub_self]
 rfl
theorem afS : (dI x cs)[(dC cs).length + 1]? = some (.wr (cH x.next) (a9.pB (cU x cs))) := by
 unfold dI;rw [List.getElem?_append_right (by rw [iy, List.length_map, List.length_range]; omega), iy, List.length_map, List.length_range, show (dC cs).length + 1 - (dC cs).length = 1 from by omega]
 rfl
theorem adn : (dI x cs)[(dC cs).length + 2]? = some .fl := by
 unfold dI;rw [List.getElem?_append_right (by rw [iy, List.length_map, List.length_range]; omega), iy, List.length_map, List.length_range, show (dC cs).length + 2 - (dC cs).length = 2 from by omega]
 rfl
theorem ab0 : (dI x cs).take ((dC cs).length + 3) = dI x cs := List.take_of_length_le (by rw [pR]; omega)
theorem pX (h : gc cs ≠ 0) : gR x cs = gc cs := if_pos h
theorem lq (h : gc cs = 0) (h2 : 8 <= x.nts.length \/ x.free < (dC cs).length) : gR x cs = 10 := by unfold gR; rw [if_neg (by omega), if_pos h2]
theorem yz (h : gc cs = 0) (h2 : ¬ (8 <= x.nts.length \/ x.free < (dC cs).length)) : gR x cs = 0 := by unfold gR; rw [if_neg (by omega), if_neg h2]
theorem nw {M : aK} (h : gR x cs ≠ 0) : iL M x cs = gR x cs /\ iP M x cs = M /\ gQ M x cs = x /\ i8 M x cs = 0 := by
 have e : iL M x cs = gR x cs := if_neg h;exact ⟨e, if_neg h, by unfold gQ; rw [e, if_neg h], by unfold i8; rw [e, if_neg h]⟩
theorem yC {M : aK} (h : gR x cs = 0) : iL M x cs = goE x.d M (dI x cs) /\ iP M x cs = goB x.d M (dI x cs) := ⟨if_pos h, if_pos h⟩
theorem mU {M : aK} {E : Int} {M' : aK} (h : gR x cs = 0) (h1 : goE x.d M (dI x cs) = E /\ goB x.d M (dI x cs) = M') (hE : E ≠ 0) : iL M x cs = E /\ iP M x cs = M' /\ gQ M x cs = x /\ i8 M x cs = 0 := by
 obtain ⟨e1, e2⟩ := yC (M := M) h;rw [h1.1] at e1;rw [h1.2] at e2;exact ⟨e1, e2, by unfold gQ; rw [e1, if_neg hE], by unfold i8; rw [e1, if_neg hE]⟩
theorem yv {M : aK} {M' : aK} (h : gR x cs = 0) (h1 : goE x.d M (dI x cs) = 0 /\ goB x.d M (dI x cs) = M') : iL M x cs = 0 /\ iP M x cs = M' /\ gQ M x cs = x.with_ (cU x cs) /\ i8 M x cs = x.next := by
 obtain ⟨e1, e2⟩ := yC (M := M) h;rw [h1.1] at e1;rw [h1.2] at e2;exact ⟨e1, e2, by unfold gQ; rw [e1]; rfl, by unfold i8; rw [e1]; rfl⟩
end
section
variable {α : Type} {E : Elt α} {w w' : World} {B : Nat} {v : Value} {l : List α}
theorem aO.og (h : aO E w B v l) (hk : ∀ b, v.ownBlock = some b -> w'.heap[b]? = w.heap[b]?) : aO E w' B v l := by
 refine ⟨h.1, ?_⟩;rcases h.2 with hn | ⟨g, cap, cur, rfl, hbg, hg, rest⟩
 ·exact .inl hn
 ·exact .inr ⟨g, cap, cur, rfl, hbg, (hk g rfl).trans hg, rest⟩
theorem cX.og {l : List Blk} (h : cX w B v l) (hk : ∀ b, v.ownBlock = some b -> w'.heap[b]? = w.heap[b]?) : cX w' B v l := by
 refine ⟨h.1, ?_⟩;rcases h.2 with hn | ⟨g, cap, cur, rfl, hbg, hg, rest⟩
 ·exact .inl hn
 ·exact .inr ⟨g, cap, cur, rfl, hbg, (hk g rfl).trans hg, rest⟩
theorem cX.nj {l : List Blk} (h : cX w B v l) : ∀ b, v.ownBlock = some b -> B <= b /\ b < w.heap.size := by
 intro b hb;rcases h.2 with ⟨rfl, _⟩ | ⟨g, cap, cur, rfl, hg, hg2, _⟩
 ·simp [Value.ownBlock] at hb
 ·simp [Value.ownBlock] at hb; subst hb; exact ⟨hg, aR hg2⟩
theorem aO.tS (h : aO E w B v l) : ∀ b, v.ownBlock = some b -> B <= b /\ b < w.heap.size := by
 intro b hb;rcases h.2 with ⟨rfl, _⟩ | ⟨g, cap, cur, rfl, hg, hg2, _⟩
 ·simp [Value.ownBlock] at hb
 ·simp [Value.ownBlock] at hb; subst hb; exact ⟨hg, aR hg2⟩
end
theorem pN {r t n j : Nat} (h : j < n) : (ia (r : Int) (t : Int) n).getD j 0 = (((t + j) % r : Nat) : Int) := by
 unfold ia;rw [List.getD, List.getElem?_map, List.getElem?_range h];simp [Int.natCast_emod]
end Go.Proofs.YtcpbekopbeaflaaGreatDoor
