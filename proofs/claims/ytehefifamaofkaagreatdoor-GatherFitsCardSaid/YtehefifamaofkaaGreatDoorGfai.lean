import Derived.Test.YtehefifamaofkaaGreatDoorGfah
namespace Go.Proofs.YtehefifamaofkaaGreatDoor
set_option maxHeartbeats 8000000
open Go.Proofs.Tryz
open Go.RowKit Go.ChangeShapes Go.WideShapes Go.ChangeAt Go.Deep
set_option linter.unusedVariables false
set_option linter.unusedSimpArgs false
set_option maxRecDepth 100000
theorem pM {H : Type} {enc : TypeId × Value -> H} {W : World} (fuel : Nat) (cs : List Value) (x : DataW H × List MemPlace) (h : DataW.trod enc prog W 0 (fun _ => true) true fuel 30 cs = some x) : ∃ a : Nat, cs = [.int .u64 (a : Int)] /\ a < 18446744073709551616 := by
 obtain ⟨k, e, _, hw⟩ := DataW.trod_int underlying30 h;have hr := bounds_u64 hw;obtain ⟨n, rfl⟩ := Int.eq_ofNat_of_zero_le hr.1;exact ⟨n, e, by omega⟩
theorem l7 {H : Type} {enc : TypeId × Value -> H} {W : World} (fuel : Nat) (cs : List Value) (x : DataW H × List MemPlace) (h : DataW.trod enc prog W 0 (fun _ => true) true fuel 5 cs = some x) : ∃ a : UInt8, cs = [.int .u8 (a.toNat : Int)] := by
 obtain ⟨k, e, _, hw⟩ := DataW.trod_int underlying5 h;have hr : 0 <= k /\ k <= 255 := bounds_u8 hw;refine ⟨UInt8.ofNat k.toNat, ?_⟩;rw [e, UInt8.toNat_ofNat']
 congr 2
 omega
theorem ox {H : Type} {enc : TypeId × Value -> H} {W : World} (fuel : Nat) (cs : List Value) (x : DataW H × List MemPlace) (h : DataW.trod enc prog W 0 (fun _ => true) true fuel 4 cs = some x) : ∃ a : Bool, cs = [.bool a] := by
 obtain ⟨k, e, _⟩ := DataW.trod_bool underlying4 h;exact ⟨k, e⟩
theorem fL {α : Type} (l : List α) (a k : Nat) : l.drop a = (l.drop a).take k ++ l.drop (a + k) := by
 conv => lhs; rw [<- List.take_append_drop k (l.drop a)]
 rw [List.drop_drop]
structure bN where
 D : Int
 N : Int
 Event : Nat
 S : Sup
 Any : Bool
 B : Blk
 At : UInt8
 By : UInt8
def bN.C (a : bN) : List Value := [.int .i64 a.D] ++ ([.int .i64 a.N] ++ ([.int .u64 (a.Event : Int)] ++ (aV a.S ++ ([.bool a.Any] ++ (cel a.B ++ ([.int .u8 (a.At.toNat : Int)] ++ ([.int .u8 (a.By.toNat : Int)])))))))
def bN.V (a : bN) : Value := .agg a.C.toArray
theorem bN.wJ (a : bN) : a.C.length = 93 := by simp [bN.C, aF, aH]
theorem bN.aca (a : bN) : ∀ v ∈ a.C, v.oneCell' = true := by
 intro v hv;simp only [bN.C, List.mem_append, List.mem_singleton] at hv;rcases hv with rfl | rfl | rfl | hv | rfl | hv | rfl | rfl
 ·rfl
 ·rfl
 ·rfl
 ·exact jw _ v hv
 ·rfl
 ·exact jq _ v hv
 ·rfl
 ·rfl
def bN.zero : bN := ⟨0, 0, 0, bp, false, aB, 0, 0⟩
def ik : Elt bN where
 s := 22
 t := 39
 n := 93
 by_ := 168
 cel := bN.C
 d := bN.zero
 z := bN.zero.V
 pos := by omega
 small := by omega
 len := bN.wJ
 one := bN.aca
 und := underlying22
 info := by kernel_rfl
 zc := by show (Value.cells (.agg _)).size = 93; simp [Value.cells, bN.wJ]
def bN.In (W : World) (a : bN) : Prop := (-9223372036854775808 <= a.D /\ a.D <= 9223372036854775807) /\ (-9223372036854775808 <= a.N /\ a.N <= 9223372036854775807) /\ (a.Event < 18446744073709551616) /\ (a.S.id < 18446744073709551616)
section
variable {H : Type} {enc : TypeId × Value -> H} {W : World} {base : Nat} {v : Value} {d : DataW H} {p : List MemPlace}
theorem bN.zg (fuel : Nat) (cs : List Value) (x : DataW H × List MemPlace) (h : DataW.trod enc prog W 0 (fun _ => true) true fuel 39 cs = some x) : ∃ a : bN, cs = a.C /\ a.In W := by
 obtain ⟨xs, m, _, _, hlen, hxl, hf⟩ := DataW.trod_struct underlying39 h;have h0 : DataW.trod enc prog W 0 (fun _ => true) true m 3 ((cs.drop 0).take (prog.cellsOf 3)) = xs[0]? := hf 0 _ rfl;have h1 : DataW.trod enc prog W 0 (fun _ => true) true m 3 ((cs.drop 1).take (prog.cellsOf 3)) = xs[1]? := hf 1 _ rfl;have h2 : DataW.trod enc prog W 0 (fun _ => true) true m 30 ((cs.drop 2).take (prog.cellsOf 30)) = xs[2]? := hf 2 _ rfl;have h3 : DataW.trod enc prog W 0 (fun _ => true) true m 37 ((cs.drop 3).take (prog.cellsOf 37)) = xs[3]? := hf 3 _ rfl;have h4 : DataW.trod enc prog W 0 (fun _ => true) true m 4 ((cs.drop 26).take (prog.cellsOf 4)) = xs[4]? := hf 4 _ rfl;have h5 : DataW.trod enc prog W 0 (fun _ => true) true m 29 ((cs.drop 27).take (prog.cellsOf 29)) = xs[5]? := hf 5 _ rfl;have h6 : DataW.trod enc prog W 0 (fun _ => true) true m 5 ((cs.drop 91).take (prog.cellsOf 5)) = xs[6]? := hf 6 _ rfl;have h7 : DataW.trod enc prog W 0 (fun _ => true) true m 5 ((cs.drop 92).take (prog.cellsOf 5)) = xs[7]? := hf 7 _ rfl;have hxl2 : xs.length = 8 := hxl;have hln : cs.length = 93 := hlen.trans (by kernel_rfl);rw [show prog.cellsOf 3 = 1 from by kernel_rfl, List.getElem?_eq_getElem (by omega)] at h0;rw [show prog.cellsOf 3 = 1 from by kernel_rfl, List.getElem?_eq_getElem (by omega)] at h1;rw [show prog.cellsOf 30 = 1 from by kernel_rfl, List.getElem?_eq_getElem (by omega)] at h2;rw [show prog.cellsOf 37 = 23 from by kernel_rfl, List.getElem?_eq_getElem (by omega)] at h3;rw [show prog.cellsOf 4 = 1 from by kernel_rfl, List.getElem?_eq_getElem (by omega)] at h4;rw [show prog.cellsOf 29 = 64 from by kernel_rfl, List.getElem?_eq_getElem (by omega)] at h5;rw [show prog.cellsOf 5 = 1 from by kernel_rfl, List.getElem?_eq_getElem (by omega)] at h6;rw [show prog.cellsOf 5 = 1 from by kernel_rfl, List.getElem?_eq_getElem (by omega)] at h7;obtain ⟨a0, e0, w0⟩ := kO _ _ _ h0;have b0 := bounds_i64 w0;obtain ⟨a1, e1, w1⟩ := kO _ _ _ h1;have b1 := bounds_i64 w1;obtain ⟨a2, e2, b2⟩ := pM _ _ _ h2;obtain ⟨a3, e3, b3⟩ := aaT h3;obtain ⟨a4, e4⟩ := ox _ _ _ h4;obtain ⟨a5, e5⟩ := oT h5;obtain ⟨a6, e6⟩ := l7 _ _ _ h6;obtain ⟨a7, e7⟩ := l7 _ _ _ h7;refine ⟨⟨a0, a1, a2, a3, a4, a5, a6, a7⟩, ?_, ⟨b0, b1, b2, b3⟩⟩;have q7 : cs.drop 92 = [.int .u8 (a7.toNat : Int)] := by rw [<- List.take_of_length_le (l := cs.drop 92) (i := 1) (by rw [List.length_drop]; omega)]; exact e7
 have q6 : cs.drop 91 = [.int .u8 (a6.toNat : Int)] ++ ([.int .u8 (a7.toNat : Int)]) := by rw [fL cs 91 1, e6, show 91 + 1 = 92 from rfl, q7]
 have q5 : cs.drop 27 = cel a5 ++ ([.int .u8 (a6.toNat : Int)] ++ ([.int .u8 (a7.toNat : Int)])) := by rw [fL cs 27 64, e5, show 27 + 64 = 91 from rfl, q6]
 have q4 : cs.drop 26 = [.bool a4] ++ (cel a5 ++ ([.int .u8 (a6.toNat : Int)] ++ ([.int .u8 (a7.toNat : Int)]))) := by rw [fL cs 26 1, e4, show 26 + 1 = 27 from rfl, q5]
 have q3 : cs.drop 3 = aV a3 ++ ([.bool a4] ++ (cel a5 ++ ([.int .u8 (a6.toNat : Int)] ++ ([.int .u8 (a7.toNat : Int)])))) := by rw [fL cs 3 23, e3, show 3 + 23 = 26 from rfl, q4]
 have q2 : cs.drop 2 = [.int .u64 (a2 : Int)] ++ (aV a3 ++ ([.bool a4] ++ (cel a5 ++ ([.int .u8 (a6.toNat : Int)] ++ ([.int .u8 (a7.toNat : Int)]))))) := by rw [fL cs 2 1, e2, show 2 + 1 = 3 from rfl, q3]
 have q1 : cs.drop 1 = [.int .i64 a1] ++ ([.int .u64 (a2 : Int)] ++ (aV a3 ++ ([.bool a4] ++ (cel a5 ++ ([.int .u8 (a6.toNat : Int)] ++ ([.int .u8 (a7.toNat : Int)])))))) := by rw [fL cs 1 1, e1, show 1 + 1 = 2 from rfl, q2]
 have q0 : cs.drop 0 = [.int .i64 a0] ++ ([.int .i64 a1] ++ ([.int .u64 (a2 : Int)] ++ (aV a3 ++ ([.bool a4] ++ (cel a5 ++ ([.int .u8 (a6.toNat : Int)] ++ ([.int .u8 (a7.toNat : Int)]))))))) := by rw [fL cs 0 1, e0, show 0 + 1 = 1 from rfl, q1]
 exact q0
theorem aai (hv : Value.okWide prog W .any base 22 v) (h : DataW.Trod enc prog W 0 (fun _ => true) true 22 v d p) :
  ∃ (A : Option Addr) (n c : Nat) (l : List bN), v = .slice A n c /\ RdE ik W W.heap.size A n l /\ n <= c /\ c <= maxLen /\ ∀ k, k < n -> (l.getD k bN.zero).In W :=
 uh ik (bN.In W) (by kernel_rfl) hv h (fun fuel cs x h => bN.zg fuel cs x h)
end
theorem bN.size : (prog.info? 39).map (·.size) = some 93 := by kernel_rfl
section
variable {ρ : Operand -> Value} {o : Oper} {x y : Operand} {w : World} {b off : Nat} {a c : bN}
theorem mF (ho : o.op = .load 39 x) (hx : ρ x = .pointer (some ⟨b, off, none⟩)) (hc : w.rangeAt b off a.C) : (execOp ρ o).run prog w = .ok (.value a.V) w := dU underlying39 rfl (by rw [bN.wJ]; exact bN.size) ho hx hc
theorem mO (ho : o.op = .box 39 x) (hx : ρ x = a.V) : (execOp ρ o).run prog w = .ok (.value (.pointer (some ⟨w.heap.size, 0, none⟩))) (w.alloc (.cells a.C.toArray 39)) := eI ho hx
end
section
variable {w w' : World} {b : Nat} {a : bN}
theorem wm : (Instr.fieldAt 39 (.pointer (some ⟨b, 0, none⟩)) 2).run prog w = .ok (.pointer (some ⟨b, 2, none⟩)) w := by kernel_rfl
theorem vp : (Instr.fieldAt 39 (.pointer (some ⟨b, 0, none⟩)) 3).run prog w = .ok (.pointer (some ⟨b, 3, none⟩)) w := by kernel_rfl
theorem qy : (Instr.fieldAt 39 (.pointer (some ⟨b, 0, none⟩)) 4).run prog w = .ok (.pointer (some ⟨b, 26, none⟩)) w := by kernel_rfl
theorem vi : (Instr.fieldAt 39 (.pointer (some ⟨b, 0, none⟩)) 5).run prog w = .ok (.pointer (some ⟨b, 27, none⟩)) w := by kernel_rfl
theorem qt : (Instr.fieldAt 39 (.pointer (some ⟨b, 0, none⟩)) 6).run prog w = .ok (.pointer (some ⟨b, 91, none⟩)) w := by kernel_rfl
theorem pZ : (Instr.fieldAt 39 (.pointer (some ⟨b, 0, none⟩)) 7).run prog w = .ok (.pointer (some ⟨b, 92, none⟩)) w := by kernel_rfl
def bN.At_ (w : World) (b : Nat) (a : bN) : Prop := w.heap[b]? = some (.cells a.C.toArray 39 (0, 0))
theorem bN.At_.range (h : bN.At_ w b a) : w.rangeAt b 0 a.C := br h
theorem bN.At_.new (w : World) (a : bN) : bN.At_ (w.alloc (.cells a.C.toArray 39)) w.heap.size a := heap_alloc_new w _
theorem bN.At_.f2 (h : bN.At_ w b a) : w.cell? ⟨b, 2, none⟩ = some (.int .u64 (a.Event : Int)) := by
 have := h.range 2 (.int .u64 (a.Event : Int)) (by
  show a.C[2]? = _
  rw [show 2 = 2 + 0 from rfl, <- List.getElem?_drop];rw [show a.C.drop 2 = [.int .u64 (a.Event : Int)] ++ (aV a.S ++ ([.bool a.Any] ++ (cel a.B ++ ([.int .u8 (a.At.toNat : Int)] ++ ([.int .u8 (a.By.toNat : Int)]))))) from ?_]
  ·rfl
  ·rfl)
 rwa [Nat.zero_add] at this
theorem bN.At_.f3 (h : bN.At_ w b a) : w.rangeAt b 3 (aV a.S) := fun j u hj => by
 have hl := (List.getElem?_eq_some_iff.1 hj).1;have := h.range (3 + j) u (by
  show a.C[3 + j]? = some u
  rw [<- List.getElem?_drop];rw [show a.C.drop 3 = aV a.S ++ ([.bool a.Any] ++ (cel a.B ++ ([.int .u8 (a.At.toNat : Int)] ++ ([.int .u8 (a.By.toNat : Int)])))) from ?_]
  ·first
   |exact hj
   |(rw [List.getElem?_append_left hl]; exact hj)
  ·rfl)
 rwa [Nat.zero_add] at this
theorem bN.At_.f4 (h : bN.At_ w b a) : w.cell? ⟨b, 26, none⟩ = some (.bool a.Any) := by
 have := h.range 26 (.bool a.Any) (by
  show a.C[26]? = _
  rw [show 26 = 26 + 0 from rfl, <- List.getElem?_drop];rw [show a.C.drop 26 = [.bool a.Any] ++ (cel a.B ++ ([.int .u8 (a.At.toNat : Int)] ++ ([.int .u8 (a.By.toNat : Int)]))) from ?_]
  ·rfl
  ·unfold bN.C; rw [show 26 = 1 + 25 from rfl, <- List.drop_drop, List.drop_left' (by rfl)]; rw [show 25 = 1 + 24 from rfl, <- List.drop_drop, List.drop_left' (by rfl)]; rw [show 24 = 1 + 23 from rfl, <- List.drop_drop, List.drop_left' (by rfl)]; rw [List.drop_left' (by exact aH _)])
 rwa [Nat.zero_add] at this
theorem bN.At_.f5 (h : bN.At_ w b a) : w.rangeAt b 27 (cel a.B) := fun j u hj => by
 have hl := (List.getElem?_eq_some_iff.1 hj).1;have := h.range (27 + j) u (by
  show a.C[27 + j]? = some u
  rw [<- List.getElem?_drop];rw [show a.C.drop 27 = cel a.B ++ ([.int .u8 (a.At.toNat : Int)] ++ ([.int .u8 (a.By.toNat : Int)])) from ?_]
  ·first
   |exact hj
   |(rw [List.getElem?_append_left hl]; exact hj)
  ·unfold bN.C; rw [show 27 = 1 + 26 from rfl, <- List.drop_drop, List.drop_left' (by rfl)]; rw [show 26 = 1 + 25 from rfl, <- List.drop_drop, List.drop_left' (by rfl)]; rw [show 25 = 1 + 24 from rfl, <- List.drop_drop, List.drop_left' (by rfl)]; rw [show 24 = 23 + 1 from rfl, <- List.drop_drop, List.drop_left' (by exact aH _)]; rw [List.drop_left' (by rfl)])
 rwa [Nat.zero_add] at this
theorem bN.At_.f6 (h : bN.At_ w b a) : w.cell? ⟨b, 91, none⟩ = some (.int .u8 (a.At.toNat : Int)) := by
 have := h.range 91 (.int .u8 (a.At.toNat : Int)) (by
  show a.C[91]? = _
  rw [show 91 = 91 + 0 from rfl, <- List.getElem?_drop];rw [show a.C.drop 91 = [.int .u8 (a.At.toNat : Int)] ++ ([.int .u8 (a.By.toNat : Int)]) from ?_]
  ·rfl
  ·unfold bN.C; rw [show 91 = 1 + 90 from rfl, <- List.drop_drop, List.drop_left' (by rfl)]; rw [show 90 = 1 + 89 from rfl, <- List.drop_drop, List.drop_left' (by rfl)]; rw [show 89 = 1 + 88 from rfl, <- List.drop_drop, List.drop_left' (by rfl)]; rw [show 88 = 23 + 65 from rfl, <- List.drop_drop, List.drop_left' (by exact aH _)]; rw [show 65 = 1 + 64 from rfl, <- List.drop_drop, List.drop_left' (by rfl)]; rw [List.drop_left' (by exact aF _)])
 rwa [Nat.zero_add] at this
theorem bN.At_.f7 (h : bN.At_ w b a) : w.cell? ⟨b, 92, none⟩ = some (.int .u8 (a.By.toNat : Int)) := by
 have := h.range 92 (.int .u8 (a.By.toNat : Int)) (by
  show a.C[92]? = _
  rw [show 92 = 92 + 0 from rfl, <- List.getElem?_drop];rw [show a.C.drop 92 = [.int .u8 (a.By.toNat : Int)] from ?_]
  ·rfl
  ·unfold bN.C; rw [show 92 = 1 + 91 from rfl, <- List.drop_drop, List.drop_left' (by rfl)]; rw [show 91 = 1 + 90 from rfl, <- List.drop_drop, List.drop_left' (by rfl)]; rw [show 90 = 1 + 89 from rfl, <- List.drop_drop, List.drop_left' (by rfl)]; rw [show 89 = 23 + 66 from rfl, <- List.drop_drop, List.drop_left' (by exact aH _)]; rw [show 66 = 1 + 65 from rfl, <- List.drop_drop, List.drop_left' (by rfl)]; rw [show 65 = 64 + 1 from rfl, <- List.drop_drop, List.drop_left' (by exact aF _)]; rw [List.drop_left' (by rfl)])
 rwa [Nat.zero_add] at this
end
open Go.RowKit
theorem rP {fn : Func} {p q u : Tmp} (h : fn.results = #[.tmp p, .tmp q, .tmp u]) (tmps : Array Value) (w : World) : (results fn tmps).run prog w = .ok (.tuple #[tmps.getD p undef, tmps.getD q undef, tmps.getD u undef]) w := by
 simp [results, h]
theorem pQ (P : mQ) (N : Nat) (w : World) (h1 : 3 <= N) (h2 : N <= 16) : Calls prog 7 #[.int .i64 (N : Int)] w fun e w' => ∃ p q F G, e = .returned (.tuple #[.pointer (some ⟨p, 0, none⟩), .pointer (some ⟨q, 0, none⟩), .bool true]) /\ P.Bn w' F p (bW (szK N 4)) /\ n8.Bn w' G q (bW (szK N 4)) /\ (∀ b, F b -> ¬ G b) /\ (∀ b, F b \/ G b -> w.heap.size <= b) /\ Below w.heap.size w w' := by
 have HN := ae h2;have HOK := ae (aan (N := N) (s := 4) h2 (by omega));clear h1 h2;go_enter func7, ntmps7;go_upto_region 0 with fail;refine cI 3 ?_;go_upto_region 1 with fail;refine cI 1 ?_;go_upto_region 2 with fail;refine cI 1 ?_;go_wp2_with fail
 go_loopw [5, 6] (fun v z wr => ∃ i : Nat, z = .int .i64 i /\ i <= N /\ bg iu wr w.heap.size v (List.replicate i (2 + 4)) /\ Below w.heap.size w wr) (fun _ z _ => N - (intOf z).toNat)
 case atStart => exact ⟨0, by go_num, Nat.zero_le _, bg.nil _ _, aj⟩
 case round =>
  obtain ⟨i, rfl, hi, hm, hb⟩ := hrel;have HM := ae hm;have HW := ae hb;have HBS : Hid (w.heap.size <= wr.heap.size) := ae hb.size;clear hm hb;by_cases hlt : i < N
  ·have HI := ae hlt;have HLT : Hid (decide ((i : Int) < (N : Int)) = true) := ae (am (by omega));have HA : Hid (IntKind.i64.wrap ((i : Int) + 1) = ((i + 1 : Nat) : Int)) := ae (by have := HN.out; rw [eJ ⟨by omega, by omega⟩]; omega);have hsz : (wr.alloc (.cells #[.int .i64 6] 3)).heap.size = wr.heap.size + 1 := ak;obtain ⟨v2, w3, hrun, hm2, hg2⟩ := iv iu (wr.alloc (.cells #[.int .i64 6] 3)) 77 w.heap.size (wr.heap.size + 1) 1 1 u5 (List.replicate i (2 + 4)) [6] (some ⟨wr.heap.size, 0, none⟩) (bg.below HM (aj.alloc ai _)) (gR (E := iu) (l := [6]) wr #[.int .i64 6] 3 rfl) (by have := HBS.out; omega) (by have := HN.out; simp; omega);have HRUN := ae hrun;have HM3 : Hid (bg iu w3 w.heap.size v2 (List.replicate (i + 1) (2 + 4))) := ae (by rw [List.replicate_succ']; exact hm2);have HW3 : Hid (Below w.heap.size w w3) := ae ((HW.out.trans (aj.alloc HBS _)).grown hg2 (by have := HBS.out; omega) (fun j' hj' => HM.out.kv j' hj'));clear hi hlt hsz hrun hm2 hg2;go_upto_region 3 with fail;refine bn 2 ?_;refine ac6 (bw true rfl adh adh HLT) ?_;refine ag ?_;go_upto_region 5 with fail;refine bn 1 ?_;refine ac6 (eS (E := iu) (a := 6) rfl evk rfl (by decide)) ?_;refine ac6 (iP (E := iu) rfl adh adh HRUN) ?_;refine aP 1 ?_;go_upto_region 4 with fail;refine bn 1 ?_;refine ac6 (cQ rfl adh evk HA) ?_;refine aP 1 ?_;go_wp2_with fail;go_roundw
   case rel => exact ⟨i + 1, by go_num, HI, HM3, HW3⟩
   case measure => have := HI.out; simp [intOf]; omega
  have hin : i = N := by omega
  subst hin;have HLT : Hid (decide ((i : Int) < (i : Int)) = false) := ae (al (by omega));have hsz : (wr.alloc (.cells #[.int .i64 50] 3)).heap.size = wr.heap.size + 1 := ak;obtain ⟨v2, w3, hrun, hm2, hg2⟩ := iv iu (wr.alloc (.cells #[.int .i64 50] 3)) 77 w.heap.size (wr.heap.size + 1) 1 1 u5 (List.replicate i (2 + 4)) [50] (some ⟨wr.heap.size, 0, none⟩) (bg.below HM (aj.alloc ai _)) (gR (E := iu) (l := [50]) wr #[.int .i64 50] 3 rfl) (by have := HBS.out; omega) (by have := HN.out; simp; omega);have HRUN := ae hrun;have HM3 : Hid (bg iu w3 w.heap.size v2 (szK i 4)) := ae hm2;have HW3 : Hid (Below w.heap.size w w3) := ae ((HW.out.trans (aj.alloc HBS _)).grown hg2 (by have := HBS.out; omega) (fun j' hj' => HM.out.kv j' hj'));clear hi hlt hsz hrun hm2 hg2;go_upto_region 3 with fail;refine bn 2 ?_;refine ac6 (bw false rfl adh adh HLT) ?_;refine ag ?_;go_upto_region 6 with fail;refine bn 1 ?_;refine ac6 (eS (E := iu) (a := 50) rfl evk rfl (by decide)) ?_;refine ac6 (iP (E := iu) rfl adh adh HRUN) ?_;refine aP 1 ?_;obtain ⟨A2, c2, rfl, e21, e22⟩ := HM3.out.form;have HR3 := ae HM3.out.rd;have HC2 := ae (And.intro e21 e22);have HB3 := ae HW3;clear e21 e22;go_upto_region 7 with fail;refine bn 1 ?_;refine ay rfl (aD call34 rfl (evc adh evn)) ?_;refine (P.new HR3 HC2.out.1 HC2.out.2).mono ?_;rintro e w4 ⟨b4, h4⟩;obtain ⟨_, p, F, rfl, n4, f4⟩ | ⟨h4, _⟩ := h4;rotate_left 1
  ·exact absurd HOK h4
  have HB4 := ae (HB3.out.trans (b4.mono HB3.out.size));have HN4 := ae n4;have HF4 : Hid (∀ b, F b -> w3.heap.size <= b) := ae f4;have HFL : Hid (∀ b, F b -> b < w4.heap.size) := ae fun b hb => P.toBen.lt n4 b hb
  have HR4 := ae (HM3.out.below b4).rd;clear b4 n4 f4;refine bI ?_;refine runs 3 ?_;refine aP 2 ?_;go_upto_region 8 with fail;refine bn 1 ?_;refine ay rfl (aD call35 rfl (evc adh evn)) ?_;refine (n8.new HR4 HC2.out.1 HC2.out.2).mono ?_;rintro e w5 ⟨b5, h5⟩;obtain ⟨_, q, G, rfl, n5, f5⟩ | ⟨h5, _⟩ := h5;rotate_left 1
  ·exact absurd HOK h5
  have HB5 := ae (HB4.out.trans (b5.mono HB4.out.size));have HN5 := ae (P.toBen.below HN4 b5);have HD5 := ae n5;have HG5 : Hid (∀ b, G b -> w4.heap.size <= b) := ae f5;clear b5 n5 f5;refine bI ?_;refine runs 3 ?_;refine aP 2 ?_;go_upto_region 9 with fail;refine bn 3 ?_;refine ac6 (aG true rfl adh evk rfl) ?_;refine runs 2 ?_;refine ade (aG true rfl adh evk rfl) ?_;refine runs 3 ?_;refine aP 1 ?_;go_wp2_with fail;have s3 := HB3.out.size;have s4 := HB4.out.size;exact bodyPost_ret (rP rfl _ _) rfl ⟨p, q, F, G, rfl, HN5, HD5, (fun b h1 h2 => by have := HFL.out b h1; have := HG5.out b h2; omega), (fun b e => e.elim (fun h => ap s3 (HF4.out b h)) (fun h => ap s4 (HG5.out b h))), HB5⟩
def PAt (P : mQ) (w0 : World) (B : Nat) (w : World) (p : Nat) (M : aM) : Prop := ∃ F, P.Bn w F p M /\ (∀ b, F b -> B <= b) /\ Below B w0 w /\ j0 w0 B
theorem PAt.below {P : mQ} {w0 w w' : World} {B p : Nat} {M : aM} (a : PAt P w0 B w p M) (k : Below w.heap.size w w') : PAt P w0 B w' p M := by
 obtain ⟨F, h1, h2, h3, h4⟩ := a;exact ⟨F, P.toBen.below h1 k, h2, h3.trans (k.mono (ap h4.le h3.size)), h4⟩
theorem vW (P : mQ) (N : Nat) (w : World) (T : Tab w) (h1 : 3 <= N) (h2 : N <= 16) : Calls prog 7 #[.int .i64 (N : Int)] w fun e w' => ∃ p q, e = .returned (.tuple #[.pointer (some ⟨p, 0, none⟩), .pointer (some ⟨q, 0, none⟩), .bool true]) /\ PAt P w w.heap.size w' p (bW (szK N 4)) :=
 (pQ P N w h1 h2).mono fun e w' ⟨p, q, F, G, g1, g2, _, _, g5, g6⟩ => ⟨p, q, g1, F, g2, fun b e => g5 b (.inl e), g6, j0.start T⟩
theorem zT (P : mQ) (N : Nat) (w : World) (T : Tab w) (h1 : 3 <= N) (h2 : N <= 16) : Calls prog 7 #[.int .i64 (N : Int)] w fun e w' => ∃ p q, e = .returned (.tuple #[.pointer (some ⟨p, 0, none⟩), .pointer (some ⟨q, 0, none⟩), .bool true]) /\ TwB P.toBen n8.toBen w w.heap.size (fun _ => False) w' p q (bW (szK N 4)) (bW (szK N 4)) :=
 (pQ P N w h1 h2).mono fun e w' ⟨p, q, F, G, g1, g2, g3, g4, g5, g6⟩ => ⟨p, q, g1, TwB.start T g2 g3 g4 g5 g6⟩
theorem mT (x : Fnd) (w : World) : Calls prog 22 #[fnd x, fnd x] w fun e w' => e = .returned (.bool true) /\ Below w.heap.size w w' := by
 go_enter func22, ntmps22;go_upto_region 0 with fail;refine af ?_;refine ac6 (jj (c := x) rfl adh) ?_;have hbx := (Below.refl w.heap.size w).alloc ai (.cells (bP x).toArray 50);have HB1 := ae hbx;have X1 : Hid (de _ _ x) := ae (heap_alloc_new w (.cells (bP x).toArray 50));obtain ⟨bX, hbX⟩ : ∃ bX, w.heap.size = bX := ⟨_, rfl⟩;rw [hbX] at X1 ⊢;clear hbx hbX;generalize w.alloc (.cells (bP x).toArray 50) = w1 at *;refine ac6 (jj (c := x) rfl adh) ?_;have hbx := (Below.refl w1.heap.size w1).alloc ai (.cells (bP x).toArray 50);have HB2 := ae (HB1.out.trans (hbx.mono HB1.out.size));have Y2 : Hid (de _ _ x) := ae (heap_alloc_new w1 (.cells (bP x).toArray 50));have X2 : Hid (de _ _ x) := ae (aC X1 hbx);obtain ⟨bY, hbY⟩ : ∃ bY, w1.heap.size = bY := ⟨_, rfl⟩;rw [hbY] at Y2 ⊢;clear hbx hbY;generalize w1.alloc (.cells (bP x).toArray 50) = w2 at *;refine aP 1 ?_;go_upto_region 1 with fail;refine af ?_;refine ac6 (ax rfl adh ml) ?_;refine ac6 (aE rfl adh (cw X2.out.cells.1)) ?_;refine ac6 (ax rfl adh ml) ?_;refine ac6 (aE rfl adh (cw Y2.out.cells.1)) ?_;refine ac6 (aG true rfl adh adh (beq_self_eq_true _)) ?_;refine runs 1 ?_;refine ade (ax rfl adh jM) ?_;refine ade (aE rfl adh (cw X2.out.cells.2)) ?_;refine ade (ax rfl adh jM) ?_;refine ade (aE rfl adh (cw Y2.out.cells.2)) ?_;refine ade (aG true rfl adh adh (beq_self_eq_true _)) ?_;refine runs 2 ?_;refine ade (ax rfl adh gU) ?_;refine ade (bh rfl adh X2.out.i4) ?_;refine ade (ax rfl adh gU) ?_;refine ade (bh rfl adh Y2.out.i4) ?_;refine ay ac1 (aD call33 rfl (evc adh (evc adh evn))) ?_;refine (vu x.R x.R w2).mono ?_;rintro e w3 ⟨rfl, b3⟩;have HB3 := ae (HB2.out.trans (b3.mono HB2.out.size));rw [am (rfl : x.R = x.R)];clear b3;refine bI ?_;refine aP 2 ?_;go_wp2_with fail;go_ret;exact ⟨rfl, HB3⟩
theorem zi {w : World} {g j : Nat} (hj : j < 64) : (Instr.indexAt 29 (.pointer (some ⟨g, 0, none⟩)) (.int .u8 (j : Int))).run prog w = .ok (.pointer (some ⟨g, j, none⟩)) w := by
 have e : (0 <= (j : Int) /\ (j : Int) < 64) := by omega
 simp [Instr.indexAt, Instr.sureAddr, asIntOf, run_underlying underlying29, Tryz.sizeOf5, Addr.add_mid, e, hj]
theorem sV {w : World} {ad : Addr} {b : Bool} (h : w.cell? ad = some (.bool b)) : (Instr.loadAt 4 (.pointer (some ad))).run prog w = .ok (.bool b) w := by simp [go_sem, h]
theorem sH {w : World} {ad : Addr} {n : Int} (h : w.cell? ad = some (.int .u8 n)) : (Instr.loadAt 5 (.pointer (some ad))).run prog w = .ok (.int .u8 n) w := by simp [go_sem, h]
theorem z2 {w : World} {g j : Nat} {c : Blk} (h : w.heap[g]? = some (.cells (cel c).toArray 29 (0, 0))) (hj : j < 64) : ∃ u : UInt8, (Instr.loadAt 5 (.pointer (some ⟨g, j, none⟩))).run prog w = .ok (.int .u8 (u.toNat : Int)) w /\ w.cell? ⟨g, j, none⟩ = some (.int .u8 (u.toNat : Int)) := by
 have hl : j < (cel c).length := by rw [aF]; exact hj
 have hc : w.cell? ⟨g, j, none⟩ = some ((cel c)[j]) := by
  have := br h j ((cel c)[j]) (List.getElem?_eq_getElem hl);rwa [Nat.zero_add] at this
 obtain ⟨u, hu⟩ : ∃ u : UInt8, (cel c)[j] = .int .u8 (u.toNat : Int) := by
  refine ⟨c[j], ?_⟩;simp [cel, vals]
 rw [hu] at hc;exact ⟨u, by simp [go_sem, hc], hc⟩
theorem nI {w : World} {b i : Nat} {t : TypeId} {c : Blk} (v : UInt8) (h : w.heap[b]? = some (.cells (cel c).toArray t (0, 0))) (hi : i < 64) : (w.setCell ⟨b, i, none⟩ (.int .u8 (v.toNat : Int))).heap[b]? = some (.cells (cel (c.set i v)).toArray t (0, 0)) := by
 have := heap_setCell_same w b i _ t (.int .u8 (v.toNat : Int)) h;rw [<- zo _ hi]
 simpa using this
theorem lW {w : World} {b : Nat} {t : TypeId} {c d : Blk} (h : w.heap[b]? = some (.cells (cel d).toArray t (0, 0))) : (w.setCells b 0 (cel c)).heap[b]? = some (.cells (cel c).toArray t (0, 0)) := by
 have := kh (cel c) 0 (cel d) w h;have e := lu (c := []) (cel c) [] (cel d) (by rw [aF, aF]);simp only [List.nil_append, List.append_nil, List.length_nil] at e;rwa [e] at this
theorem iZ {a w : World} {B b j : Nat} {v : Value} (h : Below B a w) (hb : B <= b) : Below B a (w.setCell ⟨b, j, none⟩ v) := below_setCells (o := j) h hb [v]
theorem nA {ρ : Operand -> Value} {o : Oper} {x y : Operand} {w : World} {b j : Nat} {u : Value} {n : Int} (ho : o.op = .store 5 x y) (hx : ρ x = .pointer (some ⟨b, j, none⟩)) (hy : ρ y = .int .u8 n) (h : w.cell? ⟨b, j, none⟩ = some u) (hf : w.frozen? ⟨b, j, none⟩ = false) : (execOp ρ o).run prog w = .ok .skip (w.setCell ⟨b, j, none⟩ (.int .u8 n)) :=
 fS ho hx hy (by simp [go_sem, h, hf])
theorem tM (a : bN) (w0 : World) (hin : a.In w0) (w : World) : Calls prog 8 #[a.V] w fun e w' => ∃ c, e = .returned (blk c) /\ Below w.heap.size w w' := by
 obtain ⟨_, _, he, hs⟩ := hin;have HE := ae he;have HS := ae hs;obtain ⟨j, hj⟩ : ∃ j, a.At.toNat % 64 = j := ⟨_, rfl⟩;have HJ : Hid (j < 64) := ae (by omega);have HR : Hid ((a.At.toNat : Int).tmod 64 = (j : Int)) := ae (by rw [<- hj]; rfl);obtain ⟨an, han⟩ : ∃ an, a.Any = an := ⟨_, rfl⟩;have HAN := ae han;clear he hs hj han;go_enter func8, ntmps8;go_upto_region 0 with fail;refine af ?_;refine ac6 (mO rfl adh) ?_;have hbx := (Below.refl w.heap.size w).alloc ai (.cells a.C.toArray 39);have HB1 := ae hbx;have A1 := ae (bN.At_.new w a);have HGA : Hid (w.heap.size <= w.heap.size) := ae ai;obtain ⟨bA, hbA⟩ : ∃ bA, w.heap.size = bA := ⟨_, rfl⟩;rw [hbA] at A1 HGA ⊢;clear hbx hbA;generalize w.alloc (.cells a.C.toArray 39) = w1 at *;refine ac6 (bq rfl) ?_;have hbx := (Below.refl w1.heap.size w1).alloc ai (.cells (cel aB).toArray 29);have HB2 := ae (HB1.out.trans (hbx.mono HB1.out.size));have R2 := ae (heap_alloc_new w1 (.cells (cel aB).toArray 29));have A2 : Hid (bN.At_ _ bA a) := ae (aC A1 hbx);have HGR : Hid (w.heap.size <= w1.heap.size) := ae (HB1.out.size);obtain ⟨bR, hbR⟩ : ∃ bR, w1.heap.size = bR := ⟨_, rfl⟩;rw [hbR] at R2 HGR ⊢;clear hbx hbR;generalize w1.alloc (.cells (cel aB).toArray 29) = w2 at *;refine ag ?_;go_upto_region 1 with fail;refine af ?_;refine ac6 (ax rfl adh vi) ?_;refine ac6 (bk (c := a.B) rfl adh A2.out.f5) ?_;refine ac6 (bq rfl) ?_;refine az rfl (gM (c := a.B) rfl (ev rfl) (ev rfl)) ?_;simp only [aa];have hbx := (Below.refl w2.heap.size w2).alloc ai (.cells (cel a.B).toArray 29);have HB3 := ae (HB2.out.trans (hbx.mono HB2.out.size));have X3 := ae (heap_alloc_new w2 (.cells (cel a.B).toArray 29));have A3 : Hid (bN.At_ _ bA a) := ae (aC A2 hbx);have R3 := ae (aC R2 hbx);have HGX : Hid (w.heap.size <= w2.heap.size) := ae (HB2.out.size);obtain ⟨bX, hbX⟩ : ∃ bX, w2.heap.size = bX := ⟨_, rfl⟩;have HX2S := ae hbX;rw [hbX] at X3 HGX ⊢;clear hbx hbX;generalize w2.alloc (.cells (cel a.B).toArray 29) = w3 at *;refine ag ?_;have HNE : Hid (bR ≠ bX /\ bA ≠ bX) := ae (by
  refine ⟨fun e => ?_, fun e => ?_⟩
  ·have h1 := aW R2;have h2 := HX2S.out;omega
  ·have h1 := aW A2;have h2 := HX2S.out;omega)
 cases an;rotate_left 1
 ·go_upto_region 2 with fail;refine af ?_;refine ac6 (ax rfl adh qy) ?_;refine ac6 (aE rfl adh (sV (A3.out.f4.trans (by rw [HAN.out])))) ?_;refine aP 1 ?_;obtain ⟨u, hld, hcell⟩ := z2 X3 HJ;have HLD := ae hld;have HCL := ae hcell;have HFZ : Hid ((World.drew w3).frozen? ⟨bX, j, none⟩ = false) := ae (frozen_of_row (World.drew w3) bX j _ _ X3);have HLD' : Hid ((Instr.loadAt 5 (.pointer (some ⟨bX, j, none⟩))).run prog (World.drew w3) = .ok (.int .u8 (u.toNat : Int)) (World.drew w3)) := ae (by
   have := hcell;have h2 : (World.drew w3).cell? ⟨bX, j, none⟩ = some (.int .u8 (u.toNat : Int)) := hcell;simp [go_sem, h2])
  clear hld hcell;go_upto_region 4 with fail;refine wp_region_still_tail 9 (by kernel_rfl) (by kernel_rfl) ?_;simp only [ac];refine aJ rfl (ax rfl adh qt) ?_;simp only [aa];refine aJ rfl (aE rfl adh (sH (A3.out.f6))) ?_;simp only [aa];refine aJ rfl (j7 rfl adh evk (by decide) HR) ?_;simp only [aa];refine aJ rfl (cN rfl adh adh (zi HJ)) ?_;simp only [aa];refine aJ rfl (aE rfl adh HLD') ?_;simp only [aa];refine aJ rfl (ax rfl adh pZ) ?_;simp only [aa];refine aJ rfl (aE rfl adh (sH (A3.out.f7))) ?_;simp only [aa];refine aJ rfl (mV rfl adh adh) ?_;simp only [aa];refine aJ rfl (cN rfl adh adh (zi HJ)) ?_;simp only [aa];refine wpStill_nil ?_;change wpList _ _ _ _ _ (World.drew _);refine az rfl (nA rfl (ev rfl) (ev rfl) (show (World.drew w3).cell? _ = _ from HCL.out) HFZ.out) ?_;simp only [aa];have XF := ae (nI (w := World.drew w3) (u ^^^ a.By) X3 HJ);have BF := ae (iZ (j := j) (v := .int .u8 ((u ^^^ a.By).toNat : Int)) (bd HB3) HGX);have RF : Hid (((World.drew w3).setCell ⟨bX, j, none⟩ (.int .u8 ((u ^^^ a.By).toNat : Int))).heap[bR]? = _) := ae ((cy bX [.int .u8 ((u ^^^ a.By).toNat : Int)] j (World.drew w3) bR HNE.out.1).trans R3);generalize (World.drew w3).setCell ⟨bX, j, none⟩ (.int .u8 ((u ^^^ a.By).toNat : Int)) = wf at *;refine ag ?_;obtain ⟨c, hc⟩ : ∃ c, a.B.set j (u ^^^ a.By) = c := ⟨_, rfl⟩;rw [hc] at XF;clear hc;go_upto_region 5 with fail;refine af ?_;refine ac6 (bk (c := c) rfl adh (br XF)) ?_;refine az rfl (bc (c := c) rfl (ev rfl) (ev rfl) (dX RF.out)) ?_;simp only [aa];have RZ := ae (lW (c := c) RF);have BZ := ae (below_setCells BF HGR (o := 0) (cel c));generalize wf.setCells bR 0 (cel c) = wz at *;refine ag ?_;go_wp2_with fail;exact bodyPost_ret (tm rfl _ _ _ rfl (br RZ)) rfl ⟨c, rfl, BZ⟩
 go_upto_region 2 with fail;refine af ?_;refine ac6 (ax rfl adh qy) ?_;refine ac6 (aE rfl adh (sV (A3.out.f4.trans (by rw [HAN.out])))) ?_;refine aP 1 ?_;go_upto_region 3 with fail;refine af ?_;refine ac6 (ax rfl adh wm) ?_;refine ac6 (aE rfl adh (cw A3.out.f2)) ?_;refine ac6 (ax rfl adh vp) ?_;refine ac6 (ce (c := a.S) rfl adh A3.out.f3) ?_;refine ay rfl (aD call36 rfl (evc adh (evc adh evn))) ?_;refine (abi a.Event a.S w3 HE HS).mono ?_;rintro e w4 ⟨rfl, b4⟩;have HB4 := ae (HB3.out.trans (b4.mono HB3.out.size));have A4 : Hid (bN.At_ w4 bA a) := ae (aC A3 b4);have R4 := ae (aC R3 b4);have X4 := ae (aC X3 b4);clear b4;refine bI ?_;refine runs 3 ?_;refine az rfl (bc (c := dV a.Event a.S) rfl (ev rfl) (ev rfl) (dX X4.out)) ?_;simp only [aa];have X5 := ae (lW (c := dV a.Event a.S) X4);have HB5 := ae (below_setCells HB4 HGX (o := 0) (cel (dV a.Event a.S)));have A5 : Hid (bN.At_ (w4.setCells bX 0 (cel (dV a.Event a.S))) bA a) := ae ((cy bX _ 0 _ bA HNE.out.2).trans A4);have R5 := ae ((cy bX (cel (dV a.Event a.S)) 0 w4 bR HNE.out.1).trans R4);generalize w4.setCells bX 0 (cel (dV a.Event a.S)) = w5 at *;refine ag ?_;obtain ⟨u, hld, hcell⟩ := z2 X5 HJ;have HLD := ae hld;have HCL := ae hcell;have HFZ : Hid ((World.drew w5).frozen? ⟨bX, j, none⟩ = false) := ae (frozen_of_row (World.drew w5) bX j _ _ X5);have HLD' : Hid ((Instr.loadAt 5 (.pointer (some ⟨bX, j, none⟩))).run prog (World.drew w5) = .ok (.int .u8 (u.toNat : Int)) (World.drew w5)) := ae (by
  have := hcell;have h2 : (World.drew w5).cell? ⟨bX, j, none⟩ = some (.int .u8 (u.toNat : Int)) := hcell;simp [go_sem, h2])
 clear hld hcell;go_upto_region 4 with fail;refine wp_region_still_tail 9 (by kernel_rfl) (by kernel_rfl) ?_;simp only [ac];refine aJ rfl (ax rfl adh qt) ?_;simp only [aa];refine aJ rfl (aE rfl adh (sH (A5.out.f6))) ?_;simp only [aa];refine aJ rfl (j7 rfl adh evk (by decide) HR) ?_;simp only [aa];refine aJ rfl (cN rfl adh adh (zi HJ)) ?_;simp only [aa];refine aJ rfl (aE rfl adh HLD') ?_;simp only [aa];refine aJ rfl (ax rfl adh pZ) ?_;simp only [aa];refine aJ rfl (aE rfl adh (sH (A5.out.f7))) ?_;simp only [aa];refine aJ rfl (mV rfl adh adh) ?_;simp only [aa];refine aJ rfl (cN rfl adh adh (zi HJ)) ?_;simp only [aa];refine wpStill_nil ?_;change wpList _ _ _ _ _ (World.drew _);refine az rfl (nA rfl (ev rfl) (ev rfl) (show (World.drew w5).cell? _ = _ from HCL.out) HFZ.out) ?_;simp only [aa];have XF := ae (nI (w := World.drew w5) (u ^^^ a.By) X5 HJ);have BF := ae (iZ (j := j) (v := .int .u8 ((u ^^^ a.By).toNat : Int)) (bd HB5) HGX);have RF : Hid (((World.drew w5).setCell ⟨bX, j, none⟩ (.int .u8 ((u ^^^ a.By).toNat : Int))).heap[bR]? = _) := ae ((cy bX [.int .u8 ((u ^^^ a.By).toNat : Int)] j (World.drew w5) bR HNE.out.1).trans R5);generalize (World.drew w5).setCell ⟨bX, j, none⟩ (.int .u8 ((u ^^^ a.By).toNat : Int)) = wf at *;refine ag ?_;obtain ⟨c, hc⟩ : ∃ c, (dV a.Event a.S).set j (u ^^^ a.By) = c := ⟨_, rfl⟩;rw [hc] at XF;clear hc;go_upto_region 5 with fail;refine af ?_;refine ac6 (bk (c := c) rfl adh (br XF)) ?_;refine az rfl (bc (c := c) rfl (ev rfl) (ev rfl) (dX RF.out)) ?_;simp only [aa];have RZ := ae (lW (c := c) RF);have BZ := ae (below_setCells BF HGR (o := 0) (cel c));generalize wf.setCells bR 0 (cel c) = wz at *;refine ag ?_;go_wp2_with fail;exact bodyPost_ret (tm rfl _ _ _ rfl (br RZ)) rfl ⟨c, rfl, BZ⟩
section
variable {C : pd} {w0 w w' : World} {B q p : Nat} {K K' : Nat -> Prop} {h h' : HuS}
theorem HAt.gat (I : qV C.R) (a : HAt C w0 B K w q p h) {x : Fnd} {e : Int} (hx : glF h.M = x) (he : glE h.M = e) : Calls prog 20 #[.pointer (some ⟨q, 0, none⟩)] w fun r w' => r = .returned (.tuple #[fnd x, .int .i64 e]) /\ Below w.heap.size w w' := by
 subst hx he;obtain ⟨G, h1, h2, h3, h4, h5⟩ := a;obtain ⟨Gb, b1, _⟩ := C.ben h1;exact I.look b1 (h4.tab h3)
end
section
variable {P : mQ} {w0 w w' : World} {B p : Nat} {M : aM}
theorem PAt.tab (a : PAt P w0 B w p M) : Tab w := by
 obtain ⟨F, h1, h2, h3, h4⟩ := a;exact h4.tab h3
theorem PAt.gat (I : qV P) (a : PAt P w0 B w p M) {x : Fnd} {e : Int} (hx : glF M = x) (he : glE M = e) : Calls prog 20 #[.pointer (some ⟨p, 0, none⟩)] w fun r w' => r = .returned (.tuple #[fnd x, .int .i64 e]) /\ Below w.heap.size w w' := by
 subst hx he;have T := a.tab;obtain ⟨F, h1, _⟩ := a;exact I.look h1 T
theorem PAt.sup (I : qV P) (d : Int) (a : PAt P w0 B w p M) {x : Sup} {n : Nat} {e : Int} (hn : gaN M d = n) (hx : gaS M d = x) (he : gaE M d = e) : Calls prog 18 #[.pointer (some ⟨p, 0, none⟩), .int .i64 d] w fun r w' => r = .returned (.tuple #[.int .u64 (n : Int), sup x, .int .i64 e]) /\ Below w.heap.size w w' := by
 subst hn hx he;have T := a.tab;obtain ⟨F, h1, _⟩ := a;exact I.super d h1 T
end
section
variable {P : mQ} {Q : abU} {w0 w w' : World} {B q p : Nat} {K K' : Nat -> Prop} {M N : aM}
theorem TwB.pat (a : TwB P.toBen Q.toBen w0 B K w p q M N) : PAt P w0 B w p M := by
 obtain ⟨F, G, h1, h2, h3, h4, h5, h6, h7⟩ := a;exact ⟨F, h1, fun b e => h4 b (.inl e), h5, h6⟩
theorem TwB.gat (I : qV P) (a : TwB P.toBen Q.toBen w0 B K w p q M N) {x : Fnd} {e : Int} (hx : glF M = x) (he : glE M = e) : Calls prog 20 #[.pointer (some ⟨p, 0, none⟩)] w fun r w' => r = .returned (.tuple #[fnd x, .int .i64 e]) /\ Below w.heap.size w w' := a.pat.gat I hx he
end
theorem zr (N : Nat) (d : Int) : gaN (bW (szK N 4)) d = 0 /\ gaS (bW (szK N 4)) d = bp := mJ (by rw [(vR N d).1]; decide)
theorem lh (C : pd) (I : qV C.R) (w : World) (T : Tab w) : Calls prog 23 #[] w fun e w' => e = .returned (.bool true) /\ Below w.heap.size w w' := by
 obtain ⟨z0, hz0⟩ : ∃ z0 : HuS, (⟨bW (szK 3 4), 9, 0, neR 3 4⟩ : HuS) = z0 := ⟨_, rfl⟩;obtain ⟨M', hs1, hs2, l1, l2, l3, R2, l4, l5⟩ := zG;rw [hz0] at hs1 hs2;obtain ⟨M0, hm0⟩ : ∃ M0, bW (szK 3 4) = M0 := ⟨_, rfl⟩;have hr : HR 60 z0 := by rw [<- hz0]; exact HR.new (by omega) (by omega) (by omega) (by omega) (by omega) 9
 have hg := vR 3 3;have hgz := zr 3 3;have hzM : z0 = ⟨M0, 9, 0, neR 3 4⟩ := by rw [<- hz0, hm0]
 rw [hm0] at hg hgz;have HT := ae T;have HM0 := ae hm0;have HZM := ae hzM;have HRM : Hid (Room z0.M 600 /\ z0.ev <= 4611686018427387000) := ae (HR.hrm (k := 59) hr);have HS1 := ae hs1;have HS2 := ae hs2;have HL := ae (And.intro l1 (And.intro l2 (And.intro l3 (And.intro l4 l5))));have HG := ae hg;have HGZ := ae hgz;have HNW := ae (aaw (N := 3) (s := 4) (by omega) (by omega) (by omega));have HH : Hid (kx M0 9 0 (neR 3 4) = true) := ae (by rw [<- hm0]; exact yB (N := 3) (s := 4) (by omega) (by omega) (by omega) (ev := 0) (by omega));have HST : Hid (((stN (neR 3 4) : Nat) : Int) = 1) := ae (by decide +kernel);clear T hz0 hs1 hs2 l1 l2 l3 l4 l5 hr hg hgz hm0 hzM;go_enter func23, ntmps23;go_upto_region 0 with fail;refine cI 1 ?_;go_upto_region 1 with fail;refine af ?_;refine ay rfl (aD call7 rfl (evc evk evn)) ?_;refine (vW C.R 3 w HT (by omega) (by omega)).mono ?_;rintro e w1 ⟨p, q, rfl, a1⟩;rw [HM0.out] at a1;have HA1 := ae a1;clear a1;refine bI ?_;refine runs 3 ?_;refine runs 3 ?_;refine aP 1 ?_;go_upto_region 2 with fail;refine af ?_;refine ac6 (oL rfl evk evk evk) ?_;refine ay rfl (aD call26 rfl (evc adh evn)) ?_;rw [show Value.agg #[Value.int .i64 3, Value.int .i64 4, Value.int .i64 40] = geo (neR 3 4) from rfl];refine (abd (x := neR 3 4) (w := w1) HNW.out.1 HNW.out.2).mono ?_;rintro e w2 ⟨rfl, b_⟩;have HA2 := ae (HA1.out.below b_);clear b_;refine bI ?_;refine runs 3 ?_;refine ac6 (cz rfl) ?_;refine az rfl (mz rfl (ev rfl) (ev rfl)) ?_;simp only [aa];have hx := (Below.refl w2.heap.size w2).alloc ai (.cells (aU (neR 3 4)).toArray 35);have HX3 := ae (bF.new w2 (neR 3 4));have HA3 := ae (HA2.out.below hx);clear hx;obtain ⟨b4, hb4⟩ : ∃ b4, w2.heap.size = b4 := ⟨_, rfl⟩;rw [hb4] at HX3 ⊢;clear hb4;generalize w2.alloc (.cells (aU (neR 3 4)).toArray 35) = w3 at *;refine aP 1 ?_;go_upto_region 3 with fail;refine bn 3 ?_;refine runs 1 ?_;refine ade (aO false rfl adh evk rfl) ?_;refine aP 1 ?_;go_upto_region 5 with fail;refine bn 1 ?_;refine ay rfl (aD call20 rfl (evc adh evn)) ?_;refine (HA3.out.gat I HG.out.2.2 HG.out.2.1).mono ?_;rintro e w4 ⟨rfl, b_⟩;have HA4 := ae (HA3.out.below b_);have HX4 := ae (HX3.out.below (aW HX3) b_);clear b_;refine bI ?_;refine runs 3 ?_;refine ac6 (dC rfl) ?_;refine az rfl (eF (c := bZ) rfl (ev rfl) (ev rfl)) ?_;simp only [aa];have hx := (Below.refl w4.heap.size w4).alloc ai (.cells (bP bZ).toArray 50);have HA5 := ae (HA4.out.below hx);have HX5 := ae (HX4.out.below (aW HX4) hx);clear hx;generalize w4.alloc (.cells (bP bZ).toArray 50) = w5 at *;refine aP 1 ?_;go_upto_region 6 with fail;refine bn 1 ?_;refine ay rfl (aD call18 rfl (evc adh (evc evk evn))) ?_;refine (HA5.out.sup I 3 HGZ.out.1 HGZ.out.2 HG.out.1).mono ?_;rintro e w6 ⟨rfl, b_⟩;have HA6 := ae (HA5.out.below b_);have HX6 := ae (HX5.out.below (aW HX5) b_);clear b_;refine bI ?_;refine runs 3 ?_;refine runs 1 ?_;refine ac6 (bH rfl) ?_;refine runs 1 ?_;refine az rfl (cG (c := bp) rfl (ev rfl) (ev rfl)) ?_;simp only [aa];have hx := (Below.refl w6.heap.size w6).alloc ai (.cells (aV bp).toArray 37);have HA7 := ae (HA6.out.below hx);have HX7 := ae (HX6.out.below (aW HX6) hx);clear hx;generalize w6.alloc (.cells (aV bp).toArray 37) = w7 at *;refine aP 1 ?_;go_upto_region 7 with fail;refine bn 1 ?_;refine ac6 (bh rfl adh HX7.out.range) ?_;refine ay rfl (aD call27 rfl (evc adh (evc evk (evc evk (evc adh evn))))) ?_;obtain ⟨F7, f1, f4, f5, f6⟩ := HA7.out;refine (C.new_ 9 0 (neR 3 4) (by omega) (by omega) f1).mono ?_;rintro e w8 ⟨b8, h8⟩;obtain ⟨_, t, G, rfl, j8, g8⟩ | ⟨h8, _⟩ := h8;rotate_left 1
 ·exact absurd (HH.out.symm.trans h8) (by decide)
 have HU8 : Hid (HAt C w w.heap.size (fun _ => False) w8 p t z0) := ae ⟨G, by rw [HZM.out]; exact j8, fun b hb => by
  rcases g8 b hb with e | e
  ·exact f4 b e
  ·exact ap f5.size e, f5.trans (b8.mono f5.size), f6, fun b e => e.elim⟩
 clear f1 f4 f5 f6 b8 j8 g8 HA1 HA2 HA3 HA4 HA5 HA6 HA7 HX3 HX4 HX5 HX6 HX7;refine bI ?_;refine runs 3 ?_;refine aP 2 ?_;go_upto_region 8 with fail;refine bn 1 ?_;refine ac6 (aO false rfl adh evk rfl) ?_;refine runs 2 ?_;refine ade (aO false rfl adh evk rfl) ?_;refine runs 3 ?_;refine ade (aO false rfl adh evk rfl) ?_;refine runs 3 ?_;refine ay ac1 (aD call28 rfl (evc adh evn)) ?_;refine (HU8.out.save HRM.out.1 HRM.out.2 HS1).mono ?_;rintro e w9 ⟨rfl, a_, _⟩;rw [HS1.out];rw [HS2.out] at a_;have HU9 := ae a_;clear a_ HU8;refine bI ?_;refine ade (aO false rfl adh evk rfl) ?_;refine aP 1 ?_;go_upto_region 10 with fail;refine bn 1 ?_;refine ay rfl (aD call20 rfl (evc adh evn)) ?_;refine (HU9.out.gat I HL.out.2.1 HL.out.1).mono ?_;rintro e w10 ⟨rfl, b_⟩;have HU10 := ae (HU9.out.below b_);clear b_ HU9;refine bI ?_;refine runs 3 ?_;refine ac6 (dC rfl) ?_;refine az rfl (eF (c := ⟨1, 9, neR 3 4⟩) rfl (ev rfl) (ev rfl)) ?_;simp only [aa];have hx := (Below.refl w10.heap.size w10).alloc ai (.cells (bP ⟨1, 9, neR 3 4⟩).toArray 50);have HP11 : Hid (de _ _ ⟨1, 9, neR 3 4⟩) := ae (heap_alloc_new w10 (.cells (bP ⟨1, 9, neR 3 4⟩).toArray 50));have hsz : (w10.alloc (.cells (bP ⟨1, 9, neR 3 4⟩).toArray 50)).heap.size = w10.heap.size + 1 := ak;have HU11 := ae (HU10.out.guard (K' := fun b => b = w10.heap.size) hx fun b e => .inr ⟨by omega, by omega⟩);obtain ⟨b13, hb13⟩ : ∃ b, w10.heap.size = b := ⟨_, rfl⟩;rw [hb13] at HP11 HU11 ⊢;clear hx hsz hb13 HU10;generalize w10.alloc (.cells (bP ⟨1, 9, neR 3 4⟩).toArray 50) = w11 at *;refine aP 1 ?_;go_upto_region 11 with fail;refine bn 1 ?_;refine ay rfl (aD call11 rfl (evc adh (evc evk evn))) ?_;refine (HU11.out.ben fun hb => C.R.fail 0 hb).mono ?_;rintro e w12 ⟨rfl, a_, k_⟩;have HU12 : Hid (HAt C w w.heap.size (fun b => b = b13) w12 p t ⟨gq M' 0, 9, 1, neR 3 4⟩) := ae a_;have HP12 : Hid (de w12 b13 ⟨1, 9, neR 3 4⟩) := ae (k_.at_ rfl HP11);clear a_ k_ HU11 HP11;refine bI ?_;refine ag ?_;go_upto_region 12 with fail;refine bn 1 ?_;refine ay rfl (aD call20 rfl (evc adh evn)) ?_;refine (HU12.out.gat I HL.out.2.2.2.1 HL.out.2.2.1).mono ?_;rintro e w13 ⟨rfl, b_⟩;have HU13 := ae (HU12.out.below b_);have HP13 : Hid (de w13 b13 ⟨1, 9, neR 3 4⟩) := ae (aC HP12 b_);clear b_ HU12 HP12;refine bI ?_;refine runs 3 ?_;refine ac6 (dC rfl) ?_;refine az rfl (eF (c := ⟨1, 9, R2⟩) rfl (ev rfl) (ev rfl)) ?_;simp only [aa];have hx := (Below.refl w13.heap.size w13).alloc ai (.cells (bP ⟨1, 9, R2⟩).toArray 50);have HQ14 : Hid (de _ _ ⟨1, 9, R2⟩) := ae (heap_alloc_new w13 (.cells (bP ⟨1, 9, R2⟩).toArray 50));have HU14 := ae (HU13.out.below hx);have HP14 : Hid (de _ b13 ⟨1, 9, neR 3 4⟩) := ae (aC HP13 hx);clear hx HU13 HP13;generalize w13.alloc (.cells (bP ⟨1, 9, R2⟩).toArray 50) = w14 at *;refine aP 1 ?_;go_upto_region 13 with fail;refine bn 1 ?_;refine ac6 (aG true rfl adh evk rfl) ?_;refine runs 1 ?_;refine ade (ax rfl adh ml) ?_;refine ade (aE rfl adh (cw HP14.out.cells.1)) ?_;refine ade (aG true rfl adh evk rfl) ?_;refine runs 2 ?_;refine ade (ax rfl adh jM) ?_;refine ade (aE rfl adh (cw HP14.out.cells.2)) ?_;refine ade (aG true rfl adh evk rfl) ?_;refine runs 2 ?_;refine ade (ax rfl adh gU) ?_;refine ade (bh rfl adh HP14.out.i4) ?_;refine ay ac1 (aD call64 rfl (evc adh evn)) ?_;refine (vQ (neR 3 4) w14).mono ?_;rintro e w15 ⟨rfl, b_⟩;have HU15 := ae (HU14.out.below b_);have HQ15 : Hid (de w15 _ ⟨1, 9, R2⟩) := ae (aC HQ14 b_);clear b_ HU14 HQ14;refine bI ?_;refine ade (aG true rfl adh evk (by rw [HST.out]; rfl)) ?_;refine runs 3 ?_;refine ade (aG true rfl adh evk rfl) ?_;refine runs 2 ?_;refine ade (ax rfl adh gU) ?_;refine ade (bh rfl adh HQ15.out.i4) ?_;refine ay ac1 (aD call64 rfl (evc adh evn)) ?_;refine (vQ R2 w15).mono ?_;rintro e w16 ⟨rfl, b_⟩;have HU16 := ae (HU15.out.below b_);clear b_ HU15;refine bI ?_;refine ade (aG true rfl adh evk (by rw [HL.out.2.2.2.2]; rfl)) ?_;refine aP 2 ?_;go_wp2_with fail;go_ret;exact ⟨rfl, HU16.out.bel⟩
theorem zH {w : World} {b off : Nat} : (Instr.fieldAt 39 (.pointer (some ⟨b, off, none⟩)) 0).run prog w = .ok (.pointer (some ⟨b, off, none⟩)) w := by kernel_rfl
theorem xX {w : World} {b off : Nat} : (Instr.fieldAt 39 (.pointer (some ⟨b, off, none⟩)) 1).run prog w = .ok (.pointer (some ⟨b, off + 1, none⟩)) w := by kernel_rfl
theorem tt {ρ : Operand -> Value} {o : Oper} {x : Operand} {w : World} {t e : TypeId} {A : Option Addr} {n c : Nat} (hu : prog.underlying t = some (.slice e)) (ho : o.op = .call { callee := .builtin .len, args := #[x], argTypes := #[t] }) (hx : ρ x = .slice A n c) : (execOp ρ o).run prog w = .ok (.value (.int .i64 (n : Int))) w := by
 simp [execOp, ho, resolve, invoke, builtin, hx, Builtin.len_, run_underlying hu, Result.andThen]
 rfl
theorem xj {M : aM} (hl : M.left = 0) (hd : M.bz = false) (d n : Int) (b : Blk) : iW M (dr M d n b) := by
 by_cases h : cf M d n = 0
 ·have : 0 <= d /\ d < M.ds.length := by
   rcases c8 M d with ⟨e, _⟩ | ⟨e, _⟩ | ⟨_, _, k, e1, e2⟩
   ·unfold cf at h; rw [if_neg (by omega)] at h; omega
   ·unfold cf at h; rw [if_neg (by omega)] at h; omega
   ·omega
  have := ye (m := d.toNat) hl hd (by omega) n b;rwa [show ((d.toNat : Nat) : Int) = d by omega] at this
 ·unfold dr;rw [if_neg h];exact iW.refl M
theorem iW.seN {M M' : aM} (h : iW M M') (d : Int) : cW M' d = cW M d := by
 unfold cW kt aM.dev;rw [h.len, h.sl]
theorem sO {N : Nat} (j : Nat) : (j < N -> cW (bW (szK N 4)) (j : Int) = 6) /\ cW (bW (szK N 4)) (N : Int) = 50 := by
 constructor
 ·intro hj;rw [om (by rw [dS]; omega), gB hj];simp
 ·rw [om (by rw [dS]; omega), fk];have : (szK N 4).getD N 0 = 50 := by
   unfold szK;simp [List.getD]
  simp only [List.getD, List.getElem?_map];rw [List.getD, List.getElem?_eq_getElem (by rw [fO]; omega)] at this;rw [List.getElem?_eq_getElem (by rw [fO]; omega)];simp only [Option.getD_some] at this;simp only [Option.map_some, Option.getD_some, this]
  rfl
theorem xp {M : aM} {k : Nat} (h : Room M (k + 1)) : Room M 1 := ⟨by have := h.1; omega, h.2.1, fun d hd => by have := h.2.2 d hd; omega⟩
theorem oV {x : Ros} (h : a8 x = true) (w : World) : Calls prog 24 #[ros x] w fun e w' => e = .returned (.bool true) /\ Below w.heap.size w w' := by
 have := abQ x w;rw [h] at this;exact this
theorem aac (C : pd) (I : qV C.R) (a : Nat) (A : Option Addr) (nn cc : Nat) (l : List bN) (w : World) (T : Tab w) (ha : a < 256) (hl : RdE ik w w.heap.size A nn l) (hn : nn <= maxLen) (hin : ∀ k, k < nn -> (l.getD k bN.zero).In w) : Calls prog 4 #[.int .u8 (a : Int), .slice A nn cc] w fun e w' => e = .returned (.bool true) /\ Below w.heap.size w w' := by
 unfold maxLen at hn;obtain ⟨NN, hNN⟩ : ∃ NN, 3 + a % 4 = NN := ⟨_, rfl⟩;have h1 : 3 <= NN := by omega
 have h2 : NN <= 6 := by omega
 obtain ⟨M0, hm0⟩ : ∃ M0, bW (szK NN 4) = M0 := ⟨_, rfl⟩;have HT := ae T;have HL := ae hl;have HLN := ae hn;have HIN := ae hin;have HN1 := ae h1;have HN2 := ae h2;have HM0 := ae hm0;have HS0 : Hid (M0.ds.length = NN + 1 /\ M0.left = 0 /\ M0.bz = false /\ Room M0 41 /\ (∀ j : Nat, j < NN -> cW M0 (j : Int) = 6) /\ cW M0 (NN : Int) = 50) := ae (by
  rw [<- hm0];exact ⟨dS, rfl, rfl, pG (by omega), fun j hj => (sO j).1 hj, (sO 0).2⟩)
 have HRA : Hid ((a : Int).tmod 4 = ((a % 4 : Nat) : Int)) := ae rfl;have HCA : Hid (IntKind.i64.wrap ((a % 4 : Nat) : Int) = ((a % 4 : Nat) : Int)) := ae (eJ (by omega));have HAA : Hid (IntKind.i64.wrap (3 + ((a % 4 : Nat) : Int)) = (NN : Int)) := ae (by rw [eJ (by omega)]; omega);clear T ha hl hn hin hNN h1 h2 hm0;go_enter func4, ntmps4;go_upto_region 0 with fail;refine cI 1 ?_;go_upto_region 1 with fail;refine bn 1 ?_;refine ac6 (j7 rfl adh evk (by decide) HRA) ?_;refine ac6 (wF rfl adh HCA) ?_;refine ac6 (cQ rfl evk adh HAA) ?_;refine ay rfl (aD call7 rfl (evc adh evn)) ?_;refine (zT C.R NN w HT HN1 (by have := HN2.out; omega)).mono ?_;rintro e w1 ⟨p, q, rfl, a1⟩;rw [HM0.out] at a1;have HA1 := ae a1;clear a1;refine bI ?_;refine runs 3 ?_;refine runs 3 ?_;refine aP 1 ?_;go_upto_region 2 with fail;refine cI 2 ?_;go_upto_region 4 with fail;refine cI 1 ?_;go_wp2_with fail
 go_loopw [8] (fun z wr => ∃ (i : Nat) (M : aM), z = .int .i64 i /\ i <= nn /\ i <= 40 /\ TwB C.R.toBen n8.toBen w w.heap.size (fun _ => False) wr p q M M0 /\ iW M0 M /\ Room M (41 - i)) (fun z _ => 40 - (intOf z).toNat)
 case atStart => exact ⟨0, M0, by go_num, Nat.zero_le _, Nat.zero_le _, HA1, iW.refl _, HS0.out.2.2.2.1⟩
 case round =>
  clear HA1;obtain ⟨i, M, rfl, hi1, hi2, ha, hk, hr⟩ := hrel;have HI1 := ae hi1;have HI2 := ae hi2;have HAr := ae ha;have HK := ae hk;have HR := ae hr;clear hi1 hi2 ha hk hr;go_upto_region 5 with fail;refine bn 2 ?_;refine ac6 (tt underlying22 rfl adh) ?_;by_cases hlt : i < nn /\ i < 40
  ·have HI := ae hlt;have HLT1 : Hid (decide ((i : Int) < (nn : Int)) = true) := ae (am (by omega));have HLT2 : Hid (decide ((i : Int) < 40) = true) := ae (am (by omega));have HIA : Hid (IntKind.i64.wrap ((i : Int) + 1) = ((i + 1 : Nat) : Int)) := ae (by rw [eJ ⟨by omega, by omega⟩]; omega);obtain ⟨bA, oA, hA, hbA, hcA⟩ := HL.out.2 i hlt.1;obtain ⟨x, hx⟩ : ∃ x, l.getD i bN.zero = x := ⟨_, rfl⟩;have hxi := HIN.out i hlt.1;rw [show ik.d = bN.zero from rfl, hx] at hcA;rw [hx] at hxi;have HXI := ae hxi;have HA := ae hA;have HC0 : Hid (∀ {w' : World}, Below w.heap.size w w' -> w'.rangeAt bA (oA + i * ik.n) x.C) := ae fun hw => eK hcA hbA hw
   have HR2 : Hid (Room M (40 - i + 1)) := ae (by have := HR.out; rw [show 41 - i = 40 - i + 1 by omega] at this; exact this);clear hlt hA hbA hcA hx hxi;refine ac6 (bw true rfl adh adh HLT1) ?_;refine runs 2 ?_;refine ade (bw true rfl adh evk HLT2) ?_;refine aP 1 ?_;have HAd := ae (HAr.out.below (Below.refl wr.heap.size wr).drew);go_upto_region 7 with fail;refine wp_region_held (S := fun w' => Below w.heap.size w w') (by kernel_rfl) ?_;change wpAnyH _ _ _ _ _ 17 _ _ wr.drew;refine adu 0 rfl HAd.out.bel ?_;refine adu 1 rfl HAd.out.bel ?_;refine adu 2 rfl HAd.out.bel ?_;refine ac9 3 rfl (fun _ hw => cC (E := ik) (b := bA) (off := oA) rfl ((ev (Eq.refl _)).trans (by rw [HA.out])) adh HI.out.1) HAd.out.bel ?_;refine ac9 4 rfl (fun _ hw => ax rfl adh zH) HAd.out.bel ?_;refine ac9 5 rfl (fun _ hw => aE rfl adh (cv (k := x.D) ((HC0.out hw) 0 _ rfl))) HAd.out.bel ?_;refine adu 6 rfl HAd.out.bel ?_;refine adu 7 rfl HAd.out.bel ?_;refine ac9 8 rfl (fun _ hw => cC (E := ik) (b := bA) (off := oA) rfl ((ev (Eq.refl _)).trans (by rw [HA.out])) adh HI.out.1) HAd.out.bel ?_;refine ac9 9 rfl (fun _ hw => ax rfl adh xX) HAd.out.bel ?_;refine ac9 10 rfl (fun _ hw => aE rfl adh (cv (k := x.N) ((HC0.out hw) 1 _ rfl))) HAd.out.bel ?_;refine adu 11 rfl HAd.out.bel ?_;refine adu 12 rfl HAd.out.bel ?_;refine ac9 13 rfl (fun _ hw => cC (E := ik) (b := bA) (off := oA) rfl ((ev (Eq.refl _)).trans (by rw [HA.out])) adh HI.out.1) HAd.out.bel ?_;refine ac9 14 rfl (fun _ hw => mF (a := x) rfl adh (HC0.out hw)) HAd.out.bel ?_;refine eV 15 rfl (by kernel_rfl) rfl (aD call8 rfl (evc adh evn)) ?_;refine (tM x w HXI (World.drew wr)).mono ?_;rintro e w3 ⟨c, rfl, b_⟩;have HA3 := ae (HAd.out.below b_);clear b_;refine ⟨_, rfl, HA3.out.bel, ?_⟩;simp only [aa];refine eV 16 rfl (by kernel_rfl) rfl (aD call9 rfl (evc adh (evc adh (evc adh (evc adh evn))))) ?_;refine (HA3.out.left fun F hF => C.R.write x.D x.N c (xp HR2.out) hF).mono ?_;rintro e w4 ⟨rfl, a_, _⟩;have HA4 := ae a_;clear a_;refine ⟨_, rfl, HA4.out.bel, ?_⟩;simp only [aa];refine wpAnyH_done (by kernel_rfl) ?_ _;have HKN : Hid (iW M0 (dr M x.D x.N c) /\ Room (dr M x.D x.N c) (41 - (i + 1))) := ae ⟨HK.out.trans (xj (HK.out.left HS0.out.2.1) (HK.out.bz.trans HS0.out.2.2.1) _ _ _), by rw [show 41 - (i + 1) = 40 - i by omega]; exact ot HR2 _ _ _⟩;go_upto_region 6 with fail;refine bn 1 ?_;refine ac6 (cQ rfl adh evk HIA) ?_;refine aP 1 ?_;go_wp2_with fail;go_roundw
   case rel => exact ⟨i + 1, _, by go_num, HI.out.1, HI.out.2, HA4, HKN.out.1, HKN.out.2⟩
   case measure => have := HI.out; simp [intOf]; omega
  have HF : Hid (M.ds.length = NN + 1 /\ M.bz = false /\ (∀ j : Nat, j < NN -> cW M (j : Int) = 6) /\ cW M (NN : Int) = 50) := ae ⟨HK.out.len.trans HS0.out.1, HK.out.bz.trans HS0.out.2.2.1, fun j hj => (HK.out.seN _).trans (HS0.out.2.2.2.2.1 j hj), (HK.out.seN _).trans HS0.out.2.2.2.2.2⟩;obtain ⟨le, hle⟩ : ∃ le, glE M = le := ⟨_, rfl⟩;obtain ⟨lf, hlf⟩ : ∃ lf, glF M = lf := ⟨_, rfl⟩;have HLE := ae hle;have HLF := ae hlf;have hcase : (¬ i < nn) \/ (i < nn /\ ¬ i < 40) := by omega
  clear hlt hle hlf;have hb : ∃ b, decide ((i : Int) < (nn : Int)) = b := ⟨_, rfl⟩;clear hb;rcases hcase with hq | hq
  ·have HLT1 : Hid (decide ((i : Int) < (nn : Int)) = false) := ae (al (by omega));clear hq;refine ac6 (bw false rfl adh adh HLT1) ?_;refine aI 2 rfl (aL rfl adh) (by kernel_rfl) ?_;simp only [bj, ac, aa];refine aP 1 ?_;go_upto_region 8 with fail;refine bn 1 ?_;refine ay rfl (aD call20 rfl (evc adh evn)) ?_;refine (HAr.out.gat I HLF HLE).mono ?_;rintro e w5 ⟨rfl, b_⟩;have HA5 := ae (HAr.out.below b_);clear b_;refine bI ?_;refine runs 3 ?_;refine ac6 (dC rfl) ?_;refine az rfl (eF (c := lf) rfl (ev rfl) (ev rfl)) ?_;simp only [aa];have hx := (Below.refl w5.heap.size w5).alloc ai (.cells (bP lf).toArray 50);have HP6 : Hid (de _ _ lf) := ae (heap_alloc_new w5 (.cells (bP lf).toArray 50));have HA6 := ae (HA5.out.below hx);obtain ⟨b9, hb9⟩ : ∃ b, w5.heap.size = b := ⟨_, rfl⟩;rw [hb9] at HP6 ⊢;clear hx hb9 HA5;generalize w5.alloc (.cells (bP lf).toArray 50) = w6 at *;refine aP 1 ?_;rcases re M with ⟨he, hd, _⟩ | ⟨he, _, _, hf⟩ | ⟨he, _, _⟩
   ·rw [HF.out.2.1] at hd; cases hd
   ·have hE7 : le = 7 := HLE.out.symm.trans he;have hFz : lf = bZ := HLF.out.symm.trans hf;subst hE7 hFz;clear he hf;go_upto_region 9 with fail;refine bn 1 ?_;refine ac6 (aO true rfl adh evk rfl) ?_;refine ag ?_;go_upto_region 10 with fail;refine bn 1 ?_;refine ac6 (aG true rfl adh evk rfl) ?_;refine runs 1 ?_;refine ade (fe (c := bZ) rfl adh (br HP6)) ?_;refine ade (gK rfl) ?_;refine ay ac1 (aD call22 rfl (evc adh (evc adh evn))) ?_;refine (mT bZ w6).mono ?_;rintro e w7 ⟨rfl, b_⟩;have HA7 := ae (HA6.out.below b_);clear b_;refine bI ?_;refine runs 2 ?_;refine ay ac1 (aD call23 rfl evn) ?_;refine (lh C I w7 HA7.out.tab).mono ?_;rintro e w8 ⟨rfl, b_⟩;have HZ := ae (HA7.out.bel.trans (b_.mono HA7.out.bel.size));clear b_;refine bI ?_;refine aP 2 ?_;go_wp2_with fail;go_ret;exact ⟨rfl, HZ⟩
   have hE0 : le = 0 := HLE.out.symm.trans he;obtain ⟨m1, m2, m3, m4, m5, m6⟩ := vg he;rw [HLF.out] at m1 m2 m3 m4 m5 m6;have hgg := ez (du m3).1;have hm : lf.R.m = (NN : Int) := by have := HF.out.1; omega
   have hr : lf.R.r <= 40 := by have := HF.out.2.2.2; rw [hm, this] at m5; omega
   have hs : lf.R.s <= 4 := by have := m6 0 (by omega); rw [HF.out.2.2.1 0 (by omega)] at this; omega
   subst hE0;have HV1 : Hid (decide ((1 : Int) <= ((lf.ev : Nat) : Int)) = true) := ae (am (by omega));have HV2 : Hid (decide (((lf.ev : Nat) : Int) <= 2305843009213693952) = true) := ae (am (by omega));have HV3 : Hid ((((lf.id : Nat) : Int) != 0) = true) := ae (by have := m2.1; simp; omega);have HV4 := ae m3;have HV5 : Hid (IntKind.i64.wrap ((M.ds.length : Int) - 1) = lf.R.m) := ae (by rw [eJ (by have := HF.out.1; have := HN2.out; omega)]; omega);have HV6 : Hid (decide (lf.R.s <= 4) = true) := ae (am hs);have HV7 : Hid (decide (lf.R.r <= 40) = true) := ae (am hr);clear he m1 m2 m3 m4 m5 m6 hgg hm hr hs;go_upto_region 9 with fail;refine bn 1 ?_;refine ac6 (aO false rfl adh evk rfl) ?_;refine ag ?_;go_upto_region 11 with fail;refine af ?_;refine ac6 (ax rfl adh gU) ?_;refine ac6 (ax rfl adh kE) ?_;refine ac6 (ct (c := lf.R) rfl adh HP6.out.mK) ?_;refine ac6 (cX (cs := [.int .i64 0, .int .i64 0, .int .i64 0]) xg rfl) ?_;refine az rfl (eW (cs := cU lf.R) (ds := [.int .i64 0, .int .i64 0, .int .i64 0]) (by kernel_rfl) rfl (nK _) rfl (ev rfl) (ev rfl)) ?_;simp only [aa];have hx := (Below.refl w6.heap.size w6).alloc ai (.cells (cU lf.R).toArray 32);have HP7 : Hid (de _ b9 lf) := ae (aC HP6 hx);have HG7 := ae (heap_alloc_new w6 (.cells (cU lf.R).toArray 32));have HA7 := ae (HA6.out.below hx);obtain ⟨b11, hb11⟩ : ∃ b, w6.heap.size = b := ⟨_, rfl⟩;rw [hb11] at HG7 ⊢;clear hx hb11 HA6 HP6;generalize w6.alloc (.cells (cU lf.R).toArray 32) = w7 at *;refine ag ?_;go_upto_region 12 with fail;refine bQ (B := w7.heap.size) (by kernel_rfl) ?_;refine adf (fun _ hw => ax rfl adh ml) ?_;refine adf (fun _ hw => aE rfl adh (cw (de.cells (aC HP7 hw)).1)) ?_;refine adf (fun _ hw => cn true rfl adh evk HV1) ?_;refine dl 1 ?_;refine adg (fun _ hw => ax rfl adh ml) ?_;refine adg (fun _ hw => aE rfl adh (cw (de.cells (aC HP7 hw)).1)) ?_;refine adg (fun _ hw => dF true rfl adh evk HV2) ?_;refine dl 2 ?_;refine adg (fun _ hw => ax rfl adh jM) ?_;refine adg (fun _ hw => aE rfl adh (cw (de.cells (aC HP7 hw)).2)) ?_;refine adg (fun _ hw => aO true rfl adh evk HV3) ?_;refine dl 2 ?_;refine adg (fun _ hw => ax rfl adh gU) ?_;refine adg (fun _ hw => bh rfl adh (de.i4 (aC HP7 hw))) ?_;refine cu ac1 (fun _ => aD call24 rfl (evc adh evn)) (ci ai fun w' hw => oV HV4 w') ?_;simp only [aa];refine dl 2 ?_;refine adg (fun _ hw => ax rfl adh pF) ?_;refine adg (fun _ hw => aE rfl adh (cv (k := lf.R.m) ((br (aC HG7 hw)) 0 _ rfl))) ?_;refine dl 1 ?_;refine cu ac1 (fun _ => aD call25 rfl (evc adh evn)) (ci ai fun _ hw => TwB.aae (HA7.out.below hw) fun F hF => C.R.devices hF) ?_;simp only [aa];refine adg (fun _ hw => ir rfl adh evk HV5) ?_;refine adg (fun _ hw => aG true rfl adh adh (beq_self_eq_true _)) ?_;refine dl 2 ?_;refine adg (fun _ hw => ax rfl adh wU) ?_;refine adg (fun _ hw => aE rfl adh (cv (k := lf.R.s) ((br (aC HG7 hw)) 1 _ rfl))) ?_;refine adg (fun _ hw => dF true rfl adh evk HV6) ?_;refine dl 2 ?_;refine adg (fun _ hw => ax rfl adh vm) ?_;refine adg (fun _ hw => aE rfl adh (cv (k := lf.R.r) ((br (aC HG7 hw)) 2 _ rfl))) ?_;refine adg (fun _ hw => dF true rfl adh evk HV7) ?_;refine dl 2 ?_;refine cu ac1 (fun _ => aD call23 rfl evn) (ci ai fun w' hw => lh C I w' (TwB.tab (HA7.out.below hw))) ?_;simp only [aa];refine dl 2 ?_;refine wpQuiet_nil ?_;intro w9 hw;have HZ := ae (HA7.out.bel.trans (hw.mono HA7.out.bel.size));clear hw;go_wp2_with fail;go_ret;exact ⟨rfl, HZ⟩
  ·have HLT1 : Hid (decide ((i : Int) < (nn : Int)) = true) := ae (am (by omega));have HLT2 : Hid (decide ((i : Int) < 40) = false) := ae (al (by omega));clear hq;refine ac6 (bw true rfl adh adh HLT1) ?_;refine runs 2 ?_;refine ade (bw false rfl adh evk HLT2) ?_;refine aP 1 ?_;go_upto_region 8 with fail;refine bn 1 ?_;refine ay rfl (aD call20 rfl (evc adh evn)) ?_;refine (HAr.out.gat I HLF HLE).mono ?_;rintro e w5 ⟨rfl, b_⟩;have HA5 := ae (HAr.out.below b_);clear b_;refine bI ?_;refine runs 3 ?_;refine ac6 (dC rfl) ?_;refine az rfl (eF (c := lf) rfl (ev rfl) (ev rfl)) ?_;simp only [aa];have hx := (Below.refl w5.heap.size w5).alloc ai (.cells (bP lf).toArray 50);have HP6 : Hid (de _ _ lf) := ae (heap_alloc_new w5 (.cells (bP lf).toArray 50));have HA6 := ae (HA5.out.below hx);obtain ⟨b9, hb9⟩ : ∃ b, w5.heap.size = b := ⟨_, rfl⟩;rw [hb9] at HP6 ⊢;clear hx hb9 HA5;generalize w5.alloc (.cells (bP lf).toArray 50) = w6 at *;refine aP 1 ?_;rcases re M with ⟨he, hd, _⟩ | ⟨he, _, _, hf⟩ | ⟨he, _, _⟩
   ·rw [HF.out.2.1] at hd; cases hd
   ·have hE7 : le = 7 := HLE.out.symm.trans he;have hFz : lf = bZ := HLF.out.symm.trans hf;subst hE7 hFz;clear he hf;go_upto_region 9 with fail;refine bn 1 ?_;refine ac6 (aO true rfl adh evk rfl) ?_;refine ag ?_;go_upto_region 10 with fail;refine bn 1 ?_;refine ac6 (aG true rfl adh evk rfl) ?_;refine runs 1 ?_;refine ade (fe (c := bZ) rfl adh (br HP6)) ?_;refine ade (gK rfl) ?_;refine ay ac1 (aD call22 rfl (evc adh (evc adh evn))) ?_;refine (mT bZ w6).mono ?_;rintro e w7 ⟨rfl, b_⟩;have HA7 := ae (HA6.out.below b_);clear b_;refine bI ?_;refine runs 2 ?_;refine ay ac1 (aD call23 rfl evn) ?_;refine (lh C I w7 HA7.out.tab).mono ?_;rintro e w8 ⟨rfl, b_⟩;have HZ := ae (HA7.out.bel.trans (b_.mono HA7.out.bel.size));clear b_;refine bI ?_;refine aP 2 ?_;go_wp2_with fail;go_ret;exact ⟨rfl, HZ⟩
   have hE0 : le = 0 := HLE.out.symm.trans he;obtain ⟨m1, m2, m3, m4, m5, m6⟩ := vg he;rw [HLF.out] at m1 m2 m3 m4 m5 m6;have hgg := ez (du m3).1;have hm : lf.R.m = (NN : Int) := by have := HF.out.1; omega
   have hr : lf.R.r <= 40 := by have := HF.out.2.2.2; rw [hm, this] at m5; omega
   have hs : lf.R.s <= 4 := by have := m6 0 (by omega); rw [HF.out.2.2.1 0 (by omega)] at this; omega
   subst hE0;have HV1 : Hid (decide ((1 : Int) <= ((lf.ev : Nat) : Int)) = true) := ae (am (by omega));have HV2 : Hid (decide (((lf.ev : Nat) : Int) <= 2305843009213693952) = true) := ae (am (by omega));have HV3 : Hid ((((lf.id : Nat) : Int) != 0) = true) := ae (by have := m2.1; simp; omega);have HV4 := ae m3;have HV5 : Hid (IntKind.i64.wrap ((M.ds.length : Int) - 1) = lf.R.m) := ae (by rw [eJ (by have := HF.out.1; have := HN2.out; omega)]; omega);have HV6 : Hid (decide (lf.R.s <= 4) = true) := ae (am hs);have HV7 : Hid (decide (lf.R.r <= 40) = true) := ae (am hr);clear he m1 m2 m3 m4 m5 m6 hgg hm hr hs;go_upto_region 9 with fail;refine bn 1 ?_;refine ac6 (aO false rfl adh evk rfl) ?_;refine ag ?_;go_upto_region 11 with fail;refine af ?_;refine ac6 (ax rfl adh gU) ?_;refine ac6 (ax rfl adh kE) ?_;refine ac6 (ct (c := lf.R) rfl adh HP6.out.mK) ?_;refine ac6 (cX (cs := [.int .i64 0, .int .i64 0, .int .i64 0]) xg rfl) ?_;refine az rfl (eW (cs := cU lf.R) (ds := [.int .i64 0, .int .i64 0, .int .i64 0]) (by kernel_rfl) rfl (nK _) rfl (ev rfl) (ev rfl)) ?_;simp only [aa];have hx := (Below.refl w6.heap.size w6).alloc ai (.cells (cU lf.R).toArray 32);have HP7 : Hid (de _ b9 lf) := ae (aC HP6 hx);have HG7 := ae (heap_alloc_new w6 (.cells (cU lf.R).toArray 32));have HA7 := ae (HA6.out.below hx);obtain ⟨b11, hb11⟩ : ∃ b, w6.heap.size = b := ⟨_, rfl⟩;rw [hb11] at HG7 ⊢;clear hx hb11 HA6 HP6;generalize w6.alloc (.cells (cU lf.R).toArray 32) = w7 at *;refine ag ?_;go_upto_region 12 with fail;refine bQ (B := w7.heap.size) (by kernel_rfl) ?_;refine adf (fun _ hw => ax rfl adh ml) ?_;refine adf (fun _ hw => aE rfl adh (cw (de.cells (aC HP7 hw)).1)) ?_;refine adf (fun _ hw => cn true rfl adh evk HV1) ?_;refine dl 1 ?_;refine adg (fun _ hw => ax rfl adh ml) ?_;refine adg (fun _ hw => aE rfl adh (cw (de.cells (aC HP7 hw)).1)) ?_;refine adg (fun _ hw => dF true rfl adh evk HV2) ?_;refine dl 2 ?_;refine adg (fun _ hw => ax rfl adh jM) ?_;refine adg (fun _ hw => aE rfl adh (cw (de.cells (aC HP7 hw)).2)) ?_;refine adg (fun _ hw => aO true rfl adh evk HV3) ?_;refine dl 2 ?_;refine adg (fun _ hw => ax rfl adh gU) ?_;refine adg (fun _ hw => bh rfl adh (de.i4 (aC HP7 hw))) ?_;refine cu ac1 (fun _ => aD call24 rfl (evc adh evn)) (ci ai fun w' hw => oV HV4 w') ?_;simp only [aa];refine dl 2 ?_;refine adg (fun _ hw => ax rfl adh pF) ?_;refine adg (fun _ hw => aE rfl adh (cv (k := lf.R.m) ((br (aC HG7 hw)) 0 _ rfl))) ?_;refine dl 1 ?_;refine cu ac1 (fun _ => aD call25 rfl (evc adh evn)) (ci ai fun _ hw => TwB.aae (HA7.out.below hw) fun F hF => C.R.devices hF) ?_;simp only [aa];refine adg (fun _ hw => ir rfl adh evk HV5) ?_;refine adg (fun _ hw => aG true rfl adh adh (beq_self_eq_true _)) ?_;refine dl 2 ?_;refine adg (fun _ hw => ax rfl adh wU) ?_;refine adg (fun _ hw => aE rfl adh (cv (k := lf.R.s) ((br (aC HG7 hw)) 1 _ rfl))) ?_;refine adg (fun _ hw => dF true rfl adh evk HV6) ?_;refine dl 2 ?_;refine adg (fun _ hw => ax rfl adh vm) ?_;refine adg (fun _ hw => aE rfl adh (cv (k := lf.R.r) ((br (aC HG7 hw)) 2 _ rfl))) ?_;refine adg (fun _ hw => dF true rfl adh evk HV7) ?_;refine dl 2 ?_;refine cu ac1 (fun _ => aD call23 rfl evn) (ci ai fun w' hw => lh C I w' (TwB.tab (HA7.out.below hw))) ?_;simp only [aa];refine dl 2 ?_;refine wpQuiet_nil ?_;intro w9 hw;have HZ := ae (HA7.out.bel.trans (hw.mono HA7.out.bel.size));clear hw;go_wp2_with fail;go_ret;exact ⟨rfl, HZ⟩
structure Tld where
 ev : Nat
 S : Sup
def aT : Tld := ⟨0, bp⟩
def i5 (M : aM) (d : Int) : Tld := ⟨gaN M d, gaS M d⟩
def kV (M : aM) (k : Nat) : List Tld := (List.range k).map fun (j : Nat) => i5 M (j : Int)
section
variable {M : aM} {k j : Nat} {f : Fnd}
theorem eG : (kV M k).length = k := by simp [kV]
theorem fR (h : j < k) : (kV M k).getD j aT = i5 M (j : Int) := by simp [kV, List.getD, h]
theorem tv : kV M (k + 1) = kV M k ++ [i5 M (k : Int)] := by simp [kV, List.range_succ]
theorem oo (h : gaE M (j : Int) = 0) : 1 <= gaN M (j : Int) := (oq h).1.1
theorem oI (h : gaE M (j : Int) ≠ 0) : gaN M (j : Int) = 0 := (mJ h).1
theorem yt : gaE M (j : Int) = 0 ↔ gaN M (j : Int) ≠ 0 := ⟨fun h => by have := oo h; omega, fun h => Decidable.byContradiction fun e => h (oI e)⟩
theorem sc (M : aM) : ∀ k : Nat, (gaK M k = none /\ ∀ i, i < k -> gaN M (i : Int) = 0) \/ (∃ j, j < k /\ gaK M k = some (gaP M (j : Int)) /\ gaE M (j : Int) = 0 /\ (∀ i, i < j -> gaN M (i : Int) < gaN M (j : Int)) /\ ∀ i, i < k -> gaN M (i : Int) <= gaN M (j : Int))
 |0 => .inl ⟨rfl, fun i hi => absurd hi (by omega)⟩
 |k + 1 => by
  by_cases he : gaE M (k : Int) = 0
  ·have hp := oo he;rcases sc M k with ⟨e1, e2⟩ | ⟨j, e1, e2, e3, e4, e5⟩
   ·refine .inr ⟨k, by omega, by rw [gaK, e1, if_pos ⟨he, rfl⟩], he, fun i hi => by rw [e2 i hi]; omega, fun i hi => ?_⟩;by_cases x : i = k
    ·subst x; omega
    ·rw [e2 i (by omega)]; omega
   ·by_cases hl : gaN M (j : Int) < gaN M (k : Int)
    ·refine .inr ⟨k, by omega, by rw [gaK, e2, if_pos ⟨he, am hl⟩], he, fun i hi => by have := e5 i hi; omega, fun i hi => ?_⟩;by_cases x : i = k
     ·subst x; omega
     ·have := e5 i (by omega); omega
    ·refine .inr ⟨j, by omega, by rw [gaK, e2, if_neg (fun x => hl (of_decide_eq_true x.2))], e3, e4, fun i hi => ?_⟩;by_cases x : i = k
     ·subst x; omega
     ·exact e5 i (by omega)
  ·have hz := oI he;have hk : gaK M (k + 1) = gaK M k := by rw [gaK, if_neg (fun x => he x.1)]
   rcases sc M k with ⟨e1, e2⟩ | ⟨j, e1, e2, e3, e4, e5⟩
   ·refine .inl ⟨hk.trans e1, fun i hi => ?_⟩;by_cases x : i = k
    ·subst x; exact hz
    ·exact e2 i (by omega)
   ·refine .inr ⟨j, by omega, hk.trans e2, e3, e4, fun i hi => ?_⟩;by_cases x : i = k
    ·subst x; omega
    ·exact e5 i (by omega)
def abR (l : List Tld) (j : Nat) : Prop := j < l.length /\ (∀ i, i < j -> (l.getD i aT).ev < (l.getD j aT).ev) /\ ∀ i, i < l.length -> (l.getD i aT).ev <= (l.getD j aT).ev
theorem xC (M : aM) (k : Nat) : (k = 0 /\ gaK M k = none) \/ ∃ j, abR (kV M k) j /\ j < k /\ ((gaN M (j : Int) = 0 /\ gaK M k = none) \/ (gaN M (j : Int) ≠ 0 /\ gaE M (j : Int) = 0 /\ gaK M k = some (gaP M (j : Int)))) := by
 rcases sc M k with ⟨e1, e2⟩ | ⟨j, e1, e2, e3, e4, e5⟩
 ·by_cases h : k = 0
  ·exact .inl ⟨h, e1⟩
  ·refine .inr ⟨0, ⟨by rw [eG]; omega, fun i hi => absurd hi (by omega), fun i hi => ?_⟩, by omega, .inl ⟨e2 0 (by omega), e1⟩⟩;rw [eG] at hi;rw [fR hi, fR (by omega)]
   show gaN M _ <= gaN M _
   rw [e2 i hi];exact Nat.zero_le _
 ·refine .inr ⟨j, ⟨by rw [eG]; exact e1, fun i hi => ?_, fun i hi => ?_⟩, e1, .inr ⟨by have := oo e3; omega, e3, e2⟩⟩
  ·rw [fR (by omega), fR e1];exact e4 i hi
  ·rw [eG] at hi;rw [fR hi, fR e1];exact e5 i hi
def tlW (t : Tld) (j : Nat) (id : Nat) (R : Ros) : Bool := decide (t.ev ≠ 0) && (decide (t.S.id = id) && (decide (t.S.self = (j : Int)) && mx t.S.ros R))
theorem abx (hf : a8 f.R = true) (k : Nat) : tlW (i5 M (j : Int)) j f.id (gaL M f k) = gaW M f j := by
 obtain ⟨_, h2, h3, h4⟩ := lG (M := M) hf k;have hg : mx (gaS M (j : Int)).ros (gaL M f k) = mx (gaS M (j : Int)).ros f.R := by unfold mx; rw [h2, h3, h4]
 have he : decide (gaN M (j : Int) ≠ 0) = decide (gaE M (j : Int) = 0) := by rw [decide_eq_decide]; exact yt.symm
 unfold tlW gaW i5;dsimp only;rw [hg, he];cases decide (gaE M (j : Int) = 0) <;> cases decide ((gaS M (j : Int)).self = (j : Int)) <;> cases decide ((gaS M (j : Int)).id = f.id) <;> rfl
end
def may (m s r : Int) : Bool := decide (3 <= m /\ m <= 16 /\ 1 <= s /\ s <= 64 /\ 40 <= r /\ r <= 256)
def has (s t : Int) : Bool := decide (0 <= t /\ t < s)
theorem kW {s t : Int} : has s t = true ↔ (0 <= t /\ t < s) := by unfold has; rw [decide_eq_true_iff]
def par (M T : Nat) : Nat := M - 1 - T % M
def va (t : Int) : Int := if has 64 t = true then 2 + t else 0
def uF (t : Int) : Int := if has 64 t = true then 0 else 12
theorem kD (t : Int) (w : World) : Calls prog 93 #[.int .i64 t] w fun e w' => e = .returned (.tuple #[.int .i64 (va t), .int .i64 (uF t)]) /\ Below w.heap.size w w' := by
 go_enter func93, ntmps93;go_wp2
 all_goals
  go_ret2;refine ⟨p9 ?_ ?_, aj⟩
  all_goals
   first
   |unfold va
   |unfold uF
   first
   |rw [if_pos (kW.2 (by omega))]
   |rw [if_neg (by rw [kW]; omega)]
theorem zf (a b : Blk) (k : Nat) (w : World) (T : Tab w) (h : kS a b = k) : Calls prog 114 #[blk a, blk b] w fun e w' => e = .returned (.int .i64 (k : Nat)) /\ Below w.heap.size w w' := by
 subst h;exact abK a b w T
structure HpS where
 id : Nat
 ev : Nat
 us : Nat
 R : Ros
def phC (qa : Option Addr) (x : HpS) : List Value := .pointer qa :: .int .u64 (x.id : Int) :: .int .u64 (x.ev : Int) :: (aU x.R ++ [.int .u64 (x.us : Int)])
theorem zE (qa : Option Addr) (x : HpS) : (phC qa x).length = 25 := by simp [phC, aY]
def PHo (w : World) (p : Nat) (qa : Option Addr) (x : HpS) : Prop := w.heap[p]? = some (.cells (phC qa x).toArray 112 (0, 0))
abbrev PHu (w : World) (p q : Nat) (x : HpS) : Prop := PHo w p (some ⟨q, 0, none⟩) x
section
variable {w w' : World} {p : Nat} {qa : Option Addr} {x : HpS} {G : Nat -> Prop}
theorem PHo.only (h : PHo w p qa x) (ho : Only G w w') (hn : ¬ G p) : PHo w' p qa x := ho.keep h hn
theorem PHo.below (h : PHo w p qa x) (hb : Below w.heap.size w w') : PHo w' p qa x := aC h hb
theorem PHo.lt (h : PHo w p qa x) : p < w.heap.size := aW h
theorem PHo.c0 (h : PHo w p qa x) : w.cell? ⟨p, 0, none⟩ = some (.pointer qa) := (br h) 0 _ rfl
theorem PHo.c1 (h : PHo w p qa x) : w.cell? ⟨p, 1, none⟩ = some (.int .u64 (x.id : Int)) := (br h) 1 _ rfl
theorem PHo.c2 (h : PHo w p qa x) : w.cell? ⟨p, 2, none⟩ = some (.int .u64 (x.ev : Int)) := (br h) 2 _ rfl
theorem PHo.c24 (h : PHo w p qa x) : w.cell? ⟨p, 24, none⟩ = some (.int .u64 (x.us : Int)) := (br h) 24 _ (by
 show (aU x.R ++ [_])[21]? = _
 rw [List.getElem?_append_right (by rw [aY]; exact ai), aY]; rfl)
theorem PHo.ros (h : PHo w p qa x) : w.rangeAt p 3 (aU x.R) := by
 have := dJ (k := 3) (ds := [.pointer qa, .int .u64 (x.id : Int), .int .u64 (x.ev : Int)]) (es := aU x.R) (fs := [.int .u64 (x.us : Int)]) (br h) (by simp [phC]) rfl;rwa [Nat.zero_add] at this
theorem PHo.wu (h : PHo w p qa x) (j : Nat) : w.frozen? ⟨p, j, none⟩ = false := frozen_of_row w p j _ _ h
theorem PHo.there (h : PHo w p qa x) {o n : Nat} (hn : o + n <= 25) : w.there p o n := bm h (by rw [zE]; exact hn)
theorem pu : (Instr.fieldAt 112 (.pointer (some ⟨p, 0, none⟩)) 0).run prog w = .ok (.pointer (some ⟨p, 0, none⟩)) w := by kernel_rfl
theorem ab3 : (Instr.fieldAt 112 (.pointer (some ⟨p, 0, none⟩)) 1).run prog w = .ok (.pointer (some ⟨p, 1, none⟩)) w := by kernel_rfl
theorem aad : (Instr.fieldAt 112 (.pointer (some ⟨p, 0, none⟩)) 2).run prog w = .ok (.pointer (some ⟨p, 2, none⟩)) w := by kernel_rfl
theorem xt : (Instr.fieldAt 112 (.pointer (some ⟨p, 0, none⟩)) 3).run prog w = .ok (.pointer (some ⟨p, 3, none⟩)) w := by kernel_rfl
theorem wN : (Instr.fieldAt 112 (.pointer (some ⟨p, 0, none⟩)) 4).run prog w = .ok (.pointer (some ⟨p, 24, none⟩)) w := by kernel_rfl
theorem vv {ad : Addr} {a : Option Addr} (h : w.cell? ad = some (.pointer a)) : (Instr.loadAt 24 (.pointer (some ad))).run prog w = .ok (.pointer a) w := by simp [go_sem, h]
theorem uS {ad : Addr} {a : Option Addr} (h : w.cell? ad = some (.pointer a)) : (Instr.loadAt 62 (.pointer (some ad))).run prog w = .ok (.pointer a) w := by simp [go_sem, h]
theorem PHo.set {y : HpS} (h : PHo w p qa x) {j : Nat} {u : Value} (hy : (phC qa x).set j u = phC qa y) : PHo (w.setCell ⟨p, j, none⟩ u) p qa y := by
 have := heap_setCell_same w p j _ 112 u h;rw [List.setIfInBounds_toArray, hy] at this;exact this
theorem PHo.put (h : PHo w p qa x) (y : Ros) : PHo (w.setCells p 3 (aU y)) p qa { x with R := y } :=
 heap_put p 112 [.int .u64 (x.us : Int)] (aU y) (aU x.R) [.pointer qa, .int .u64 (x.id : Int), .int .u64 (x.ev : Int)] w (by rw [aY, aY]) h
theorem abc (qa : Option Addr) (x : HpS) (e : Nat) : (phC qa x).set 2 (.int .u64 (e : Int)) = phC qa { x with ev := e } := rfl
theorem wh (qa : Option Addr) (x : HpS) (e : Nat) : (phC qa x).set 24 (.int .u64 (e : Int)) = phC qa { x with us := e } := by
 show _ :: _ :: _ :: (aU x.R ++ [_]).set 21 _ = _
 rw [List.set_append_right _ _ (by rw [aY]; exact ai), aY]
 rfl
end
def HJ (w0 : World) (H K : Nat -> Prop) (w : World) (p q : Nat) (M : aM) (x : HpS) : Prop :=
 ∃ G, aR.Bn w G q M /\ PHu w p q x /\ ¬ G p /\ Only H w0 w /\ Grow w0 H (fun b => G b \/ b = p) /\ (∀ b, K b -> ¬ G b /\ b ≠ p /\ b < w.heap.size) /\ CrG w0 H
section
variable {w0 w w' : World} {H K K' : Nat -> Prop} {p q : Nat} {M : aM} {x y : HpS}
theorem HJ.hul (h : HJ w0 H K w p q M x) : PHu w p q x := by obtain ⟨_, _, h, _⟩ := h; exact h
theorem HJ.tab (h : HJ w0 H K w p q M x) : Tab w := by
 obtain ⟨_, _, _, _, h, _, _, hT⟩ := h;intro i hi;have := hT.t i hi;exact (h.cell (p := ⟨0, i, none⟩) (kL this) hT.off).trans this
theorem HJ.lt (h : HJ w0 H K w p q M x) {b : Nat} (hb : K b) : b < w.heap.size := by obtain ⟨_, _, _, _, _, _, h, _⟩ := h; exact (h b hb).2.2
theorem HJ.ne (h : HJ w0 H K w p q M x) {b : Nat} (hb : K b) : b ≠ p := by obtain ⟨_, _, _, _, _, _, h, _⟩ := h; exact (h b hb).2.1
theorem HJ.size (h : HJ w0 H K w p q M x) : w0.heap.size <= w.heap.size := by obtain ⟨_, _, _, _, h, _⟩ := h; exact h.size
theorem HJ.guard (h : HJ w0 H K w p q M x) (hb : Below w.heap.size w w') (hK : ∀ b, K' b -> K b \/ (w.heap.size <= b /\ b < w'.heap.size)) : HJ w0 H K' w' p q M x := by
 obtain ⟨G, h1, h2, h3, h4, h5, h6, h7⟩ := h;have hlt := aR.lt h1;have hp := h2.lt;have hs := hb.size;refine ⟨G, aR.below h1 hb, h2.below hb, h3, h4.lN hb, h5, fun b e => ?_, h7⟩;rcases hK b e with e | ⟨e1, e2⟩
 ·obtain ⟨g1, g2, g3⟩ := h6 b e;exact ⟨g1, g2, by omega⟩
 ·exact ⟨fun hg => by have := hlt b hg; omega, by omega, e2⟩
theorem HJ.below (h : HJ w0 H K w p q M x) (hb : Below w.heap.size w w') : HJ w0 H K w' p q M x := h.guard hb fun b e => .inl e
theorem HJ.drew (h : HJ w0 H K w p q M x) : HJ w0 H K w.drew p q M x := h.below (bd aj)
theorem HJ.less (h : HJ w0 H K w p q M x) (hK : ∀ b, K' b -> K b) : HJ w0 H K' w p q M x := h.guard aj fun b e => .inl (hK b e)
def up (K : Nat -> Prop) (n m : Nat) : Nat -> Prop := fun b => K b \/ (n <= b /\ b < m)
theorem HJ.up (h : HJ w0 H K w p q M x) (hb : Below w.heap.size w w') : HJ w0 H (Proofs.YtehefifamaofkaaGreatDoor.up K w.heap.size w'.heap.size) w' p q M x := h.guard hb fun b e => e
theorem HJ.kept (h : HJ w0 H K w p q M x) (hb : Below w.heap.size w w') : df K w w' := fun b e => hb.block b (h.lt e)
theorem HJ.turn {G G' : Nat -> Prop} {M' : aM} (h1 : aR.Bn w G q M) (h2 : PHu w p q x) (h3 : ¬ G p) (h4 : Only H w0 w) (h5 : Grow w0 H (fun b => G b \/ b = p)) (h6 : ∀ b, K b -> ¬ G b /\ b ≠ p /\ b < w.heap.size) (h7 : CrG w0 H)
  (k1 : aR.Bn w' G' q M') (k2 : Only G w w') (k3 : Grow w G G') : HJ w0 H K w' p q M' x /\ df K w w' := by
 have hs := k2.size;have hs0 := h4.size;have hp := h2.lt;refine ⟨⟨G', k1, h2.only k2 h3, fun e => ?_, h4.trans k2 fun b e => h5 b (.inl e), fun b e => ?_, fun b e => ?_, h7⟩, fun b e => k2.block b (h6 b e).2.2 (h6 b e).1⟩
 ·rcases k3 p e with e | e
  ·exact h3 e
  ·omega
 ·rcases e with e | e
  ·rcases k3 b e with e | e
   ·exact h5 b (.inl e)
   ·exact .inr (by omega)
  ·exact h5 b (.inr e)
 ·obtain ⟨g1, g2, g3⟩ := h6 b e;refine ⟨fun hg => ?_, g2, by omega⟩;rcases k3 b hg with e | e
  ·exact g1 e
  ·omega
theorem HJ.write (d n : Int) (b : Blk) (hr : Room M 1) (h : HJ w0 H K w p q M x) : Calls prog 9 #[.pointer (some ⟨q, 0, none⟩), .int .i64 d, .int .i64 n, blk b] w fun e w' => e = .returned (.int .i64 (iQ M d n)) /\ HJ w0 H K w' p q (dr M d n b) x /\ df K w w' := by
 obtain ⟨G, h1, h2, h3, h4, h5, h6, h7⟩ := h;exact (aR.write d n b hr h1).mono fun e w' ⟨k0, G', k1, k2, k3⟩ => ⟨k0, HJ.turn h1 h2 h3 h4 h5 h6 h7 k1 k2 k3⟩
theorem HJ.flush (d : Int) (hr : Room M 1) (h : HJ w0 H K w p q M x) : Calls prog 15 #[.pointer (some ⟨q, 0, none⟩), .int .i64 d] w fun e w' => e = .returned (.int .i64 (gr M d)) /\ HJ w0 H K w' p q (eO M d) x /\ df K w w' := by
 obtain ⟨G, h1, h2, h3, h4, h5, h6, h7⟩ := h;exact (aR.flush d hr h1).mono fun e w' ⟨k0, G', k1, k2, k3⟩ => ⟨k0, HJ.turn h1 h2 h3 h4 h5 h6 h7 k1 k2 k3⟩
theorem HJ.read (d n : Int) (h : HJ w0 H K w p q M x) : Calls prog 81 #[.pointer (some ⟨q, 0, none⟩), .int .i64 d, .int .i64 n] w fun e w' => e = .returned (.tuple #[blk (dK M d n), .int .i64 (cf M d n)]) /\ Below w.heap.size w w' := by
 obtain ⟨G, h1, _⟩ := h;exact aR.read d n h1
theorem HJ.obj (h : HJ w0 H K w p q M x) (ho : Only (fun b => b = p) w w') (hp : PHu w' p q y) : HJ w0 H K w' p q M y /\ df K w w' := by
 obtain ⟨G, h1, h2, h3, h4, h5, h6, h7⟩ := h;have hs := ho.size;refine ⟨⟨G, aR.only h1 ho fun b hb e => h3 (e ▸ hb), hp, h3, h4.trans ho fun b e => h5 b (.inr e), h5, fun b e => ?_, h7⟩, fun b e => ho.block b (h6 b e).2.2 (h6 b e).2.1⟩;obtain ⟨g1, g2, g3⟩ := h6 b e;exact ⟨g1, g2, by omega⟩
theorem HJ.mine {g : Nat} (h : HJ w0 H K w p q M x) (hg : K g) (hg0 : w0.heap.size <= g) (ho : Only (fun b => b = g) w w') : HJ w0 H K w' p q M x := by
 obtain ⟨G, h1, h2, h3, h4, h5, h6, h7⟩ := h;have hs := ho.size;obtain ⟨g1, g2, g3⟩ := h6 g hg;refine ⟨G, aR.only h1 ho fun b hb e => g1 (e ▸ hb), h2.only ho fun e => g2 e.symm, h3, h4.trans ho fun b e => .inr (by omega), h5, fun b e => ?_, h7⟩;obtain ⟨g1, g2, g3⟩ := h6 b e;exact ⟨g1, g2, by omega⟩
end
structure Fu where
 f : FuncId
 cap : List Value
 ok : ∀ (args : Array Value) (w : World), (callFunc f args).run prog w = .ok (.enter f args) w
def Fu.val (s : Fu) : Value := .func (.func s.f) #[] s.cap.toArray
section
variable {ρ : Operand -> Value} {o : Oper} {x y : Operand} {w : World} {s : Fu} {v : Value}
theorem pi {a : Act} {ats : Array TypeId} (ho : o.op = .call { callee := .value x, args := #[y], argTypes := ats }) (hx : a.eval x = s.val) (hy : a.eval y = v) : (execOp a.eval o).run prog w = .ok (.enter s.f (v :: s.cap).toArray) w := by
 unfold Fu.val at hx;unfold execOp;simp [ho, resolve, Deferred.ofValue, invoke, hx, hy, s.ok]
end
def NoH (w : World) (v : Value) : Prop := v = .pointer none \/ ∃ p, v = .pointer (some ⟨p, 0, none⟩) /\ PHo w p none ⟨0, 0, 0, bO⟩
theorem NoH.below {w w' : World} {v : Value} (h : NoH w v) (hb : Below w.heap.size w w') : NoH w' v := by
 rcases h with h | ⟨p, h, h1⟩
 ·exact .inl h
 ·exact .inr ⟨p, h, h1.below hb⟩
section
variable {w : World} {p q : Nat} {qa : Option Addr} {x : HpS} {v : Value}
theorem vE (h : PHo w p (some ⟨q, 0, none⟩) x) : Calls prog 68 #[.pointer (some ⟨p, 0, none⟩)] w fun e w' => e = .returned (.bool true) /\ w = w' := by
 have HL := ae h;clear h;go_enter func68, ntmps68;go_upto_region 1 with fail;refine bn 1 ?_;refine ac6 (fH true underlying62 rfl adh evk rfl) ?_;refine runs 3 ?_;refine ade (ax rfl adh pu) ?_;refine ade (aE rfl adh (vv (PHo.c0 HL))) ?_;refine ade (fH true underlying24 rfl adh evk rfl) ?_;refine aP 2 ?_;go_wp2_with fail;go_ret;exact ⟨rfl, rfl⟩
theorem wD (h : PHo w p none x) : Calls prog 68 #[.pointer (some ⟨p, 0, none⟩)] w fun e w' => e = .returned (.bool false) /\ w = w' := by
 have HL := ae h;clear h;go_enter func68, ntmps68;go_upto_region 1 with fail;refine bn 1 ?_;refine ac6 (fH true underlying62 rfl adh evk rfl) ?_;refine runs 3 ?_;refine ade (ax rfl adh pu) ?_;refine ade (aE rfl adh (vv (PHo.c0 HL))) ?_;refine ade (fH false underlying24 rfl adh evk rfl) ?_;refine aP 2 ?_;go_wp2_with fail;go_ret;exact ⟨rfl, rfl⟩
theorem vx : Calls prog 68 #[.pointer none] w fun e w' => e = .returned (.bool false) /\ w = w' := by
 go_enter func68, ntmps68;go_upto_region 1 with fail;refine bn 1 ?_;refine ac6 (fH false underlying62 rfl adh evk rfl) ?_;refine aI 5 rfl (aL rfl adh) (by kernel_rfl) ?_;simp only [bj, ac, aa];refine aP 2 ?_;go_wp2_with fail;go_ret;exact ⟨rfl, rfl⟩
theorem yr (h : NoH w v) : Calls prog 68 #[v] w fun e w' => e = .returned (.bool false) /\ w = w' := by
 rcases h with rfl | ⟨p, rfl, h⟩
 ·exact vx
 ·exact wD h
theorem tA (h : PHo w p qa x) : Calls prog 29 #[.pointer (some ⟨p, 0, none⟩)] w fun e w' => e = .returned (ros (x.R)) /\ Below w.heap.size w w' := by
 have HL := ae (h.below ((Below.refl w.heap.size w).alloc ai (.cells (aU bO).toArray 35)));clear h;have HA := ae (bF.new w bO);have HB := ae ((Below.refl w.heap.size w).alloc ai (.cells (aU bO).toArray 35));go_enter func29, ntmps29;go_upto_region 0 with fail;refine af ?_;refine ac6 (cz rfl) ?_;generalize w.alloc (.cells (aU bO).toArray 35) = w1 at *
 skip
 refine ag ?_;go_upto_region 1 with fail;refine bn 1 ?_;refine ac6 (i7 false underlying62 rfl adh evk rfl) ?_;refine ag ?_;go_upto_region 3 with fail;refine bn 2 ?_;refine ac6 (ax rfl adh xt) ?_;refine ac6 (bh rfl adh (PHo.ros HL)) ?_;refine az rfl (dv rfl (ev rfl) (ev rfl) HA.out) ?_;simp only [aa];refine ag ?_;go_wp2_with fail;exact bodyPost_ret (aao rfl _ _ _ rfl (iM HA)) rfl ⟨rfl, gD HB ai⟩
theorem qC (h : PHo w p qa x) : Calls prog 32 #[.pointer (some ⟨p, 0, none⟩)] w fun e w' => e = .returned (.int .u64 (x.ev : Int)) /\ w = w' := by
 have HL := ae h;clear h;go_enter func32, ntmps32;go_upto_region 1 with fail;refine bn 1 ?_;refine ac6 (i7 false underlying62 rfl adh evk rfl) ?_;refine ag ?_;go_upto_region 3 with fail;refine bn 2 ?_;refine ac6 (ax rfl adh aad) ?_;refine ac6 (aE rfl adh (cw (PHo.c2 HL))) ?_;refine aP 1 ?_;go_wp2_with fail;go_ret;exact ⟨rfl, rfl⟩
theorem uL : Calls prog 32 #[.pointer none] w fun e w' => e = .returned (.int .u64 0) /\ w = w' := by
 go_enter func32, ntmps32;go_upto_region 1 with fail;refine bn 1 ?_;refine ac6 (i7 true underlying62 rfl adh evk rfl) ?_;refine ag ?_;go_upto_region 2 with fail;refine cI 1 ?_;go_wp2_with fail;go_ret;exact ⟨rfl, rfl⟩
end
section
variable {P : Program} {md : Region.Mode} {l : List Oper} {Q : Exit -> Act -> World -> Prop} {S : World -> Prop} {fuel : Nat} {listed : Array Bool} {a : Act} {w w1 : World} {o o' : Oper} {v : Value}
theorem uC (i : Nat) (hi : l[i]? = some o) (hr : Region.ready md l.toArray listed = [i]) (hw : Region.wanted o (yielded l.toArray a.tmps) = true) (h : (execOp a.eval o).run P w = .ok (.value v) w1)
  (hS : S w1) (hk : wpAnyH P md l.toArray Q S fuel (listed.setIfInBounds i true) (a.put o.dst v) w1) : wpAnyH P md l.toArray Q S (fuel + 1) listed a w :=
 wpAnyH_all hr (by simp) fun j hj => by
  obtain rfl : j = i := by simpa using hj
  unfold wpOp;simp only [List.getElem?_toArray, hi, hw, if_true];refine .inl ?_;unfold Oper.wp;rw [h];exact ⟨hS, hk⟩
theorem pY (i j : Nat) {f : FuncId} {vs : Array Value} (hi : l[i]? = some o) (hj : l[j]? = some o') (hr : Region.ready md l.toArray listed = [i, j]) (hwi : Region.wanted o (yielded l.toArray a.tmps) = true) (hwj : Region.wanted o' (yielded l.toArray a.tmps) = true) (h : (execOp a.eval o).run P w = .ok (.enter f vs) w)
  (hc : Calls P f vs w fun e w' => ∃ v, e = .returned v /\ S w' /\ wpAnyH P md l.toArray Q S fuel (listed.setIfInBounds i true) (a.put o.dst v) w') (h' : (execOp a.eval o').run P w = .ok (.value v) w1) (hS : S w1)
  (hk : wpAnyH P md l.toArray Q S fuel (listed.setIfInBounds j true) (a.put o'.dst v) w1) : wpAnyH P md l.toArray Q S (fuel + 1) listed a w :=
 wpAnyH_all hr (by simp) fun z hz => by
  rcases (show z = i \/ z = j by simpa using hz) with rfl | rfl
  ·unfold wpOp;simp only [List.getElem?_toArray, hi, hwi, if_true];refine .inl ?_;unfold Oper.wp;rw [h];exact hc.mono fun e w' ⟨v, he, hk⟩ => by subst he; exact hk
  ·unfold wpOp;simp only [List.getElem?_toArray, hj, hwj, if_true];refine .inl ?_;unfold Oper.wp;rw [h'];exact ⟨hS, hk⟩
theorem aap {α β : Type} {F : α -> β -> Prop} {G : Prop} {T : α -> β -> Prop} (k : (∀ a b, F a b -> T a b) -> G) (h : ∀ a b, F a b -> T a b) : G := k h
end
end Go.Proofs.YtehefifamaofkaaGreatDoor
