import Derived.Test.YtcpbekopbeaflaaGreatDoorLran
namespace Go.Proofs.YtcpbekopbeaflaaGreatDoor
set_option maxHeartbeats 8000000
open Go.Proofs.Tryz
open Go.RowKit
set_option linter.unusedVariables false
set_option linter.unusedSimpArgs false
set_option maxRecDepth 100000
def i3 (w : World) (a p : Nat) : Prop := w.heap[a]? = some (.cells #[ptr p] 29 (0, 0))
def uK (w : World) (a : Nat) (n : Int) : Prop := w.heap[a]? = some (.cells #[.int .i64 n] 3 (0, 0))
def pA (w : World) (a n : Nat) : Prop := w.heap[a]? = some (.cells #[.int .u64 (n : Int)] 35 (0, 0))
def dJ (w : World) (a : Nat) (x : Blk) : Prop := w.heap[a]? = some (.cells (cel x).toArray 64 (0, 0))
theorem i3.cell {w : World} {a p : Nat} (h : i3 w a p) : w.cell? ⟨a, 0, none⟩ = some (.pointer (some ⟨p, 0, none⟩)) := cell_of_row w a 0 _ _ _ h
theorem uK.cell {w : World} {a : Nat} {n : Int} (h : uK w a n) : w.cell? ⟨a, 0, none⟩ = some (.int .i64 n) := cell_of_row w a 0 _ _ _ h
theorem pA.cell {w : World} {a n : Nat} (h : pA w a n) : w.cell? ⟨a, 0, none⟩ = some (.int .u64 (n : Int)) := cell_of_row w a 0 _ _ _ h
theorem dJ.range {w : World} {a : Nat} {x : Blk} (h : dJ w a x) : w.rangeAt a 0 (cel x) := dW h
inductive fD (K : Nat -> Prop) (w : World) (p : Nat) : Fv -> Stp -> Prop
 |fl : fD K w p ⟨65, [ptr p], [], call65⟩ .fl
 |wr (a b c : Nat) (n : Int) (x : Blk) (ha : i3 w a p) (hb : uK w b n) (hc : dJ w c x) (ka : K a) (kb : K b) (kc : K c) :
   fD K w p ⟨163, [], [ptr a, ptr b, ptr c], call163⟩ (.wr n x)
 |mk (a b c : Nat) (n : Nat) (m : Mrk) (ha : pA w a n) (hb : cq w b m) (hc : i3 w c p) (ka : K a) (kb : K b) (kc : K c) (hn : n < 18446744073709551616) (hf : m.fit) (he : bf.pE ⟨n, m⟩ = 0) :
   fD K w p ⟨119, [], [ptr a, ptr b, ptr c], call119⟩ (.wr (ew n) (bf.pB ⟨n, m⟩))
 |nt (a b : Nat) (y : Nte) (ha : bO w a y) (hb : i3 w b p) (ka : K a) (kb : K b) (hf : y.fit) (he : a9.pE y = 0) :
   fD K w p ⟨143, [], [ptr a, ptr b], call143⟩ (.wr (cH y.seq) (a9.pB y))
theorem fD.mh {K K' : Nat -> Prop} {w w' : World} {p : Nat} {s : Fv} {t : Stp} (h : fD K w p s t) (hk : ∀ b, K b -> w'.heap[b]? = w.heap[b]?) (hK : ∀ b, K b -> K' b) : fD K' w' p s t := by
 cases h with
 |fl => exact .fl
 |wr a b c n x ha hb hc ka kb kc => exact .wr a b c n x ((hk a ka).trans ha) ((hk b kb).trans hb) ((hk c kc).trans hc) (hK _ ka) (hK _ kb) (hK _ kc)
 |mk a b c n m ha hb hc ka kb kc hn hf he => exact .mk a b c n m ((hk a ka).trans ha) ((hk b kb).trans hb) ((hk c kc).trans hc) (hK _ ka) (hK _ kb) (hK _ kc) hn hf he
 |nt a b y ha hb ka kb hf he => exact .nt a b y ((hk a ka).trans ha) ((hk b kb).trans hb) (hK _ ka) (hK _ kb) hf he
def Btw (B C b : Nat) : Prop := B <= b /\ b < C
theorem fD.below {B C B' C' : Nat} {w w' : World} {p : Nat} {s : Fv} {t : Stp} (h : fD (Btw B C) w p s t) (hC : C <= w.heap.size) (hb : Below w.heap.size w w') (h1 : B' <= B) (h2 : C <= C') : fD (Btw B' C') w' p s t :=
 h.mh (fun b hb' => hb.block b (aq hb'.2 hC)) fun b hb' => ⟨ap h1 hb'.1, aq hb'.2 h2⟩
def fz (K : Nat -> Prop) (w : World) (p : Nat) : List Fv -> List Stp -> Prop
 |[], [] => True
 |s :: l, t :: ts => fD K w p s t /\ fz K w p l ts
 |_, _ => False
theorem fz.append {K : Nat -> Prop} {w : World} {p : Nat} : ∀ {l : List Fv} {ts : List Stp} {l' : List Fv} {ts' : List Stp}, fz K w p l ts -> fz K w p l' ts' -> fz K w p (l ++ l') (ts ++ ts')
 |[], [], _, _, _, h => h
 |_ :: _, _ :: _, _, _, h, h' => ⟨h.1, h.2.append h'⟩
theorem fz.mh {K K' : Nat -> Prop} {w w' : World} {p : Nat} (hk : ∀ b, K b -> w'.heap[b]? = w.heap[b]?) (hK : ∀ b, K b -> K' b) : ∀ {l : List Fv} {ts : List Stp}, fz K w p l ts -> fz K' w' p l ts
 |[], [], _ => trivial
 |_ :: _, _ :: _, h => ⟨h.1.mh hk hK, fz.mh hk hK h.2⟩
theorem fz.below {B C B' C' : Nat} {w w' : World} {p : Nat} {l : List Fv} {ts : List Stp} (h : fz (Btw B C) w p l ts) (hC : C <= w.heap.size) (hb : Below w.heap.size w w') (h1 : B' <= B) (h2 : C <= C') : fz (Btw B' C') w' p l ts :=
 h.mh (fun b hb' => hb.block b (aq hb'.2 hC)) fun b hb' => ⟨ap h1 hb'.1, aq hb'.2 h2⟩
theorem fz.len {K : Nat -> Prop} {w : World} {p : Nat} : ∀ {l : List Fv} {ts : List Stp}, fz K w p l ts -> l.length = ts.length
 |[], [], _ => rfl
 |_ :: _, _ :: _, h => by rw [List.length_cons, List.length_cons, fz.len h.2]
theorem mq (fn : Fn) (fs cs : Array Value) (w : World) : (Instr.makeFunc fn fs cs).run prog w = .ok (.func fn fs cs) w := rfl
theorem acP (w : World) (o1 o2 : Obj) : Below w.heap.size w ((w.alloc o1).alloc o2) /\ ((w.alloc o1).alloc o2).heap[w.heap.size]? = some o1 /\ ((w.alloc o1).alloc o2).heap[w.heap.size + 1]? = some o2 /\ ((w.alloc o1).alloc o2).heap.size = w.heap.size + 2 := by
 have e1 := World.size_alloc (w := w) (o := o1);have e2 := World.size_alloc (w := w.alloc o1) (o := o2);have n1 := heap_alloc_new w o1;have n2 := heap_alloc_new (w.alloc o1) o2;rw [e1] at n2 e2;refine ⟨((Below.refl _ w).alloc aj _).alloc (by omega) _, ?_, n2, e2⟩;have hlt : w.heap.size < (w.alloc o1).heap.size := by omega
 exact (((Below.refl (w.alloc o1).heap.size (w.alloc o1)).alloc aj o2).block _ hlt).trans n1
theorem acR (w : World) (o1 o2 o3 : Obj) : Below w.heap.size w (((w.alloc o1).alloc o2).alloc o3) /\ (((w.alloc o1).alloc o2).alloc o3).heap[w.heap.size]? = some o1 /\ (((w.alloc o1).alloc o2).alloc o3).heap[w.heap.size + 1]? = some o2 /\ (((w.alloc o1).alloc o2).alloc o3).heap[w.heap.size + 1 + 1]? = some o3 /\ (((w.alloc o1).alloc o2).alloc o3).heap.size = w.heap.size + 3 := by
 obtain ⟨h1, h2, h3, h4⟩ := acP w o1 o2;have e3 := World.size_alloc (w := (w.alloc o1).alloc o2) (o := o3);have n3 := heap_alloc_new ((w.alloc o1).alloc o2) o3;rw [h4] at n3 e3;have hb := (Below.refl ((w.alloc o1).alloc o2).heap.size ((w.alloc o1).alloc o2)).alloc aj o3;exact ⟨h1.alloc h1.size _, (hb.block _ (by omega)).trans h2, (hb.block _ (by omega)).trans h3, n3, e3⟩
section
variable {p : Nat} {w : World}
theorem tj (n : Int) (x : Blk) : Calls prog 117 #[.pointer (some ⟨p, 0, none⟩), .int .i64 n, blk x] w fun e w' => ∃ s : Fv, e = .returned s.val /\ fD (Btw w.heap.size w'.heap.size) w' p s (.wr n x) /\ Below w.heap.size w w' := by
 have hmf := mq;go_enter func117, ntmps117;go_wp2_with (first | (refine au rfl (bW rfl rfl) ?_) | fail);go_ret;obtain ⟨h1, h2, h3, h4, h5⟩ := acR w (.cells #[ptr p] 29) (.cells #[.int .i64 n] 3) (.cells (cel x).toArray 64);exact ⟨⟨163, [], [ptr w.heap.size, ptr (w.heap.size + 1), ptr (w.heap.size + 1 + 1)], call163⟩, rfl, .wr _ _ _ n x h2 h3 h4 ⟨aj, aR h2⟩ ⟨Nat.le_succ _, aR h3⟩ ⟨Nat.le_add_right _ 2, aR h4⟩, h1⟩
theorem ub (n : Nat) (m : Mrk) (hn : n < 18446744073709551616) (hf : m.fit) (he : bf.pE ⟨n, m⟩ = 0) : Calls prog 66 #[.pointer (some ⟨p, 0, none⟩), .int .u64 (n : Nat), mrk m] w fun e w' => ∃ s : Fv, e = .returned s.val /\ fD (Btw w.heap.size w'.heap.size) w' p s (.wr (ew n) (bf.pB ⟨n, m⟩)) /\ Below w.heap.size w w' := by
 have hmf := mq;have HN := af hn;have HF := af hf;have HE := af he;clear hn hf he;go_enter func66, ntmps66;go_wp2_with (first | (refine au rfl (gA rfl rfl) ?_) | fail);go_ret;obtain ⟨h1, h2, h3, h4, h5⟩ := acR w (.cells #[ptr p] 29) (.cells #[.int .u64 (n : Int)] 35) (.cells (bJ m).toArray 95);exact ⟨⟨119, [], [ptr (w.heap.size + 1), ptr (w.heap.size + 1 + 1), ptr w.heap.size], call119⟩, rfl, .mk _ _ _ n m h3 h4 h2 ⟨Nat.le_succ _, aR h3⟩ ⟨Nat.le_add_right _ 2, aR h4⟩ ⟨aj, aR h2⟩ HN HF HE, h1⟩
theorem agi (y : Nte) (hf : y.fit) (he : a9.pE y = 0) : Calls prog 92 #[.pointer (some ⟨p, 0, none⟩), nte y] w fun e w' => ∃ s : Fv, e = .returned s.val /\ fD (Btw w.heap.size w'.heap.size) w' p s (.wr (cH y.seq) (a9.pB y)) /\ Below w.heap.size w w' := by
 have hmf := mq;have HF := af hf;have HE := af he;clear hf he;go_enter func92, ntmps92;go_wp2_with (first | (refine au rfl (dv rfl rfl) ?_) | fail);go_ret;obtain ⟨h1, h2, h3, h4⟩ := acP w (.cells #[ptr p] 29) (.cells (bj y).toArray 107);exact ⟨⟨143, [], [ptr (w.heap.size + 1), ptr w.heap.size], call143⟩, rfl, .nt _ _ y h3 h2 ⟨Nat.le_succ _, aR h3⟩ ⟨aj, aR h2⟩ HF HE, h1⟩
end
section
variable {w0 w : World} {H K : Nat -> Prop} {p q : Nat} {v : Value} {M : aK} {x : LgS}
theorem ahq (hr : Room M 1) (h : PJ w0 H K w p q v M x) : Calls prog 65 #[.pointer (some ⟨p, 0, none⟩)] w fun e w' => e = .returned (.int .i64 (fM M (x.d : Int))) /\ PJ w0 H K w' p q v (eJ M (x.d : Int)) x /\ kept K w w' := by
 have HJ := af h.drew;have HL := af h.drew.log;have HR := af hr;clear h hr;go_enter func65, ntmps65;go_upto_region 1 with fail;refine wp_region_still_tail 8 (by kernel_rfl) (by kernel_rfl) ?_;simp only [ae];refine aJ rfl (aB rfl alb) ?_;simp only [aa];refine aJ rfl (aM rfl alb) ?_;simp only [aa];refine aJ rfl (av rfl alb mp) ?_;simp only [aa];refine aJ rfl (aA rfl alb (sJ (PLg.c0 HL))) ?_;simp only [aa];refine aJ rfl (aB rfl alb) ?_;simp only [aa];refine aJ rfl (aM rfl alb) ?_;simp only [aa];refine aJ rfl (av rfl alb m3) ?_;simp only [aa];refine aJ rfl (aA rfl alb (bm (PLg.c1 HL))) ?_;simp only [aa];refine wpStill_nil ?_;change wpList _ _ _ _ _ (World.drew _);refine aD rfl (aC call118 rfl (evc alb (evc alb evn))) ?_;refine (PJ.flush (x.d : Int) HR HJ).mono ?_;rintro e w1 ⟨rfl, hj, hk⟩;refine bp ?_;refine aQ 1 ?_;go_wp2_with fail;go_ret;exact ⟨rfl, hj, hk⟩
theorem aaF {a b c : Nat} (n : Int) (y : Blk) (hr : Room M 1) (h : PJ w0 H K w p q v M x) (ha : i3 w a p) (hb : uK w b n) (hc : dJ w c y) : Calls prog 163 #[.pointer (some ⟨a, 0, none⟩), .pointer (some ⟨b, 0, none⟩), .pointer (some ⟨c, 0, none⟩)] w fun e w' => e = .returned (.int .i64 (f9 M (x.d : Int) n)) /\ PJ w0 H K w' p q v (eS M (x.d : Int) n y) x /\ kept K w w' := by
 have HJ := af h.drew;have HL := af h.drew.log;have HA := af (show i3 w.drew a p from ha);have HB := af (show uK w.drew b n from hb);have HC := af (show dJ w.drew c y from hc);have HR := af hr;clear h hr ha hb hc;go_enter func163, ntmps163;go_upto_region 1 with fail;refine wp_region_still_tail 10 (by kernel_rfl) (by kernel_rfl) ?_;simp only [ae];refine aJ rfl (aA rfl alb (aaE HA.out.cell)) ?_;simp only [aa];refine aJ rfl (aM rfl alb) ?_;simp only [aa];refine aJ rfl (av rfl alb mp) ?_;simp only [aa];refine aJ rfl (aA rfl alb (sJ (PLg.c0 HL))) ?_;simp only [aa];refine aJ rfl (aA rfl alb (aaE HA.out.cell)) ?_;simp only [aa];refine aJ rfl (aM rfl alb) ?_;simp only [aa];refine aJ rfl (av rfl alb m3) ?_;simp only [aa];refine aJ rfl (aA rfl alb (bm (PLg.c1 HL))) ?_;simp only [aa];refine aJ rfl (aA rfl alb (bm HB.out.cell)) ?_;simp only [aa];refine aJ rfl (aU (c := y) rfl alb HC.out.range) ?_;simp only [aa];refine wpStill_nil ?_;change wpList _ _ _ _ _ (World.drew _);refine aD rfl (aC call121 rfl (evc alb (evc alb (evc alb (evc alb evn))))) ?_;refine (PJ.write (x.d : Int) n y HR HJ).mono ?_;rintro e w1 ⟨rfl, hj, hk⟩;refine bp ?_;refine aQ 1 ?_;go_wp2_with fail;go_ret;exact ⟨rfl, hj, hk⟩
theorem zy {a b c : Nat} (n : Nat) (m : Mrk) (hr : Room M 1) (h : PJ w0 H K w p q v M x) (ha : pA w a n) (hb : cq w b m) (hc : i3 w c p) (ka : K a) (kc : K c) (hn : n < 18446744073709551616) (hf : m.fit) (he : bf.pE ⟨n, m⟩ = 0) : Calls prog 119 #[.pointer (some ⟨a, 0, none⟩), .pointer (some ⟨b, 0, none⟩), .pointer (some ⟨c, 0, none⟩)] w fun e w' => e = .returned (.int .i64 (f9 M (x.d : Int) (ew n))) /\ PJ w0 H K w' p q v (eS M (x.d : Int) (ew n) (bf.pB ⟨n, m⟩)) x /\ kept K w w' := by
 obtain ⟨mb, hmb⟩ : ∃ mb, bf.pB ⟨n, m⟩ = mb := ⟨_, rfl⟩;have HMB := af hmb;rw [hmb];have HJ := af h;have HR := af hr;have HS0 := af (Below.refl w.heap.size w);have HA := af ha;have HB := af hb;have HC := af hc;have HN := af hn;have HF := af hf;have HE := af he;have HKA := af ka;have HKC := af kc;clear ha hb hc hn hf he ka kc;clear h hr hmb;go_enter func119, ntmps119;go_upto_region 1 with fail;refine ag ?_;refine ak1 (aA rfl alb (b7 HA.out.cell)) ?_;refine ak1 (bN (c := m) rfl alb HB.out.range) ?_;refine aD rfl (aC call120 rfl (evc alb (evc alb evn))) ?_;refine (aju n m w HJ.out.tab.m HN HF).mono ?_;rintro e w1 ⟨rfl, hb1⟩;rw [HMB.out, HE.out];have HB1 := af hb1;clear hb1;refine bp ?_;refine runs 3 ?_;refine ak1 (aV rfl) ?_;refine aH rfl (dD (c := mb) rfl (ev rfl) (ev rfl)) ?_;simp only [aa];refine aQ 1 ?_;have HBN := af (HB1.out.alloc HB1.out.size (.cells (cel mb).toArray 64));have HBB := af (b8 w1 (cel mb) 64);have HBL : Hid (w.heap.size <= w1.heap.size /\ w1.heap.size < (w1.alloc (.cells (cel mb).toArray 64)).heap.size) := af ⟨HB1.out.size, by rw [World.size_alloc]; omega⟩;generalize w1.alloc (.cells (cel mb).toArray 64) = w2 at *;generalize w1.heap.size = bb at *;have HJ2 := af (HJ.out.guard (K' := fun b => K b \/ b = bb) HBN (fun b e => e.elim .inl (fun e => .inr (by rw [e]; exact HBL))));have HK2 := af (HJ.out.kept HBN);have HA2 : Hid (pA w2.drew a n) := af (cC HA (bd HBN));have HC2 : Hid (i3 w2.drew c p) := af (cC HC (bd HBN));have hS : PLg w2.drew p q v x /\ w2.drew.rangeAt bb 0 (cel mb) /\ pA w2.drew a n /\ i3 w2.drew c p := ⟨HJ2.out.drew.log, HBB, HA2, HC2⟩;go_upto_region 4 with fail;refine bk (fun w' => PLg w' p q v x /\ w'.rangeAt bb 0 (cel mb) /\ pA w' a n /\ i3 w' c p) 12 (by kernel_rfl) ?_;change cu _ _ _ _ _ _ 13 _ _ w2.drew;refine ak5 0 rfl (fun _ hw => aA rfl alb (aaE hw.2.2.2.cell)) hS ?_;refine ak5 1 rfl (fun _ hw => aM rfl alb) hS ?_;refine ak5 2 rfl (fun _ hw => av rfl alb mp) hS ?_;refine ak5 3 rfl (fun _ hw => aA rfl alb (sJ (PLg.c0 hw.1))) hS ?_;refine ak5 4 rfl (fun _ hw => aA rfl alb (aaE hw.2.2.2.cell)) hS ?_;refine ak5 5 rfl (fun _ hw => aM rfl alb) hS ?_;refine ak5 6 rfl (fun _ hw => av rfl alb m3) hS ?_;refine ak5 7 rfl (fun _ hw => aA rfl alb (bm (PLg.c1 hw.1))) hS ?_;refine ak5 8 rfl (fun _ hw => aA rfl alb (b7 hw.2.2.1.cell)) hS ?_;refine ak5 10 rfl (fun _ hw => aU (c := mb) rfl alb hw.2.1) hS ?_;refine bT 9 rfl (by kernel_rfl) rfl (aC call122 rfl (evc alb evn)) ?_;refine (ag8 n w2.drew HN).mono ?_;rintro e w' ⟨rfl, rfl⟩;refine ⟨_, rfl, fun _ => hS, ?_⟩;simp only [aa];refine bT 11 rfl (by kernel_rfl) rfl (aC call121 rfl (evc alb (evc alb (evc alb (evc alb evn))))) ?_;refine (PJ.write (x.d : Int) (ew n) mb HR HJ2.out.drew).mono ?_;rintro e w3 ⟨rfl, hj, hk⟩;refine ⟨_, rfl, fun _ => ?_, ?_⟩
 ·exact ⟨hj.log, eO (hk bb (.inr rfl)) HBB, (hk a (.inl HKA)).trans HA2, (hk c (.inl HKC)).trans HC2⟩
 simp only [aa];refine bh 12 rfl (by kernel_rfl) rfl (bu rfl alb) (fun e => absurd rfl e) ?_;simp only [aa];refine bK (by kernel_rfl) ?_ _;go_wp2_with fail;go_ret;exact ⟨rfl, hj.less fun b e => .inl e, HK2.out.trans fun b e => hk b (.inl e)⟩
theorem abK {a b : Nat} (y : Nte) (hr : Room M 1) (h : PJ w0 H K w p q v M x) (ha : bO w a y) (hb : i3 w b p) (ka : K a) (kb : K b) (hf : y.fit) (he : a9.pE y = 0) : Calls prog 143 #[.pointer (some ⟨a, 0, none⟩), .pointer (some ⟨b, 0, none⟩)] w fun e w' => e = .returned (.int .i64 (f9 M (x.d : Int) (cH y.seq))) /\ PJ w0 H K w' p q v (eS M (x.d : Int) (cH y.seq) (a9.pB y)) x /\ kept K w w' := by
 obtain ⟨mb, hmb⟩ : ∃ mb, a9.pB y = mb := ⟨_, rfl⟩;have HMB := af hmb;rw [hmb];have HJ := af h;have HR := af hr;have HS0 := af (Below.refl w.heap.size w);have HA := af ha;have HC := af hb;have HF := af hf;have HE := af he;have HKA := af ka;have HKC := af kb;have HSQ : Hid (y.seq < 18446744073709551616) := af hf.1;have HAD : Hid (IntKind.i64.wrap (2 + ((y.seq % 8 : Nat) : Int)) = cH y.seq) := af (by unfold cH; rw [IntWalk.i64_in _ ⟨by omega, by omega⟩]; omega);clear ha hb hf he ka kb;clear h hr hmb;go_enter func143, ntmps143;go_upto_region 1 with fail;refine ag ?_;refine ak1 (bI (c := y) rfl alb HA.out.range) ?_;refine aD rfl (aC call144 rfl (evc alb evn)) ?_;refine (ahC y w HJ.out.tab.n HF).mono ?_;rintro e w1 ⟨rfl, hb1⟩;rw [HMB.out, HE.out];have HB1 := af hb1;clear hb1;refine bp ?_;refine runs 3 ?_;refine ak1 (aV rfl) ?_;refine aH rfl (dD (c := mb) rfl (ev rfl) (ev rfl)) ?_;simp only [aa];refine aQ 1 ?_;have HBN := af (HB1.out.alloc HB1.out.size (.cells (cel mb).toArray 64));have HBB := af (b8 w1 (cel mb) 64);have HBL : Hid (w.heap.size <= w1.heap.size /\ w1.heap.size < (w1.alloc (.cells (cel mb).toArray 64)).heap.size) := af ⟨HB1.out.size, by rw [World.size_alloc]; omega⟩;generalize w1.alloc (.cells (cel mb).toArray 64) = w2 at *;generalize w1.heap.size = bb at *;have HJ2 := af (HJ.out.guard (K' := fun b => K b \/ b = bb) HBN (fun b e => e.elim .inl (fun e => .inr (by rw [e]; exact HBL))));have HK2 := af (HJ.out.kept HBN);have HA2 : Hid (bO w2.drew a y) := af (cC HA (bd HBN));have HC2 : Hid (i3 w2.drew b p) := af (cC HC (bd HBN));have hS : PLg w2.drew p q v x /\ w2.drew.rangeAt bb 0 (cel mb) /\ bO w2.drew a y /\ i3 w2.drew b p := ⟨HJ2.out.drew.log, HBB, HA2, HC2⟩;go_upto_region 4 with fail;refine bk (fun w' => PLg w' p q v x /\ w'.rangeAt bb 0 (cel mb) /\ bO w' a y /\ i3 w' b p) 14 (by kernel_rfl) ?_;change cu _ _ _ _ _ _ 15 _ _ w2.drew;refine ak5 0 rfl (fun _ hw => aA rfl alb (aaE hw.2.2.2.cell)) hS ?_;refine ak5 1 rfl (fun _ hw => aM rfl alb) hS ?_;refine ak5 2 rfl (fun _ hw => av rfl alb mp) hS ?_;refine ak5 3 rfl (fun _ hw => aA rfl alb (sJ (PLg.c0 hw.1))) hS ?_;refine ak5 4 rfl (fun _ hw => aA rfl alb (aaE hw.2.2.2.cell)) hS ?_;refine ak5 5 rfl (fun _ hw => aM rfl alb) hS ?_;refine ak5 6 rfl (fun _ hw => av rfl alb m3) hS ?_;refine ak5 7 rfl (fun _ hw => aA rfl alb (bm (PLg.c1 hw.1))) hS ?_;refine ak5 8 rfl (fun _ hw => av rfl alb jI) hS ?_;refine ak5 9 rfl (fun _ hw => aA rfl alb (b7 hw.2.2.1.cells.1)) hS ?_;refine ak5 12 rfl (fun _ hw => aU (c := mb) rfl alb hw.2.1) hS ?_;refine bT 10 rfl (by kernel_rfl) rfl (aC call106 rfl (evc alb evn)) ?_;refine (oV y.seq w2.drew HSQ).mono ?_;rintro e w' ⟨rfl, rfl⟩;refine ⟨_, rfl, fun _ => hS, ?_⟩;simp only [aa];refine ak5 11 rfl (fun _ hw => cQ rfl evk alb HAD) hS ?_;refine bT 13 rfl (by kernel_rfl) rfl (aC call121 rfl (evc alb (evc alb (evc alb (evc alb evn))))) ?_;refine (PJ.write (x.d : Int) (cH y.seq) mb HR HJ2.out.drew).mono ?_;rintro e w3 ⟨rfl, hj, hk⟩;refine ⟨_, rfl, fun _ => ?_, ?_⟩
 ·exact ⟨hj.log, eO (hk bb (.inr rfl)) HBB, (hk a (.inl HKA)).trans HA2, (hk b (.inl HKC)).trans HC2⟩
 simp only [aa];refine bh 14 rfl (by kernel_rfl) rfl (bu rfl alb) (fun e => absurd rfl e) ?_;simp only [aa];refine bK (by kernel_rfl) ?_ _;go_wp2_with fail;go_ret;exact ⟨rfl, hj.less fun b e => .inl e, HK2.out.trans fun b e => hk b (.inl e)⟩
theorem fD.run {s : Fv} {t : Stp} (hr : Room M 1) (h : PJ w0 H K w p q v M x) (hs : fD K w p s t) : Calls prog s.f (s.fst ++ s.cap).toArray w fun e w' => e = .returned (.int .i64 (ju (x.d : Int) M t)) /\ PJ w0 H K w' p q v (ou (x.d : Int) M t) x /\ kept K w w' := by
 cases hs with
 |fl => exact ahq hr h
 |wr a b c n y ha hb hc ka kb kc => exact aaF n y hr h ha hb hc
 |mk a b c n m ha hb hc ka kb kc hn hf he => exact zy n m hr h ha hb hc ka kc hn hf he
 |nt a b y ha hb ka kb hf he => exact abK y hr h ha hb ka kb hf he
theorem sz {wK : World} {Kr : Nat -> Prop} (hKr : ∀ b, Kr b -> K b) : ∀ (l : List Fv) (ts : List Stp) {w : World} {M : aK}, fz K w p l ts -> PJ w0 H K w p q v M x -> kept K wK w -> Room M ts.length ->
  Chn Kr (fun E w' => E = goE (x.d : Int) M ts /\ PJ w0 H K w' p q v (goB (x.d : Int) M ts) x /\ kept K wK w') l w
 |[], [], w, M, _, h, hk0, _ => fun w' hb => ⟨rfl, h.below hb, hk0.trans (h.kept hb)⟩
 |s :: l, t :: ts, w, M, hs, h, hk0, hr => fun w1 hb => by
  have h1 := h.below hb;have hk1 := hk0.trans (h.kept hb);have hs1 : fz K w1 p (s :: l) (t :: ts) := fz.mh (fun b hb' => hb.block b (h.lt hb')) (fun _ e => e) hs;have hr1 : Room M (ts.length + 1) := hr;refine (fD.run (ct hr1 (by omega)) h1 hs1.1).mono fun e w2 ⟨he, hj, hk⟩ => ⟨fun b hb' => hk b (hKr b hb'), ju (x.d : Int) M t, he, ?_⟩
  by_cases h0 : ju (x.d : Int) M t = 0
  ·left
   refine ⟨h0, ?_⟩;rw [(go_ok h0).1, (go_ok h0).2];exact sz hKr l ts (fz.mh hk (fun _ e => e) hs1.2) hj (hk1.trans hk) (tZ hr1 t)
  ·right
   refine ⟨h0, fun w3 hb3 => ?_⟩;rw [(jj h0).1, (jj h0).2];exact ⟨rfl, hj.below hb3, (hk1.trans hk).trans (hj.kept hb3)⟩
end
theorem aO.pu {α : Type} {E : Elt α} {w : World} {B : Nat} {v : Value} {l : List α} (h : aO E w B v l) (hl : 0 < l.length) : ∃ g c, v = .slice (some ⟨g, 0, none⟩) l.length c /\ B <= g /\ g < w.heap.size /\ l.length <= c /\ c <= maxLen := by
 rcases h.2 with ⟨rfl, h0⟩ | ⟨g, cap, cur, rfl, hbg, hg, h1, h2, _⟩
 ·omega
 ·exact ⟨g, cap, rfl, hbg, aR hg, h1, h2⟩
section
variable {ρ : Operand -> Value} {o : Oper} {x y : Operand} {w : World} {g j n c : Nat}
theorem k6 (ho : o.op = .indexAddr 36 x y) (hx : ρ x = .slice (some ⟨g, 0, none⟩) n c) (hy : ρ y = .int .i64 (j : Int)) (hj : j < n) : (execOp ρ o).run prog w = .ok (.value (.pointer (some ⟨g, j, none⟩))) w := by
 have := bH (E := dw) (w := w) ho hx hy hj;rwa [show 0 + j * dw.n = j from by show 0 + j * 1 = _; omega] at this
theorem abc {a b : Int} (ho : o.op = .store 3 x y) (hx : ρ x = .pointer (some ⟨g, j, none⟩)) (hy : ρ y = .int .i64 a) (hc : w.cell? ⟨g, j, none⟩ = some (.int .i64 b)) (hf : w.frozen? ⟨g, j, none⟩ = false) : (execOp ρ o).run prog w = .ok .skip (w.setCell ⟨g, j, none⟩ (.int .i64 a)) :=
 dU ho hx hy (by simp [go_sem, hc, hf])
end
theorem aO.adu {w : World} {B g n c k : Nat} {l : List Int} (h : aO dw w B (.slice (some ⟨g, 0, none⟩) n c) l) (hk : k < n) : w.cell? ⟨g, k, none⟩ = some (.int .i64 (l.getD k 0)) /\ w.frozen? ⟨g, k, none⟩ = false := by
 obtain ⟨b, off, e, _, hc⟩ := h.rd.int hk;injection e with e;injection e with e1 e2;subst e1 e2;rw [Nat.zero_add] at hc;refine ⟨hc, ?_⟩;rcases h.2 with ⟨hv, h0⟩ | ⟨g', cap, cur, hv, hbg, hg, _⟩
 ·cases hv
 ·injection hv with e1 e2 e3;injection e1 with e1;injection e1 with e1;subst e1;exact frozen_of_row w g k _ _ hg
theorem aO.akI {w : World} {B g n c k : Nat} {l : List Int} (h : aO dw w B (.slice (some ⟨g, 0, none⟩) n c) l) (hk : k < n) (a : Int) : aO dw (w.setCell ⟨g, k, none⟩ (.int .i64 a)) B (.slice (some ⟨g, 0, none⟩) n c) (l.set k a) := by
 have := h.store hk a;rwa [show k * dw.n = k from by show k * 1 = _; omega] at this
def lV (r p t k : Nat) : List Int := (List.range t).map fun j => if j < k then cx r (p + j) else (((p + j) % r : Nat) : Int)
def sh (r p t : Nat) : List Int := (List.range t).map fun j => cx r (p + j)
theorem vA (r p t k : Nat) : (lV r p t k).length = t := by simp [lV]
theorem mv (r p t : Nat) : (sh r p t).length = t := by simp [sh]
theorem ah1 (r p t : Nat) : lV r p t 0 = ia (r : Int) (p : Int) t := by
 apply List.ext_getElem
 ·simp [lV, ia]
 ·intro j h1 h2;have := pN (r := r) (t := p) (n := t) (j := j) (by simpa [lV] using h1);rw [List.getD, List.getElem?_eq_getElem h2, Option.getD_some] at this;rw [this];simp [lV]
theorem adr (r p t : Nat) : lV r p t t = sh r p t := by
 unfold lV sh;exact List.map_congr_left fun j hj => if_pos (List.mem_range.1 hj)
theorem afV {r p t k : Nat} (hk : k < t) : (lV r p t k).getD k 0 = (((p + k) % r : Nat) : Int) := by
 unfold lV;rw [List.getD, List.getElem?_map, List.getElem?_range hk];simp
theorem adI {r p t k : Nat} (hk : k < t) : (lV r p t k).set k (cx r (p + k)) = lV r p t (k + 1) := by
 apply List.ext_getElem
 ·simp [lV]
 ·intro j h1 h2;rw [List.getElem_set];simp only [lV, List.getElem_map, List.getElem_range];by_cases e : k = j
  ·subst e; rw [if_pos rfl, if_pos (by omega)]
  ·rw [if_neg e];by_cases e2 : j < k
   ·rw [if_pos e2, if_pos (by omega)]
   ·rw [if_neg e2, if_neg (by omega)]
theorem yY {r p t k : Nat} (hk : k < t) : (sh r p t).getD k 0 = cx r (p + k) := by
 unfold sh;rw [List.getD, List.getElem?_map, List.getElem?_range hk]
 rfl
section
variable {p q N : Nat} {v : Value} {x : LgS} {M : aK}
theorem rV (w : World) (y : Nte) (h : PLg w p q v x) (hy : 1 <= y.cells /\ y.cells <= 32) (hs : 40 <= x.size /\ x.size <= 256) (hp : y.pos + bF y <= 4611686018427387904) : Calls prog 142 #[.pointer (some ⟨p, 0, none⟩), nte y] w fun e w' => ∃ r, e = .returned (.tuple #[r, .int .i64 0]) /\ aO dw w' w.heap.size r (sh x.size y.pos (bF y)) /\ Below w.heap.size w w' := by
 have htk : 2 <= bF y /\ bF y <= 34 := by unfold bF hd; omega
 have HZ := af (lX hy);have HLS := af (vQ (r := (x.size : Int)) (t := (y.pos : Int)) (n := bF y) (lk.2 ⟨by omega, by omega, by omega, by omega, by omega, by omega⟩));have HSZ := af hs;have HTK := af htk;have HPB : Hid (y.pos <= 4611686018427387904) := af (by omega);obtain ⟨k1, k2, k3⟩ := dY w y;have HY := af k1;have HBW := af k2;have HLE := af k3;have HL := af (h.below k2);clear h hy hs hp htk k1 k2 k3;go_enter func142, ntmps142;go_upto_region 1 with (first | (refine au rfl (dv rfl rfl) ?_) | fail);generalize w.alloc (.cells (bj y).toArray 107) = w1 at *;have hS : PLg w1.drew p q v x /\ bO w1.drew w.heap.size y := ⟨HL.out.below (bd ak), HY.out.below HLE (bd ak)⟩;refine bk (fun w' => PLg w' p q v x /\ bO w' w.heap.size y) 15 (by kernel_rfl) ?_;change cu _ _ _ _ _ _ 16 _ _ w1.drew;refine ak5 0 rfl (fun _ hw => aB rfl alb) hS ?_;refine ak5 1 rfl (fun _ hw => aM rfl alb) hS ?_;refine ak5 2 rfl (fun _ hw => av rfl alb gd) hS ?_;refine ak5 3 rfl (fun _ hw => av rfl alb yc) hS ?_;refine ak5 4 rfl (fun _ hw => aA rfl alb (bm (PLg.c4 hw.1))) hS ?_;refine ak5 5 rfl (fun _ hw => av rfl alb lI) hS ?_;refine ak5 6 rfl (fun _ hw => aA rfl alb (b7 hw.2.cells.2.1)) hS ?_;refine ak5 7 rfl (fun _ hw => av rfl alb kE) hS ?_;refine ak5 8 rfl (fun _ hw => aA rfl alb (bm hw.2.cells.2.2.1)) hS ?_;refine bT 9 rfl (by kernel_rfl) rfl (aC call141 rfl (evc alb evn)) ?_;refine (abE (k := bF y) HZ w1.drew).mono ?_;rintro e w' ⟨rfl, rfl⟩;refine ⟨_, rfl, fun _ => hS, ?_⟩;simp only [aa];refine bT 10 rfl (by kernel_rfl) rfl (aC call179 rfl (evc alb (evc alb (evc alb evn)))) ?_;refine (akz (x.size : Int) (y.pos : Int) (bF y : Int) w1.heap.size w1.drew (af rfl) (by omega) (by have := HPB.out; omega) (by omega) (by have := HTK.out.2; omega)).mono ?_;rintro e w2 ⟨r, rfl, hm, hb⟩;rw [HLS.out.1] at hm;rw [HLS.out.2];have HB2 := af (show Below w1.heap.size w1 w2 from (bd (Below.refl w1.heap.size w1)).trans hb);have hS2 : PLg w2 p q v x /\ bO w2 w.heap.size y := ⟨HL.out.below HB2, HY.out.below HLE HB2⟩;refine ⟨_, rfl, fun _ => hS2, ?_⟩;simp only [aa];refine ak5 11 rfl (fun _ hw => aB rfl alb) hS2 ?_;refine ak5 12 rfl (fun _ hw => bx rfl alb rfl) hS2 ?_;refine ak5 13 rfl (fun _ hw => bx rfl alb rfl) hS2 ?_;refine ak5 14 rfl (fun _ hw => bu rfl alb) hS2 ?_;refine bh 15 rfl (by kernel_rfl) rfl (bu rfl alb) (fun e => absurd rfl e) ?_;simp only [aa];refine bK (by kernel_rfl) ?_ _;rw [<- ah1] at hm;have hm2 := hm;obtain ⟨g, c, rfl, hbg, hg, hc1, hc2⟩ := hm.pu (by rw [vA]; have := HTK.out.1; omega);rw [vA] at hm hc1 ⊢;have HM := af (hm.base (B' := w.heap.size) (by have := HLE.out; omega));have HGB : Hid (w1.heap.size <= g) := af hbg;have HBB := af (HBW.out.trans (HB2.out.mono (by have := HLE.out; omega)));obtain ⟨t, ht⟩ : ∃ t, bF y = t := ⟨_, rfl⟩;rw [ht] at HM HTK ⊢;have HT := af ht;clear ht hm hm2 hS hS2 hb hbg hg hc1 hc2 HZ HLS HL HY;go_wp2_with fail
 go_loopw [25] (fun i wr => ∃ k : Nat, k <= t /\ i = .int .i64 k /\ aO dw wr w.heap.size (.slice (some ⟨g, 0, none⟩) t c) (lV x.size y.pos t k) /\ Below w.heap.size w wr) (fun i _ => t - (intOf i).toNat)
 case atStart => exact ⟨0, Nat.zero_le _, rfl, HM, HBB⟩
 case round =>
  clear HM HBB HB2;obtain ⟨k, hk, rfl, hm, hb⟩ := hrel;have ht34 := HTK.out.2;by_cases hlt : k < t
  ·obtain ⟨hc, hf⟩ := hm.adu hlt;rw [afV hlt] at hc;have hmod : (y.pos + k) % x.size < 256 := by have := Nat.mod_lt (y.pos + k) (show 0 < x.size by have := HSZ.out.1; omega); have := HSZ.out.2; omega
   have HAD : Hid (IntKind.i64.wrap ((((y.pos + k) % x.size : Nat) : Int) + 10) = cx x.size (y.pos + k)) := af (by unfold cx; rw [IntWalk.i64_in _ ⟨by omega, by omega⟩]; omega);have hm2 := hm.akI hlt (cx x.size (y.pos + k));rw [adI hlt] at hm2;have HC := af hc;have HF := af hf;have HM2 := af hm2;have HB2 : Hid (Below w.heap.size w (wr.setCell ⟨g, k, none⟩ (.int .i64 (cx x.size (y.pos + k))))) := af (below_setCells (o := k) hb (by have := HGB.out; have := HLE.out; omega) [_]);clear hc hf hm hm2 hb hmod;go_upto_region 5 with fail;refine aY 2 ?_;refine ak1 (k6 rfl alb alb hlt) ?_;refine ak1 (aA rfl alb (bm HC)) ?_;refine ak1 (cQ rfl alb evk HAD) ?_;refine ak1 (k6 rfl alb alb hlt) ?_;refine aH rfl (abc rfl (ev rfl) (ev rfl) HC.out HF.out) ?_;simp only [aa];refine ah ?_;generalize wr.setCell ⟨g, k, none⟩ (.int .i64 (cx x.size (y.pos + k))) = wt at *;go_wp2_with fail;go_roundw
   case rel => exact ⟨k + 1, by omega, by go_num, HM2, HB2⟩
   case measure => simp [intOf]; omega
  ·have hkt : k = t := by omega
   rw [hkt, adr] at hm;rw [hkt];clear hkt hk hlt;have HM := af hm;have HB := af hb;clear hm hb;go_wp2_with fail;go_ret2;exact ⟨_, rfl, by rw [HT.out]; exact HM, HB⟩
end
theorem aaw (w : World) : (Instr.build 64 #[]).run prog w = .ok (blk aE) w := by kernel_rfl
section
variable {K : Nat -> Prop} {w w' : World} {p B : Nat} {s : Fv} {t : Stp} {v : Value} {l l' : List Fv} {ts : List Stp}
theorem fD.grow (h : fD K w p s t) (hm : aO FnE w B v l') (hg : w.grownBy w' v.ownBlock) : fD K w' p s t := by
 have key : ∀ {a : Nat} {cs : Array Value} {ty : TypeId}, w.heap[a]? = some (.cells cs ty (0, 0)) -> FnE.t ≠ ty -> w'.heap[a]? = some (.cells cs ty (0, 0)) := fun ha hne => (hg.block _ (aR ha) (fun e => hm.dl ha hne e.symm)).trans ha
 cases h with
 |fl => exact .fl
 |wr a b c n x ha hb hc ka kb kc => exact .wr a b c n x (key ha (by decide)) (key hb (by decide)) (key hc (by decide)) ka kb kc
 |mk a b c n m ha hb hc ka kb kc hn hf he => exact .mk a b c n m (key ha (by decide)) (key hb (by decide)) (key hc (by decide)) ka kb kc hn hf he
 |nt a b y ha hb ka kb hf he => exact .nt a b y (key ha (by decide)) (key hb (by decide)) ka kb hf he
theorem fz.grow (hm : aO FnE w B v l') (hg : w.grownBy w' v.ownBlock) : ∀ {l : List Fv} {ts : List Stp}, fz K w p l ts -> fz K w' p l ts
 |[], [], _ => trivial
 |_ :: _, _ :: _, h => ⟨h.1.grow hm hg, fz.grow hm hg h.2⟩
structure me (B : Nat) (w0 w : World) (p : Nat) (v : Value) (ts : List Stp) : Prop where
 row : ∃ l, aO FnE w B v l /\ fz (Btw B w.heap.size) w p l ts
 bel : Below B w0 w
 le : B <= w0.heap.size
theorem me.below {w0 : World} (h : me B w0 w p v ts) (hb : Below w.heap.size w w') : me B w0 w' p v ts := by
 obtain ⟨⟨l, h1, h2⟩, h3, h4⟩ := h;exact ⟨⟨l, h1.below hb, h2.below aj hb aj hb.size⟩, h3.trans (hb.mono (ap h4 h3.size)), h4⟩
theorem me.nil (w0 w : World) (hB : B <= w0.heap.size) (hb : Below B w0 w) : me B w0 w p (.slice none 0 0) [] := ⟨⟨[], aO.nil _ _, trivial⟩, hb, hB⟩
theorem me.len {w0 : World} (h : me B w0 w p v ts) : ∃ l, aO FnE w B v l /\ fz (Btw B w.heap.size) w p l ts /\ l.length = ts.length := by
 obtain ⟨⟨l, h1, h2⟩, _⟩ := h;exact ⟨l, h1, h2, h2.len⟩
theorem jl {w0 : World} {ops : Array Oper} {rest : List Oper} {o : Oper} {a : Act} {Q : Exit -> Act -> World -> Prop} (hgd : o.guard = none) (x y : Operand)
  (ho : o.op = .call { callee := .builtin .append, args := #[x, y], argTypes := #[100, 100] }) (N m c : Nat) (A : Option Addr) {ls : List Fv} {ts' : List Stp} (hx : a.eval x = v) (hy : a.eval y = .slice A m c)
  (h : me B w0 w p v ts) (hs : fz (Btw B w.heap.size) w p ls ts') (hr : RdE FnE w N A m ls) (hn : ts.length + m <= 1000000)
  (hk : ∀ v' w', me B w0 w' p v' (ts ++ ts') -> w.grownBy w' v.ownBlock -> wpList prog ops Q rest (a.put o.dst v') w') : wpList prog ops Q (o :: rest) a w := by
 obtain ⟨l, h1, h2, h3⟩ := h.len;refine kR FnE hgd x y ho B N m c v l ls A hx hy h1 hr (ap h.le h.bel.size) (by omega) fun v' w' e1 e2 => hk v' w' ?_ e2
 obtain ⟨⟨l0, _, _⟩, h5, h6⟩ := h;have hK : ∀ b, Btw B w.heap.size b -> Btw B w'.heap.size b := fun b hb => ⟨hb.1, aq hb.2 e2.size⟩
 exact ⟨⟨l ++ ls, e1, ((fz.grow h1 e2 h2).append (fz.grow h1 e2 hs)).mh (fun _ _ => rfl) hK⟩, h5.grown e2 (ap h6 h5.size) (fun k hk => h1.jZ k hk), h6⟩
theorem tN (w : World) (s : Fv) : RdE FnE (w.alloc (.cells (FnE.cel s).toArray 112)) (w.heap.size + 1) (some ⟨w.heap.size, 0, none⟩) 1 [s] := fp (E := FnE) (l := [s]) w #[s.val] 112 rfl
theorem vo (h : fD K w p s t) : fz K w p [s] [t] := ⟨h, trivial⟩
end
theorem wC (w : World) (p : Nat) : Calls prog 64 #[.pointer (some ⟨p, 0, none⟩)] w fun e w' => ∃ r, e = .returned r /\ me w.heap.size w w' p r er := by
 have HB0 := af (Below.refl w.heap.size w);go_enter func64, ntmps64;go_wp2_with fail
 go_loopw [3, 5] (fun v i wr => ∃ k : Nat, k <= 10 /\ i = .int .i64 k /\ me w.heap.size w wr p v (er.take k)) (fun _ i _ => 10 - (intOf i).toNat)
 case atStart => exact ⟨0, Nat.zero_le _, rfl, me.nil w w aj HB0⟩
 case round =>
  obtain ⟨k, hk, rfl, hl⟩ := hrel;by_cases hlt : k < 10
  ·have HL := af hl;have HTK := af (uO hlt);clear hl;go_upto_region 5 with fail;refine aY 3 ?_;refine ak1 (nz rfl (aaw _)) ?_;refine aD rfl (aC call117 rfl (evc alb (evc alb (evc alb evn)))) ?_;refine (tj (k : Int) aE).mono ?_;rintro e w2 ⟨s, rfl, hs, hb⟩;have HL2 := af (HL.out.below hb);have HS2 := af (hs.below (B' := w.heap.size) (C' := w2.heap.size) aj ak HL.out.bel.size aj);clear hs hb;refine bp ?_;refine ak1 (dZ (E := FnE) (a := s) rfl alb rfl (by show 1 <= _; omega)) ?_;have HL3 := af (HL2.out.below ((Below.refl w2.heap.size w2).alloc aj (.cells (FnE.cel s).toArray 112)));have HS3 := af (vo (HS2.out.below aj ((Below.refl w2.heap.size w2).alloc aj (.cells (FnE.cel s).toArray 112)) aj ((Below.refl w2.heap.size w2).alloc aj (.cells (FnE.cel s).toArray 112)).size));change wpList _ _ _ _ _ (w2.alloc (.cells (FnE.cel s).toArray 112));refine jl rfl _ _ rfl (w2.heap.size + 1) 1 1 (some ⟨w2.heap.size, 0, none⟩) rfl rfl HL3 HS3 (tN w2 s) (by rw [List.length_take]; omega) ?_;intro v' w4 hl4 hg4;simp only [aa];refine aQ 1 ?_;rw [<- HTK.out] at hl4;have HL4 := af hl4;clear hl4 hg4;go_wp2_with fail;go_roundw
   case rel => exact ⟨k + 1, by omega, by go_num, HL4⟩
   case measure => simp [intOf]; omega
  ·have hkt : k = 10 := by omega
   subst hkt;have HL := af hl;clear hl;go_wp2_with fail;go_ret;exact ⟨_, rfl, HL⟩
theorem tr (r p : Nat) (l : List Blk) : (ow r p l).length = l.length := by simp [ow]
theorem aas {r p k : Nat} {l : List Blk} (h : k < l.length) : (ow r p l).take (k + 1) = (ow r p l).take k ++ [.wr (cx r (p + k)) (l.getD k aE)] := by
 rw [List.take_add_one]
 congr 1
 unfold ow;rw [List.getElem?_map, List.getElem?_range h]
 rfl
theorem aef {r p : Nat} {l : List Blk} : (ow r p l).take l.length = ow r p l := List.take_of_length_le (by rw [tr]; exact aj)
theorem ad1 {p q : Nat} {v : Value} {x : LgS} (w : World) (y : Nte) (A : Option Addr) (n c N0 : Nat) (R : List Blk) (h : PLg w p q v x) (hy : 1 <= y.cells /\ y.cells <= 32) (hs : 40 <= x.size /\ x.size <= 256) (hp : y.pos + bF y <= 4611686018427387904) (hR : RdB w N0 A n R) (hN0 : N0 <= w.heap.size) (hn : bF y = n) : Calls prog 91 #[.pointer (some ⟨p, 0, none⟩), nte y, .slice A n c] w fun e w' => ∃ r, e = .returned r /\ me w.heap.size w w' p r (ow x.size y.pos R) := by
 have htk : 2 <= bF y /\ bF y <= 34 := by unfold bF hd; omega
 have HN : Hid (2 <= n /\ n <= 34) := af (by omega);have HRL : Hid (R.length = n) := af hR.1;have HNT := af hn;have HRR := af hR;have HN0 := af hN0;have HLE0 := af (Nat.le_refl w.heap.size);obtain ⟨k1, k2, k3⟩ := dY w y;have HY := af k1;have HBW := af k2;have HLE := af k3;have HC := af (rV (w.alloc (.cells (bj y).toArray 107)) y (h.below k2) hy hs hp);clear h hy hs hp htk k1 k2 k3 hR hn hN0;go_enter func91, ntmps91;go_upto_region 1 with (first | (refine au rfl (dv rfl rfl) ?_) | fail);generalize w.alloc (.cells (bj y).toArray 107) = w1 at *;refine aY 1 ?_;refine ak1 (bI (c := y) rfl alb HY.out.range) ?_;refine aD rfl (aC call142 rfl (evc alb (evc alb evn))) ?_;refine HC.out.mono ?_;rintro e w2 ⟨r, rfl, hm, hb⟩;rw [HNT.out] at hm;refine bp ?_;refine runs 3 ?_;refine aQ 2 ?_;obtain ⟨g, c1, rfl, hbg, hg, hc1, hc2⟩ := hm.pu (by rw [mv]; have := HN.out.1; omega);rw [mv] at hm hc1 ⊢;have HM := af (hm.base (B' := w.heap.size) (by have := HLE.out; omega));have HBB := af (HBW.out.trans (hb.mono (by have := HLE.out; omega)));clear hm hb hbg hg hc1 hc2 HC HY HBW;go_wp2_with fail
 go_loopw [9, 20] (fun v i wr => ∃ k : Nat, k <= n /\ i = .int .i64 k /\ me w.heap.size w wr p v ((ow x.size y.pos R).take k) /\ aO dw wr w.heap.size (.slice (some ⟨g, 0, none⟩) n c1) (sh x.size y.pos n)) (fun _ i _ => n - (intOf i).toNat)
 case atStart => exact ⟨0, Nat.zero_le _, rfl, me.nil w _ HLE0 HBB, HM⟩
 case round =>
  clear HM HBB;obtain ⟨k, hk, rfl, hl, hm⟩ := hrel;have hn34 := HN.out.2;by_cases hlt : k < n
  ·obtain ⟨hc, _⟩ := hm.adu hlt;rw [yY hlt] at hc;obtain ⟨gb, off, hA, hgb, hrg⟩ := ((HRR.out.more HN0).below hl.bel).2 k hlt;subst hA;have HIX := af hc;have HRG := af hrg;have HL := af hl;have HM := af hm;have HTK := af (aas (r := x.size) (p := y.pos) (l := R) (k := k) (by rw [HRL.out]; exact hlt));clear hl hm hc hgb hrg;go_upto_region 5 with fail;refine aY 1 ?_;refine ak1 (k6 rfl alb alb hlt) ?_;refine ak1 (aA rfl alb (bm HIX)) ?_;refine aQ 2 ?_;go_upto_region 6 with fail;refine aY 3 ?_;refine runs 2 ?_;refine ak1 (d6 rfl alb alb hlt) ?_;refine ak1 (aU (c := R.getD k aE) rfl alb HRG) ?_;refine aD rfl (aC call117 rfl (evc alb (evc alb (evc alb evn)))) ?_;refine (tj (cx x.size (y.pos + k)) (R.getD k aE)).mono ?_;rintro e w2 ⟨s, rfl, hs, hb⟩;have HL2 := af (HL.out.below hb);have HM2 := af (HM.out.below hb);have HS2 := af (hs.below (B' := w.heap.size) (C' := w2.heap.size) aj ak HL.out.bel.size aj);clear hs hb;refine bp ?_;refine ak1 (dZ (E := FnE) (a := s) rfl alb rfl (by show 1 <= _; omega)) ?_;have HL3 := af (HL2.out.below ((Below.refl w2.heap.size w2).alloc aj (.cells (FnE.cel s).toArray 112)));have HM3 := af (HM2.out.below ((Below.refl w2.heap.size w2).alloc aj (.cells (FnE.cel s).toArray 112)));have HS3 := af (vo (HS2.out.below aj ((Below.refl w2.heap.size w2).alloc aj (.cells (FnE.cel s).toArray 112)) aj ((Below.refl w2.heap.size w2).alloc aj (.cells (FnE.cel s).toArray 112)).size));change wpList _ _ _ _ _ (w2.alloc (.cells (FnE.cel s).toArray 112));refine jl rfl _ _ rfl (w2.heap.size + 1) 1 1 (some ⟨w2.heap.size, 0, none⟩) rfl rfl HL3 HS3 (tN w2 s) (by rw [List.length_take]; omega) ?_;intro v' w4 hl4 hg4;simp only [aa];refine aQ 1 ?_;rw [<- HTK.out] at hl4;have HL4 := af hl4;obtain ⟨l3, hl31, _⟩ := HL3.out.len;have HM4 := af (HM3.out.kept hg4 (HM3.out.other hl31 (by decide)));clear hl4 hg4 hl31;go_wp2_with fail;go_roundw
   case rel => exact ⟨k + 1, by omega, by go_num, HL4, HM4⟩
   case measure => simp [intOf]; omega
  ·have hkt : k = n := by omega
   rw [hkt, <- HRL.out, aef] at hl;have HL := af hl;clear hl hm;go_wp2_with fail;go_ret;exact ⟨_, rfl, HL⟩
section
variable {α : Type} {E : Elt α} {w : World} {b n c t u : Nat}
theorem aaP (h : t <= c) : (Instr.sliceAt E.s (.slice (some ⟨b, 0, none⟩) n c) none (some (.int .i64 (t : Int))) none).run prog w = .ok (.slice (some ⟨b, 0, none⟩) t c) w := by
 have hs := fP E w;simp [Instr.sliceAt, Instr.slice, Instr.sliceBounds, Instr.sliceBound, asIntOf, run_underlying E.und, hs, add_mid];intro hh; omega
theorem zd (h : t <= n) (hn : n <= c) : (Instr.sliceAt E.s (.slice (some ⟨b, 0, none⟩) n c) (some (.int .i64 (t : Int))) none none).run prog w = .ok (.slice (some ⟨b, if c = t then 0 else t * E.n, none⟩) (n - t) (c - t)) w := by
 have hs := fP E w;have e1 : (0 <= (t : Int) /\ (t : Int) <= (n : Int)) := by omega
 simp [Instr.sliceAt, Instr.slice, Instr.sliceBounds, Instr.sliceBound, asIntOf, run_underlying E.und, hs, add_mid, e1, h];by_cases hct : c = t
 ·rw [if_pos hct, if_pos hct]
 ·rw [if_neg hct, if_neg hct]
theorem aab (h1 : u < t) (h : t <= c) : (Instr.sliceAt E.s (.slice (some ⟨b, 0, none⟩) n c) (some (.int .i64 (u : Int))) (some (.int .i64 (t : Int))) none).run prog w = .ok (.slice (some ⟨b, u * E.n, none⟩) (t - u) (c - u)) w := by
 have hs := fP E w;have e1 : (0 <= (t : Int) /\ (t : Int) <= (c : Int)) := by omega
 have e2 : (0 <= (u : Int) /\ (u : Int) <= (t : Int)) := by omega
 have e3 : c ≠ u := by omega
 simp [Instr.sliceAt, Instr.slice, Instr.sliceBounds, Instr.sliceBound, asIntOf, run_underlying E.und, hs, add_mid, e1, e2, e3, h, Nat.le_of_lt h1]
theorem rY (h1 : t <= n) (h : n <= c) : (Instr.sliceAt E.s (.slice (some ⟨b, 0, none⟩) n c) (some (.int .i64 0)) (some (.int .i64 (t : Int))) (some (.int .i64 (n : Int)))).run prog w = .ok (.slice (some ⟨b, 0, none⟩) t n) w := by
 have hs := fP E w;have e1 : (0 <= (n : Int) /\ (n : Int) <= (c : Int)) := by omega
 have e2 : (0 <= (t : Int) /\ (t : Int) <= (n : Int)) := by omega
 simp [Instr.sliceAt, Instr.slice, Instr.sliceBounds, Instr.sliceBound, asIntOf, run_underlying E.und, hs, add_mid, e1, e2, h, h1]
end
section
variable {ρ : Operand -> Value} {o : Oper} {x y z u : Operand} {w : World} {p q a b c : Value} {t : TypeId}
theorem acA (ho : o.op = .slice t x none (some y) none) (hx : ρ x = p) (hy : ρ y = a) (h : (Instr.sliceAt t p none (some a) none).run prog w = .ok q w) : (execOp ρ o).run prog w = .ok (.value q) w := by
 unfold execOp;simp only [ho, hx, hy, Option.map_some, Option.map_none, Sem.run_bind, h, Result.andThen_ok, Sem.run_pure]
theorem abF (ho : o.op = .slice t x (some y) none none) (hx : ρ x = p) (hy : ρ y = a) (h : (Instr.sliceAt t p (some a) none none).run prog w = .ok q w) : (execOp ρ o).run prog w = .ok (.value q) w := by
 unfold execOp;simp only [ho, hx, hy, Option.map_some, Option.map_none, Sem.run_bind, h, Result.andThen_ok, Sem.run_pure]
theorem ade (ho : o.op = .slice t x (some y) (some z) none) (hx : ρ x = p) (hy : ρ y = a) (hz : ρ z = b) (h : (Instr.sliceAt t p (some a) (some b) none).run prog w = .ok q w) : (execOp ρ o).run prog w = .ok (.value q) w := by
 unfold execOp;simp only [ho, hx, hy, hz, Option.map_some, Option.map_none, Sem.run_bind, h, Result.andThen_ok, Sem.run_pure]
theorem p5 (ho : o.op = .slice t x (some y) (some z) (some u)) (hx : ρ x = p) (hy : ρ y = a) (hz : ρ z = b) (hu : ρ u = c) (h : (Instr.sliceAt t p (some a) (some b) (some c)).run prog w = .ok q w) : (execOp ρ o).run prog w = .ok (.value q) w := by
 unfold execOp;simp only [ho, hx, hy, hz, hu, Option.map_some, Option.map_none, Sem.run_bind, h, Result.andThen_ok, Sem.run_pure]
theorem xt {ac : Act} {w' : World} {v : Value} (ho : o.op = .call { callee := .builtin .clear, args := #[x], argTypes := #[t] }) (hx : ac.eval x = v) (hrun : (Builtin.clear_ #[t] o.type #[v]).run prog w = .ok (.tuple #[]) w') : (execOp ac.eval o).run prog w = .ok (.value (.tuple #[])) w' := by
 simp [execOp, ho, resolve, invoke, builtin, hx, hrun, Result.andThen]
end
def nu {α : Type} (E : Elt α) (k : Nat) : List Value := (Builtin.zeroCells E.z.cells k).toList
theorem mD {α : Type} (E : Elt α) (k : Nat) : (nu E k).length = k * E.n := by simp [nu, Builtin.zeroCells, E.zc]
theorem aa7 {α : Type} (E : Elt α) (k : Nat) (h : ∀ u ∈ E.z.cells, u.oneCell' = true) : ∀ u ∈ nu E k, u.oneCell' = true := by
 intro u hu;have hp := E.pos;have hz := E.zc;simp only [nu, Builtin.zeroCells, Array.toList_map, List.mem_map, Array.toList_range] at hu;obtain ⟨i, _, rfl⟩ := hu;have hlt : i % E.z.cells.size < E.z.cells.size := Nat.mod_lt _ (by omega);rw [getElem!_pos E.z.cells (i % E.z.cells.size) hlt];exact h _ (Array.getElem_mem hlt)
theorem wo {α : Type} (E : Elt α) (h1 : ∀ u ∈ E.z.cells, u.oneCell' = true) (w : World) (ty b off k c : Nat) (hk : 0 < k) (hc : ∀ j, j < k * E.n -> (w.cell? ⟨b, off + j, none⟩).isSome = true) (hf : ∀ j, j < k * E.n -> w.frozen? ⟨b, off + j, none⟩ = false) :
  (Builtin.clear_ #[E.s] ty #[.slice (some ⟨b, off, none⟩) k c]).run prog w = .ok (.tuple #[]) (w.setCells b off (nu E k)) := by
 have hst := run_storeCells_cells (P := prog) b off (nu E k) 0 w (by simpa [mD] using hc) (by simpa [mD] using hf) (aa7 E k h1);simp only [Nat.add_zero] at hst;obtain ⟨m, rfl⟩ : ∃ m, k = m + 1 := ⟨k - 1, by omega⟩;have hz := jH E w;unfold nu at hst ⊢;simp [Builtin.clear_, run_underlying E.und, hz, hst]
theorem vX {w : World} : (Instr.sliceAt 57 (.slice none 0 0) (some (.int .i64 0)) (some (.int .i64 0)) (some (.int .i64 0))).run prog w = .ok (.slice none 0 0) w := by
 have hs := fP bi w;have hu : prog.underlying 57 = some (.slice 107) := underlying57;have hs' : (sizeOf 107).run prog w = .ok 4 w := hs;simp [Instr.sliceAt, Instr.slice, Instr.sliceBounds, Instr.sliceBound, asIntOf, run_underlying hu, hs']
section
variable {w : World} {B : Nat} {v : Value} {l : List Nte}
theorem aeO (hm : aO bi w B (.slice none 0 0) []) : Calls prog 96 #[.slice none 0 0, .int .i64 0, .int .i64 0] w fun e w' => e = .returned (.slice none 0 0) /\ w = w' := by
 clear hm;go_enter func96, ntmps96;go_upto_region 1 with fail;refine aY 3 ?_;refine runs 1 ?_;refine ak1 (cI underlying57 rfl alb) ?_;refine ak1 (p5 rfl alb alb alb alb vX) ?_;refine ah ?_;go_wp2_with fail;go_ret;exact ⟨rfl, rfl⟩
theorem afQ {g n c : Nat} (h : n <= c) : Calls prog 96 #[.slice (some ⟨g, 0, none⟩) n c, .int .i64 0, .int .i64 0] w fun e w' => e = .returned (.slice (some ⟨g, 0, none⟩) n c) /\ w = w' := by
 go_enter func96, ntmps96;go_upto_region 1 with fail;refine aY 3 ?_;refine runs 1 ?_;refine ak1 (cI underlying57 rfl alb) ?_;refine ak1 (p5 rfl alb alb alb alb (rY (E := bi) (t := 0) (by omega) h)) ?_;refine ah ?_;go_wp2_with fail;go_ret;exact ⟨rfl, rfl⟩
theorem aeJ {g n c k : Nat} {cur : Array Value} (hl : l.length = n) (hk : k <= n) (hB : B <= g) (hg : w.heap[g]? = some (.cells cur bi.t (0, 0))) (hnc : n <= c) (hcm : c <= maxLen) (hcs : cur.size = c * bi.n) (ht : cur.toList.take (n * bi.n) = bY bi l) :
  let w2 := w.setRow g (bY bi (l.drop k) ++ cur.toList.drop ((n - k) * bi.n)).toArray
  (∀ j, j < k * bi.n -> (w2.cell? ⟨g, (n - k) * bi.n + j, none⟩).isSome = true) /\ (∀ j, j < k * bi.n -> w2.frozen? ⟨g, (n - k) * bi.n + j, none⟩ = false) /\
   aO bi (w2.setCells g ((n - k) * bi.n) (nu bi k)) B (.slice (some ⟨g, 0, none⟩) (n - k) c) (l.drop k) /\ Only (fun b => b = g) w (w2.setCells g ((n - k) * bi.n) (nu bi k)) := by
 intro w2;have hfl : (bY bi (l.drop k)).length = (n - k) * bi.n := by rw [cm, List.length_drop, hl]
 have hcl : cur.toList.length = c * bi.n := by simpa using hcs
 have hp := bi.pos;have hmul : (n - k) * bi.n + k * bi.n = n * bi.n := by rw [<- Nat.add_mul]; congr 1; omega
 have hle : n * bi.n <= c * bi.n := Nat.mul_le_mul_right _ hnc;have h2 : w2.heap[g]? = some (.cells (bY bi (l.drop k) ++ cur.toList.drop ((n - k) * bi.n)).toArray bi.t (0, 0)) := setRow_heap w g cur _ _ _ hg;have h3 : (bY bi (l.drop k) ++ cur.toList.drop ((n - k) * bi.n)).length = c * bi.n := by rw [List.length_append, hfl, List.length_drop, hcl]; omega
 have hcell : ∀ j, j < c * bi.n -> (w2.cell? ⟨g, j, none⟩).isSome = true := fun j hj => by
  rw [cell_of_row w2 g j _ _ _ h2, List.getElem?_toArray, List.getElem?_eq_getElem (by rw [h3]; exact hj)]
  rfl
 refine ⟨fun j hj => hcell _ (by omega), fun j hj => frozen_of_row w2 g _ _ _ h2, ?_, ?_⟩
 ·have hsp : bY bi (l.drop k) ++ cur.toList.drop ((n - k) * bi.n) = bY bi (l.drop k) ++ (cur.toList.drop ((n - k) * bi.n)).take (k * bi.n) ++ (cur.toList.drop ((n - k) * bi.n)).drop (k * bi.n) := by
   rw [List.append_assoc, List.take_append_drop]
  rw [hsp] at h2;have hmid : ((cur.toList.drop ((n - k) * bi.n)).take (k * bi.n)).length = (nu bi k).length := by rw [mD, List.length_take, List.length_drop, hcl]; omega
  have h4 := heap_put g bi.t _ (nu bi k) _ (bY bi (l.drop k)) w2 hmid h2;rw [hfl, List.append_assoc] at h4;refine aO.tf (by rw [List.length_drop, hl]) hB h4 (by omega) hcm ?_;rw [List.length_append, List.length_append, hfl, mD, List.length_drop, List.length_drop, hcl];omega
 ·obtain ⟨e1, e2, e3, e4⟩ := fC g (nu bi k) ((n - k) * bi.n) w2;refine ⟨e2, e3, e4, by rw [e1]; exact Nat.le_of_eq (size_setRow w g _).symm, fun b hb hne => ?_⟩;rw [fi g (nu bi k) _ w2 b hne];exact setRow_other w g b _ hne
theorem adj : ∀ u ∈ bi.z.cells, u.oneCell' = true := by
 intro u hu;have : u ∈ bj bc := by
  have e : bi.z.cells = (bj bc).toArray := rfl;rw [e] at hu
  simpa using hu
 exact lh bc u this
theorem ah2 {g n c k : Nat} (hm : aO bi w B (.slice (some ⟨g, 0, none⟩) n c) l) (hk : k <= n) (h0 : 0 < k) (h8 : n <= 1000) : Calls prog 96 #[.slice (some ⟨g, 0, none⟩) n c, .int .i64 0, .int .i64 (k : Int)] w fun e w' => ∃ v', e = .returned v' /\ aO bi w' B v' (l.drop k) /\ (∀ b, v'.ownBlock = some b -> b = g) /\ Only (fun b => b = g) w w' := by
 obtain ⟨cur, hl, hB, hg, hnc, hcm, hcs, ht⟩ : ∃ cur : Array Value, l.length = n /\ B <= g /\ w.heap[g]? = some (.cells cur bi.t (0, 0)) /\ n <= c /\ c <= maxLen /\ cur.size = c * bi.n /\ cur.toList.take (n * bi.n) = bY bi l := by
  rcases hm.2 with ⟨hv, _⟩ | ⟨g', cap, cur, hv, hbg, hg, h1, h2, h3, ht⟩
  ·cases hv
  ·injection hv with e1 e2 e3;injection e1 with e1;injection e1 with e1;subst e1 e2 e3;exact ⟨cur, rfl, hbg, hg, h1, h2, h3, ht⟩
 have hrd := hm.rd;obtain ⟨i0, hi, hz0, hz1, hz2⟩ := info_parts bi.info;have hcl : cur.toList.length = c * bi.n := by simpa using hcs
 have hmul : (n - k) * bi.n + k * bi.n = n * bi.n := by rw [<- Nat.add_mul]; congr 1; omega
 have hle : n * bi.n <= c * bi.n := Nat.mul_le_mul_right _ hnc;have hfl : (bY bi (l.drop k)).length = (n - k) * bi.n := by rw [cm, List.length_drop, hl]
 have hsrc : ∀ j u, (bY bi (l.drop k))[j]? = some u -> w.drew.cell? ((⟨g, if c = k then 0 else k * bi.n, none⟩ : Addr).add j) = some u := fun j u hj => by
  have hjl : j < (n - k) * bi.n := by have := (List.getElem?_eq_some_iff.1 hj).1; rwa [hfl] at this
  have hck : c ≠ k := by
   rintro rfl;have : n - c = 0 := by omega
   rw [this] at hjl;omega
  rw [if_neg hck, add_mid]
  show w.cell? _ = _
  have hd : bY bi l = bY bi (l.take k) ++ bY bi (l.drop k) := by rw [<- iz, List.take_append_drop]
  have hlt : (bY bi (l.take k)).length = k * bi.n := by rw [cm, List.length_take, hl, Nat.min_eq_left hk]
  rw [cell_of_row w g _ cur bi.t (0, 0) hg, <- Array.getElem?_toList];have hx : (bY bi l)[k * bi.n + j]? = some u := by rw [hd, List.getElem?_append_right (by omega), hlt, Nat.add_sub_cancel_left]; exact hj
  rw [<- ht, List.getElem?_take_of_lt (by omega)] at hx;exact hx
 have hap := run_append_room (P := prog) (w := w.drew) bi.s 57 bi.t i0 bi.und hi g 0 c cur hg ⟨g, if c = k then 0 else k * bi.n, none⟩ (n - k) (c - k) (bY bi (l.drop k)) (by rw [hfl, hz1]) hsrc (nk bi _) (by omega) (by rw [hfl]; omega);rw [Nat.zero_add, Nat.zero_mul, Nat.zero_add, List.take_zero, List.nil_append, hfl] at hap;obtain ⟨of, hof⟩ : ∃ of, (if c = k then 0 else k * bi.n) = of := ⟨_, rfl⟩;have HCUT : Hid (∀ w : World, (Instr.sliceAt bi.s (.slice (some ⟨g, 0, none⟩) n c) (some (.int .i64 (k : Int))) none none).run prog w = .ok (.slice (some ⟨g, of, none⟩) (n - k) (c - k)) w) := af (fun w => by rw [<- hof]; exact zd hk hnc);rw [hof] at hap;obtain ⟨d1, d2, d3, d4⟩ := aeJ (w := w.drew) hl hk hB hg hnc hcm hcs ht;have HAP := af hap;have HCL := af (fun ty => wo bi adj _ ty g ((n - k) * bi.n) k (c - (n - k)) h0 d1 d2);have HM := af d3;have HO := af ((Only.of_below (fun b => b = g) (bd (Below.refl w.heap.size w))).trans d4 fun _ e => .inl e);have HNE : Hid (((0 : Int) == (k : Int)) = false) := af (by simp; omega);have HCT := af hnc;have HSUB : Hid (n - (n - k) = k) := af (by omega);clear hap d1 d2 d3 d4 hm hrd hi hz0 hz1 hz2 hcl hmul hle hfl hsrc hg hcm hcs ht hl hB hnc hof;go_enter func96, ntmps96;go_upto_region 1 with fail;refine aY 3 ?_;refine runs 1 ?_;refine ak1 (cI underlying57 rfl alb) ?_;refine ak1 (p5 rfl alb alb alb alb (rY (E := bi) (t := k) hk HCT)) ?_;refine ah ?_;go_upto_region 2 with fail;refine aY 2 ?_;refine ak1 (aN false rfl alb alb HNE) ?_;refine ah ?_;go_upto_region 5 with fail;refine bk (fun _ => True) 7 (by kernel_rfl) ?_;change cu _ _ _ _ _ _ 8 _ _ w.drew;refine ak5 0 rfl (fun _ hw => aB rfl alb) trivial ?_;refine ak5 1 rfl (fun _ hw => aB rfl alb) trivial ?_;refine ak5 2 rfl (fun _ hw => acA rfl alb alb (aaP (E := bi) (t := 0) (by omega))) trivial ?_;refine ak5 3 rfl (fun _ hw => aB rfl alb) trivial ?_;refine ak5 4 rfl (fun _ hw => aB rfl alb) trivial ?_;refine ak5 5 rfl (fun _ hw => abF rfl alb alb (HCUT.out _)) trivial ?_;refine bh 6 rfl (by kernel_rfl) rfl (gC (E := bi) rfl alb alb HAP.out) (fun _ => trivial) ?_;simp only [aa];refine bh 7 rfl (by kernel_rfl) rfl (bu rfl alb) (fun e => absurd rfl e) ?_;simp only [aa];refine bK (by kernel_rfl) ?_ _;go_upto_region 6 with fail;refine aY 2 ?_;refine ak1 (cI underlying57 rfl alb) ?_;refine runs 1 ?_;refine ak1 (ade rfl alb alb alb (aab (E := bi) (by omega) HCT)) ?_;refine au rfl (xt rfl alb (by rw [HSUB.out]; exact HCL.out _)) ?_;simp only [aa];refine ah ?_;go_wp2_with fail;go_ret;exact ⟨_, rfl, HM, fun b hb => by injection hb with hb; exact hb.symm, HO⟩
theorem aks (k : Nat) (hm : aO bi w B v l) (hk : k <= l.length) (h8 : l.length <= 1000) : Calls prog 96 #[v, .int .i64 0, .int .i64 (k : Int)] w fun e w' => ∃ v', e = .returned v' /\ aO bi w' B v' (l.drop k) /\ (∀ b, v'.ownBlock = some b -> v.ownBlock = some b) /\ Only (fun b => v.ownBlock = some b) w w' := by
 rcases Nat.eq_zero_or_pos k with rfl | h0
 ·have hpost : ∃ v', Ending.returned v = .returned v' /\ aO bi w B v' (l.drop 0) /\ (∀ b, v'.ownBlock = some b -> v.ownBlock = some b) /\ Only (fun b => v.ownBlock = some b) w w := ⟨v, rfl, hm, fun b e => e, Only.refl _ _⟩;obtain ⟨A, c, rfl, h1, h2⟩ := hm.form;rcases hm.2 with ⟨hv, hl0⟩ | ⟨g, cap, cur, hv, _⟩
  ·have hl : l = [] := List.eq_nil_of_length_eq_zero hl0;subst hl;injection hv with e1 e2 e3;subst e1 e3;exact (aeO hm).mono fun e w' ⟨he, hw⟩ => by subst he hw; exact hpost
  ·injection hv with e1 e2 e3;subst e1 e3;exact (afQ h1).mono fun e w' ⟨he, hw⟩ => by subst he hw; exact hpost
 ·obtain ⟨g, c, rfl, _, _, h1, h2⟩ := show ∃ g c, v = .slice (some ⟨g, 0, none⟩) l.length c /\ B <= g /\ g < w.heap.size /\ l.length <= c /\ c <= maxLen from by
   rcases hm.2 with ⟨rfl, hl0⟩ | ⟨g, cap, cur, rfl, hbg, hg, h1, h2, _⟩
   ·omega
   ·exact ⟨g, cap, rfl, hbg, aR hg, h1, h2⟩
  exact (ah2 hm hk h0 h8).mono fun e w' ⟨v', he, k1, k2, k3⟩ => ⟨v', he, k1, fun b hb => by rw [k2 b hb]; rfl, ⟨k3.os, k3.tape, k3.output, k3.size, fun b hb hne => k3.block b hb fun e => hne (by rw [e]; rfl)⟩⟩
end
section
variable {P : Program} {ops : Array Oper} {Q : Exit -> Act -> World -> Prop} {md : Region.Mode} {S T : World -> Prop} {z : Nat}
def i1 (S T : World -> Prop) (z : Nat) (listed : Array Bool) (w : World) : Prop := (listed.getD z false = false -> S w) /\ (listed.getD z false = true -> T w)
def fL (P : Program) (md : Region.Mode) (ops : Array Oper) (Q : Exit -> Act -> World -> Prop) (S T : World -> Prop) (z : Nat) : Nat -> Array Bool -> Act -> World -> Prop
 |0, listed, a, w => Region.ready md ops listed = [] /\ Q .normal a w
 |fuel + 1, listed, a, w =>
  (Region.ready md ops listed = [] -> Q .normal a w) /\
  ∀ i ∈ Region.ready md ops listed, wpOp P ops Q i (fun a' w' => i1 S T z (listed.setIfInBounds i true) w' /\ fL P md ops Q S T z fuel (listed.setIfInBounds i true) a' w') a w
theorem pP : ∀ (fuel : Nat) (listed : Array Bool) (a : Act) (w : World), fL P md ops Q S T z fuel listed a w -> wpAny P md ops Q fuel listed a w
 |0, _, _, _, h => h
 |fuel + 1, _, _, _, h => ⟨h.1, fun i hi => wpOp_mono (fun a' w' h' => pP fuel _ a' w' h'.2) (h.2 i hi)⟩
theorem jx {l : Array Bool} {i j : Nat} (h : j ≠ i) : (l.setIfInBounds i true).getD j false = l.getD j false := by
 by_cases hj : j < l.size
 ·simp [hj, Array.getElem_setIfInBounds, Ne.symm h]
 ·simp [Array.getElem?_eq_none (Nat.le_of_not_lt hj), hj]
theorem rt {listed : Array Bool} {w : World} {i : Nat} (h : i1 S T z listed w) (hi : i ≠ z) : i1 S T z (listed.setIfInBounds i true) w := by
 unfold i1 at *;rw [jx (Ne.symm hi)];exact h
theorem abO {listed : Array Bool} {w : World} {i : Nat} (h : i1 S T z (listed.setIfInBounds i true) w) (hi : i ≠ z) : i1 S T z listed w := by
 unfold i1 at *;rw [jx (Ne.symm hi)] at h;exact h
theorem mr {i : Nat} {oi : Oper} {v : Value} (hi : ops[i]? = some oi) (hsel : ∀ (j : Nat) (o : Oper) cs b, ops[j]? = some o -> o.op ≠ .select cs b)
  (hQ : ∀ c a w, Q (.panic c) (a.put oi.dst v) w -> Q (.panic c) a w) (hiz : i ≠ z) {U : World -> Prop} (hS : ∀ w, S w -> U w) (hT : js md ops z i = true \/ ∀ w, T w -> U w) :
  ∀ (fuel : Nat) (listed : Array Bool) (a : Act) (w : World),
   (∀ j oj, ops[j]? = some oj -> j ≠ i -> listed.getD j true = false -> (∀ e ∈ oj.after, Region.binds md e = true -> e.on ≠ i) -> oi.apart ops oj = true) ->
   i ∈ Region.ready md ops listed -> (js md ops z i = true -> listed.getD z false = false) -> YieldsIf P ops U oi v a -> i1 S T z listed w ->
   fL P md ops Q S T z fuel (listed.setIfInBounds i true) (a.put oi.dst v) w -> fL P md ops Q S T z (fuel + 1) listed a w := by
 intro fuel;have key : ∀ (listed : Array Bool) (w : World), (js md ops z i = true -> listed.getD z false = false) -> i1 S T z listed w -> U w := fun listed w hz hc => by
  by_cases hl : listed.getD z false = false
  ·exact hS w (hc.1 hl)
  ·rcases hT with h | h
   ·exact absurd (hz h) hl
   ·exact h w (hc.2 (by simpa using hl))
 induction fuel with
 |zero =>
  intro listed a w _ hr hz hy hc H;refine ⟨fun h => (by rw [h] at hr; cases hr), fun j hj => ?_⟩;by_cases hji : j = i
  ·subst hji; exact hy.wpOp hi (key listed w hz hc) ⟨rt hc hiz, H⟩
  ·have := ready_mono hj hji;rw [H.1] at this;cases this
 |succ fuel ih =>
  intro listed a w hfree hr hz hy hc H;refine ⟨fun h => (by rw [h] at hr; cases hr), fun j hj => ?_⟩;by_cases hji : j = i
  ·subst hji; exact hy.wpOp hi (key listed w hz hc) ⟨rt hc hiz, H⟩
  ·have h1 := H.2 j (ready_mono hj hji);obtain ⟨hjun, oj, hoj, hall⟩ := mem_ready.1 hj;have hnot : ∀ e ∈ oj.after, Region.binds md e = true -> e.on ≠ i := fun e he hb heq => by
    have h1 := hall e he hb;rw [heq, yB (mem_ready.1 hr).1] at h1;cases h1
   have h2 := wpOp_putIf hoj (hfree j oj hoj hji hjun hnot) (fun cs b => hsel i oi cs b hi) (fun cs b => hsel j oj cs b hoj) hQ hy h1;have hfree' : ∀ k ok, ops[k]? = some ok -> k ≠ i -> (listed.setIfInBounds j true).getD k true = false ->
     (∀ e ∈ ok.after, Region.binds md e = true -> e.on ≠ i) -> oi.apart ops ok = true := fun k ok hk hki hun hno => by
    refine hfree k ok hk hki ?_ hno;by_cases hjk : j = k
    ·subst hjk; exact hjun
    ·rw [getD_set_ne true hjk] at hun; exact hun
   have hz' : js md ops z i = true -> (listed.setIfInBounds j true).getD z false = false := fun hw => by
    have hjz : j ≠ z := fun e => by
     subst e;exact p7 hw (yB (mem_ready.1 hr).1) hj
    rw [jx (Ne.symm hjz)];exact hz hw
   refine wpOp_mono (fun a' w' h3 => ?_) h2;have hc' : i1 S T z (listed.setIfInBounds j true) w' := by
    have h4 := h3.2.1;rw [Array.setIfInBounds_comm _ _ (Ne.symm hji)] at h4;exact abO h4 hiz
   refine ⟨hc', ih (listed.setIfInBounds j true) a' w' hfree' (ready_mono hr (Ne.symm hji)) hz' h3.1 hc' ?_⟩;rw [Array.setIfInBounds_comm _ _ hji];exact h3.2.2
theorem wE {rs : List Nat} {fuel : Nat} {listed : Array Bool} {a : Act} {w : World} (hr : Region.ready md ops listed = rs) (hne : rs ≠ [])
  (h : ∀ i ∈ rs, wpOp P ops Q i (fun a' w' => i1 S T z (listed.setIfInBounds i true) w' /\ fL P md ops Q S T z fuel (listed.setIfInBounds i true) a' w') a w) : fL P md ops Q S T z (fuel + 1) listed a w :=
 ⟨fun h0 => absurd (hr ▸ h0) hne, hr ▸ h⟩
theorem vE {listed : Array Bool} {a : Act} {w : World} (hr : Region.ready md ops listed = []) (h : Q .normal a w) :
  ∀ fuel, fL P md ops Q S T z fuel listed a w
 |0 => ⟨hr, h⟩
 |_ + 1 => ⟨fun _ => h, by rw [hr]; simp⟩
theorem qL {id : Nat} {a : Act} {w : World} (S T : World -> Prop) (z : Nat) (hm : P.follows .mixedOrders = true)
  (h : fL P .any ops Q S T z ops.size (Array.replicate ops.size false) a w.drew) : (Code.region id ops true).wp P Q a w :=
 wp_region_any hm (pP _ _ _ _ h)
end
section
variable {P : Program} {md : Region.Mode} {l : List Oper} {Q : Exit -> Act -> World -> Prop} {S T : World -> Prop} {z fuel : Nat} {listed : Array Bool} {a : Act} {w w' : World} {o : Oper} {v : Value}
theorem kt (i : Nat) (hi : l[i]? = some o) (hs : Region.noSelect l.toArray = true) (hf : Region.free md l.toArray listed i = true) (hr : (Region.ready md l.toArray listed).contains i = true) (hiz : i ≠ z) (hwz : js md l.toArray z i = true) (hlz : listed.getD z false = false)
  (hw : Region.wanted o (yielded l.toArray a.tmps) = true) (h : ∀ w, S w -> (execOp a.eval o).run P w = .ok (.value v) w) (hQ : ∀ c a w, Q (.panic c) (a.put o.dst v) w -> Q (.panic c) a w) (hS : S w)
  (hk : fL P md l.toArray Q S T z fuel (listed.setIfInBounds i true) (a.put o.dst v) w) : fL P md l.toArray Q S T z (fuel + 1) listed a w :=
 mr (by simpa using hi) (Region.noSelect_spec hs) hQ hiz (U := S) (fun _ h => h) (.inl hwz) fuel listed a w (Region.free_spec (by simpa using hi) hf) (by simpa using hr) (fun _ => hlz) (.inl ⟨hw, h⟩) ⟨fun _ => hS, fun e => absurd (e.symm.trans hlz) (by decide)⟩ hk
theorem akZ (i : Nat) (hi : l[i]? = some o) (h : ∀ w, S w -> (execOp a.eval o).run P w = .ok (.value v) w) (hS : S w) (hk : fL P md l.toArray Q S T z fuel (listed.setIfInBounds i true) (a.put o.dst v) w) (hs : Region.noSelect l.toArray = true := by kernel_rfl) (hf : Region.free md l.toArray listed i = true := by kernel_rfl) (hr : (Region.ready md l.toArray listed).contains i = true := by kernel_rfl) (hiz : i ≠ z := by decide) (hwz : js md l.toArray z i = true := by kernel_rfl) (hlz : listed.getD z false = false := by kernel_rfl) (hw : Region.wanted o (yielded l.toArray a.tmps) = true := by exact rfl) (hQ : ∀ c a w, Q (.panic c) (a.put o.dst v) w -> Q (.panic c) a w := by exact fun _ _ _ h => h) : fL P md l.toArray Q S T z (fuel + 1) listed a w := kt i hi hs hf hr hiz hwz hlz hw h hQ hS hk
theorem ak6 {l0 l1 : List Value} {ds0 : List Deferred} {i0 : Nat} (i : Nat) (hi : l[i]? = some o) (h : ∀ w, S w -> (execOp (Act.mk l0.toArray ds0).eval o).run P w = .ok (.value v) w) (hS : S w) (hk : fL P md l.toArray Q S T z fuel (listed.setIfInBounds i true) ⟨l1.toArray, ds0⟩ w) (hd : o.dst = some i0 := by exact rfl) (hl : l0.set i0 v = l1 := by simp only [ai] <;> rfl) (hs : Region.noSelect l.toArray = true := by kernel_rfl) (hf : Region.free md l.toArray listed i = true := by kernel_rfl) (hr : (Region.ready md l.toArray listed).contains i = true := by kernel_rfl) (hiz : i ≠ z := by decide) (hwz : js md l.toArray z i = true := by kernel_rfl) (hlz : listed.getD z false = false := by kernel_rfl) (hw : Region.wanted o (yielded l.toArray l0.toArray) = true := by exact rfl) (hQ : ∀ c a w, Q (.panic c) (a.put o.dst v) w -> Q (.panic c) a w := by exact fun _ _ _ h => h) : fL P md l.toArray Q S T z (fuel + 1) listed ⟨l0.toArray, ds0⟩ w := akZ i hi h hS (by have e : Act.put (Act.mk l0.toArray ds0) o.dst v = ⟨l1.toArray, ds0⟩ := (by rw [hd, <- hl]; show Act.mk (l0.toArray.setIfInBounds i0 v) ds0 = _; rw [List.setIfInBounds_toArray]); rw [e]; exact hk) hs hf hr hiz hwz hlz hw hQ
theorem m7 (i : Nat) (hi : l[i]? = some o) (hs : Region.noSelect l.toArray = true) (hf : Region.free md l.toArray listed i = true) (hr : (Region.ready md l.toArray listed).contains i = true) (hiz : i ≠ z) (hwz : js md l.toArray z i = false)
  (hw : Region.wanted o (yielded l.toArray a.tmps) = true) (h : ∀ w, S w \/ T w -> (execOp a.eval o).run P w = .ok (.value v) w) (hQ : ∀ c a w, Q (.panic c) (a.put o.dst v) w -> Q (.panic c) a w) (hc : i1 S T z listed w)
  (hk : fL P md l.toArray Q S T z fuel (listed.setIfInBounds i true) (a.put o.dst v) w) : fL P md l.toArray Q S T z (fuel + 1) listed a w :=
 mr (by simpa using hi) (Region.noSelect_spec hs) hQ hiz (U := fun w => S w \/ T w) (fun _ h => .inl h) (.inr fun _ h => .inr h) fuel listed a w (Region.free_spec (by simpa using hi) hf) (by simpa using hr) (fun e => by rw [hwz] at e; cases e) (.inl ⟨hw, h⟩) hc hk
theorem ak0 (i : Nat) (hi : l[i]? = some o) (h : ∀ w, S w \/ T w -> (execOp a.eval o).run P w = .ok (.value v) w) (hc : i1 S T z listed w) (hk : fL P md l.toArray Q S T z fuel (listed.setIfInBounds i true) (a.put o.dst v) w) (hs : Region.noSelect l.toArray = true := by kernel_rfl) (hf : Region.free md l.toArray listed i = true := by kernel_rfl) (hr : (Region.ready md l.toArray listed).contains i = true := by kernel_rfl) (hiz : i ≠ z := by decide) (hwz : js md l.toArray z i = false := by kernel_rfl) (hw : Region.wanted o (yielded l.toArray a.tmps) = true := by exact rfl) (hQ : ∀ c a w, Q (.panic c) (a.put o.dst v) w -> Q (.panic c) a w := by exact fun _ _ _ h => h) : fL P md l.toArray Q S T z (fuel + 1) listed a w := m7 i hi hs hf hr hiz hwz hw h hQ hc hk
theorem ak7 {l0 l1 : List Value} {ds0 : List Deferred} {i0 : Nat} (i : Nat) (hi : l[i]? = some o) (h : ∀ w, S w \/ T w -> (execOp (Act.mk l0.toArray ds0).eval o).run P w = .ok (.value v) w) (hc : i1 S T z listed w) (hk : fL P md l.toArray Q S T z fuel (listed.setIfInBounds i true) ⟨l1.toArray, ds0⟩ w) (hd : o.dst = some i0 := by exact rfl) (hl : l0.set i0 v = l1 := by simp only [ai] <;> rfl) (hs : Region.noSelect l.toArray = true := by kernel_rfl) (hf : Region.free md l.toArray listed i = true := by kernel_rfl) (hr : (Region.ready md l.toArray listed).contains i = true := by kernel_rfl) (hiz : i ≠ z := by decide) (hwz : js md l.toArray z i = false := by kernel_rfl) (hw : Region.wanted o (yielded l.toArray l0.toArray) = true := by exact rfl) (hQ : ∀ c a w, Q (.panic c) (a.put o.dst v) w -> Q (.panic c) a w := by exact fun _ _ _ h => h) : fL P md l.toArray Q S T z (fuel + 1) listed ⟨l0.toArray, ds0⟩ w := ak0 i hi h hc (by have e : Act.put (Act.mk l0.toArray ds0) o.dst v = ⟨l1.toArray, ds0⟩ := (by rw [hd, <- hl]; show Act.mk (l0.toArray.setIfInBounds i0 v) ds0 = _; rw [List.setIfInBounds_toArray]); rw [e]; exact hk) hs hf hr hiz hwz hw hQ
theorem y5 (i : Nat) (hi : l[i]? = some o) (hr : Region.ready md l.toArray listed = [i]) (hw : Region.wanted o (yielded l.toArray a.tmps) = true) (h : (execOp a.eval o).run P w = .ok .skip w')
  (hc : i1 S T z (listed.setIfInBounds i true) w') (hk : fL P md l.toArray Q S T z fuel (listed.setIfInBounds i true) (a.put o.dst undef) w') : fL P md l.toArray Q S T z (fuel + 1) listed a w :=
 wE hr (by simp) fun j hj => by
  obtain rfl : j = i := by simpa using hj
  unfold wpOp;simp only [List.getElem?_toArray, hi, hw, if_true];refine .inl ?_;unfold Oper.wp;rw [h];exact ⟨hc, hk⟩
theorem nv (hl : listed.getD z false = false) (h : S w) : i1 S T z listed w := ⟨fun _ => h, fun e => absurd (e.symm.trans hl) (by decide)⟩
theorem kj (hl : listed.getD z false = true) (h : T w) : i1 S T z listed w := ⟨fun e => absurd (e.symm.trans hl) (by decide), fun _ => h⟩
end
end Go.Proofs.YtcpbekopbeaflaaGreatDoor
