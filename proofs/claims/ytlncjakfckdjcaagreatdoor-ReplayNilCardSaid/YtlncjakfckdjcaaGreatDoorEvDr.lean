/-
  Drawn regions: the evaluator's is the model's. No statement.
-/
import Derived.Test.YtlncjakfckdjcaaGreatDoorEvZ
set_option linter.all false
set_option maxRecDepth 100000
set_option maxHeartbeats 4000000
namespace Go.Ev
open Go
theorem count_set : ∀ {l : List Bool} {i : Nat}, l[i]? = some false → (l.set i true).countP (fun b => !b) + 1 = l.countP (fun b => !b)
  | [], i, h => by simp at h
  | b :: l, 0, h => by simp at h; subst h; simp
  | b :: l, i + 1, h => by
    have := count_set (l := l) (i := i) (by simpa using h)
    simp only [List.set_cons_succ, List.countP_cons]
    omega
theorem count_zero : ∀ {l : List Bool}, l.countP (fun b => !b) = 0 → ∀ i : Nat, i < l.length → l[i]? = some true
  | [], _, i, h => by simp at h
  | b :: l, hc, i, h => by
    rw [List.countP_cons] at hc
    cases i with
    | zero => cases b <;> simp_all
    | succ i =>
      have := count_zero (l := l) (by omega) i (by simpa using h)
      simpa using this
section
variable {P : Program} {Q : List Nat} {G : Nat} {call : Caller} {N base : Nat} {ops : Array Oper} {h0 hn : H} {t0 tn : Tr SV} {T : List En}
variable {ε0 : Env} {h00 : H} {w0 : World} {a0 : Act} {L : Nat → Prop} {a : Act} {w : World} {c : Nat} {ε : Env} {tS : Tr SV} {hS : H}
theorem callee_none {o : Op} (h : quiet o = true ∨ isAlc o = true) : callee o = none := by
  rcases h with h | h
  · cases o <;> simp only [quiet, Bool.false_eq_true] at h <;> try rfl
    rename_i cc
    simp only [callee]
    split
    · rename_i f hf; rw [hf] at h; cases h
    · rfl
  · cases o <;> simp only [isAlc, Bool.false_eq_true] at h <;> rfl
theorem inv_step (hQ : ∀ t ∈ Q, EqOk P t) (hc : CallOk P G call) {F : Fence} (hF : FW F) {n : Nat} (I : Inv G ε0 h00 w0 a0 N ops base hn t0 T L a w c ε tS hS) (D : Dr P Q G call N ops base h0 hn t0 tn T) (hb0 : h00.nx = base) (Ld : ∀ j, Decidable (L j)) {i : Nat} {e : En} (U : Turn L T i e)
    {K : Act → World → Prop} {Q' : Exit → Act → World → Prop} (hK : ∀ a' w' c' ε' tS' hS', Inv G ε0 h00 w0 a0 N ops base hn t0 T (fun j => L j ∨ j = i) a' w' c' ε' tS' hS' → K a' w') : wpOpIn F n P ops Q' i K a w := by
  obtain ⟨so, ss⟩ := D.step i e U.at_
  have ho : ops[i]? = some e.o := by simpa using so
  have hg := I.gtEq D U
  have hlt := (List.getElem?_eq_some_iff.1 U.at_).1
  have hops : ∀ x ∈ e.o.op.operands, opd G tS x = opd G e.t x := fun x hx => opd_gt fun d hd => hg d (looks_op hx hd)
  have hwant : Region.wanted e.o (yielded ops a.tmps) = e.w := by rw [want_eq I.fr, wantS_congr hg, ← ss.w]
  unfold wpOpIn
  simp only [ho, hwant]
  cases hw : e.w
  · simp only [Bool.false_eq_true, if_false]
    refine ⟨fun f _ => hF.fn f, ?_⟩
    obtain ⟨hv, hh, hob⟩ := ss.no hw
    cases hef : ef e.o
    · obtain ⟨tS', I'⟩ := I.plain D U hef hob (fun _ => hw) (v' := undef) (by rw [hv]; exact undef_R ε)
      exact hK _ _ _ _ _ _ I'
    · obtain ⟨tS', I'⟩ := I.skipEf D U hef hw
      exact hK _ _ _ _ _ _ I'
  · simp only [if_true]
    obtain ⟨y1, y2⟩ := ss.yes hw
    cases hq : quiet e.o.op
    · cases hal : isAlc e.o.op
      · /- an effect -/
        have hef : ef e.o = true := by simp [ef, hq, hal]
        obtain ⟨hci, e1, e2, e3⟩ := I.atEf D U hef
        rw [hal, cond_false] at y1
        have hr : Rep G ε e.h w := I.rp.sub (fun q o h => by
          rw [e2 q, h]
          rintro k' ek' ob' x1 x2 x3 x4 rfl
          rw [e3 k' ek' x1 (ob_alc D x1 x2).1 (by omega)] at h; cases h) e1.symm
        have y1' := (opS_congr (P := P) (Q := Q) (G := G) (call := call) (m := e.h.nx) (h := e.h) hops).trans y1
        refine opS_wp hQ hc hF I.fr hr y1' fun v' w' ε' hv hr' hk => ?_
        obtain ⟨tS', hS', I'⟩ := I.acts D hb0 U hef hv hr' hk Ld
        exact hK _ _ _ _ _ _ I'
      · /- a block is made -/
        rw [hal, cond_true] at y1 y2
        simp only [opS, callee_none (.inr hal)] at y1
        obtain ⟨ob, z1, z2⟩ := op1_alc hal y1
        have hob : e.ob = some ob := by rw [y2, z1, get_addA, if_pos rfl]
        have z3 := (op1_congr (P := P) (Q := Q) (G := G) (m := base + i) (h := hS) hops).trans (z2 hS)
        have hnx := I.nxb
        obtain ⟨nx, w', ε', k1, k2, k3, k4, _⟩ := op1_R hQ I.fr I.rp (m0 := base + i) (I.i5 i e U.at_ hal U.no) (by rw [I.hnx]; omega) z3
        have hnd : ∀ c, e.o.op ≠ .defer c := fun c hcc => by rw [hcc] at hal; cases hal
        refine ⟨fun f _ => hF.fn f, ?_⟩
        rw [Oper.semAt_eq _ _ _ hnd, k1]
        rcases k2 with ⟨v', rfl, hv⟩ | ⟨rfl, hv⟩
        · obtain ⟨tS', I'⟩ := I.makes D hb0 U hal hob hv k3 k4
          exact hK _ _ _ _ _ _ I'
        · obtain ⟨tS', I'⟩ := I.makes D hb0 U hal hob (v' := undef) (by rw [hv]; exact undef_R ε') k3 k4
          exact hK _ _ _ _ _ _ I'
    · /- quiet -/
      have hal : isAlc e.o.op = false := by cases ho' : e.o.op <;> rw [ho'] at hq <;> simp only [quiet, Bool.false_eq_true] at hq <;> rfl
      have hef : ef e.o = false := by simp [ef, hq]
      rw [hal, cond_false] at y2
      obtain ⟨_, mi, m2, _, _⟩ := stat_spec D.st rfl so
      simp only [List.length_nil, Nat.zero_add] at m2
      have hmi : (nth (masks ops.toList []) i).getD 0 = mi := by rw [nth_eq, m2]; rfl
      have hchk : chkQ P Q G base T (masks ops.toList []) i e c (nhl T hn c) = true := by
        obtain ⟨q1, q2⟩ := D.cj i e U.at_ hq hw
        rcases I.prev with h | ⟨k, x, h, hk, hx⟩
        · rw [h, D.nh0]; exact q1
        · rw [h]; exact q2 k x hk hx
      have hallow : allowed (masks ops.toList []) i mi c T 0 = true := by
        refine allowed_of fun k ek hk hke => ?_
        rw [Nat.zero_add]
        obtain ⟨_, mk, mk2, _, _⟩ := stat_spec D.st rfl (D.step k ek hk).1
        simp only [List.length_nil, Nat.zero_add] at mk2
        refine ⟨fun hkc => ?_, fun hkc => ?_⟩
        · rw [nth_eq, mk2]
          simp only [Option.getD_some]
          cases hb : Nat.testBit mk i
          · rfl
          · have hLk : L k := (I.st k ek hk hke).2 hkc
            exact absurd (mask_sub D.st I.closed k (D.step k ek hk).1 mk2 (I.closed k _ hLk (D.step k ek hk).1) i hb) U.no
        · cases hb : Nat.testBit mi k
          · rfl
          · exact absurd ((I.st k ek hk hke).1 (mask_sub D.st I.closed i so m2 U.pre k hb)) hkc
      unfold chkQ at hchk
      rw [hmi, hallow, cond_true] at hchk
      obtain ⟨p1, p2, p3⟩ := addP_spec (base := base) (p := fun i => Nat.ble c i && Nat.testBit mi i) (T := T) (i0 := 0) (h := nhl T hn c)
      generalize addP base (fun i => Nat.ble c i && Nat.testBit mi i) T 0 (nhl T hn c) = X at hchk p1 p2 p3
      cases hop : op1 P Q G (nhl T hn c).nx e.t X e.o.op with
      | none => rw [hop] at hchk; cases hchk
      | some r =>
        rw [hop] at hchk
        obtain ⟨v, hX⟩ := r
        have hv := sveq_eq hchk
        simp only at hv
        subst hv
        obtain ⟨rfl, _⟩ := op1_quiet (m' := 0) hq hop
        have hsub : ∀ q o, hX.get q = some o → hS.get q = some o := fun q o h => by
          by_cases hh : ∃ k ek ob, T[k]? = some ek ∧ ek.ob = some ob ∧ (Nat.ble c (0 + k) && Nat.testBit mi (0 + k)) = true ∧ q = base + (0 + k)
          · obtain ⟨k, ek, ob, x1, x2, x3, rfl⟩ := hh
            have h1 := p2 k ek ob x1 x2 x3
            rw [Nat.zero_add] at x3 h1 h ⊢
            rw [h1] at h; cases h
            simp only [Bool.and_eq_true, Nat.ble_eq] at x3
            exact I.hs1 k ek _ x1 x2 (mask_sub D.st I.closed i so m2 U.pre k x3.2) x3.1
          · rw [p3 q fun k ek ob x1 x2 x3 x4 => hh ⟨k, ek, ob, x1, x2, x3, x4⟩] at h
            exact I.stage_sub D h
        have hr : Rep G ε hX w := I.rp.sub hsub (by rw [p1, I.hnx])
        have hop' := (op1_congr (P := P) (Q := Q) (G := G) (m := (nhl T hn c).nx) (h := hX) hops).trans hop
        obtain ⟨nx, w', ε', k1, k2, k3, k4, k5⟩ := op1_R hQ I.fr hr (m0 := (nhl T hn c).nx) (hr.fresh _ (by rw [p1]; exact Nat.le_refl _)) (by rw [p1]; exact Nat.le_refl _) hop'
        obtain ⟨rfl, rfl, _⟩ := k5 hq
        have hnd : ∀ c, e.o.op ≠ .defer c := fun c hcc => by rw [hcc] at hq; cases hq
        refine ⟨fun f _ => hF.fn f, ?_⟩
        rw [Oper.semAt_eq _ _ _ hnd, k1]
        rcases k2 with ⟨v', rfl, hv⟩ | ⟨rfl, hv⟩
        · obtain ⟨tS', I'⟩ := I.plain D U hef y2 (fun h => by rw [hal] at h; cases h) hv
          exact hK _ _ _ _ _ _ I'
        · obtain ⟨tS', I'⟩ := I.plain D U hef y2 (fun h => by rw [hal] at h; cases h) (v' := undef) (by rw [hv]; exact undef_R _)
          exact hK _ _ _ _ _ _ I'
theorem inv_any (hQ : ∀ t ∈ Q, EqOk P t) (hc : CallOk P G call) {F : Fence} (hF : FW F) {n : Nat} (D : Dr P Q G call N ops base h0 hn t0 tn T) (hb0 : h00.nx = base) {Q' : Exit → Act → World → Prop}
    (hQ' : ∀ a' w' ε', FR ε' N tn a'.tmps → a'.defers = a0.defers → Rep G ε' hn w' → Kp h00 ε0 w0 hn ε' w' → Q' .normal a' w') : ∀ (fuel : Nat) (listed : Array Bool) (a : Act) (w : World) (c : Nat) (ε : Env) (tS : Tr SV) (hS : H),
    listed.size = T.length → listed.toList.countP (fun b => !b) ≤ fuel → Inv G ε0 h00 w0 a0 N ops base hn t0 T (fun j => listed[j]? = some true) a w c ε tS hS → wpAnyIn F n P .any ops Q' fuel listed a w := by
  have hlen : ops.size = T.length := by rw [D.len]; simp
  have hready : ∀ {listed : Array Bool} {i : Nat}, listed.size = T.length → i ∈ Region.ready .any ops listed → ∃ e, T[i]? = some e ∧ listed[i]? = some false ∧ ∀ p ∈ preds e.o, listed[p]? = some true := by
    intro listed i hs hi
    simp only [Region.ready, List.mem_filter, List.mem_range, Bool.and_eq_true, Bool.not_eq_true'] at hi
    obtain ⟨h1, h2, h3⟩ := hi
    have hT : T[i]? = some (T[i]'(by omega)) := List.getElem?_eq_getElem _
    refine ⟨_, hT, ?_, fun p hp => ?_⟩
    · have hl : i < listed.size := by omega
      rw [Array.getD_eq_getD_getElem?, Array.getElem?_eq_getElem hl] at h2
      rw [Array.getElem?_eq_getElem hl]
      simpa using h2
    · have ho : ops[i]? = some (T[i]'(by omega)).o := by have := (D.step i _ hT).1; simpa using this
      rw [ho] at h3
      simp only [Option.map_some, Option.getD_some, Array.all_eq_true_iff_forall_mem] at h3
      obtain ⟨ed, hed, rfl⟩ := List.mem_map.1 hp
      obtain ⟨hed1, hed2⟩ := List.mem_filter.1 hed
      have := h3 ed (by simpa using hed1)
      rw [hed2] at this
      simp only [Bool.not_true, Bool.false_or] at this
      rw [Array.getD_eq_getD_getElem?] at this
      cases hx : listed[ed.on]? with
      | none => rw [hx] at this; simp at this
      | some b => rw [hx] at this; simp at this; rw [this]
  have hend : ∀ {listed : Array Bool} {a : Act} {w : World} {c : Nat} {ε : Env} {tS : Tr SV} {hS : H}, listed.size = T.length → Inv G ε0 h00 w0 a0 N ops base hn t0 T (fun j => listed[j]? = some true) a w c ε tS hS → (∀ j, j < T.length → listed[j]? = some true) → Q' .normal a w :=
    fun {listed a w c ε tS hS} hs I hall => by
      obtain ⟨d1, d2, d3, d4⟩ := I.done D hall
      exact hQ' a w ε d1 d2 d3 d4
  intro fuel
  induction fuel with
  | zero =>
    intro listed a w c ε tS hS hs hcnt I
    have hz := count_zero (l := listed.toList) (by omega)
    have hall : ∀ j, j < T.length → listed[j]? = some true := fun j hj => by have := hz j (by simpa [hs] using hj); simpa using this
    refine ⟨?_, hend hs I hall⟩
    cases hr : Region.ready .any ops listed with
    | nil => rfl
    | cons x l =>
      obtain ⟨e, h1, h2, _⟩ := hready hs (i := x) (by rw [hr]; simp)
      have := hall x (List.getElem?_eq_some_iff.1 h1).1
      rw [this] at h2; cases h2
  | succ fuel ih =>
    intro listed a w c ε tS hS hs hcnt I
    refine ⟨fun hr => hend hs I ?_, fun i hi => ?_⟩
    · intro j
      induction j using Nat.strongRecOn with
      | _ j ihj =>
        intro hj
        cases hx : listed[j]? with
        | none => rw [Array.getElem?_eq_none_iff] at hx; omega
        | some b =>
          cases b with
          | true => rfl
          | false =>
            exfalso
            have hT : T[j]? = some (T[j]'hj) := List.getElem?_eq_getElem _
            have so := (D.step j _ hT).1
            obtain ⟨t1, _⟩ := stat_spec D.st rfl so
            simp only [List.length_nil, Nat.zero_add] at t1
            have hmem : j ∈ Region.ready .any ops listed := by
              simp only [Region.ready, List.mem_filter, List.mem_range, Bool.and_eq_true, Bool.not_eq_true']
              refine ⟨by omega, by rw [Array.getD_eq_getD_getElem?, hx]; rfl, ?_⟩
              have ho : ops[j]? = some (T[j]'hj).o := by simpa using so
              rw [ho]
              simp only [Option.map_some, Option.getD_some, Array.all_eq_true_iff_forall_mem]
              intro ed hed
              cases hbd : Region.binds .any ed
              · rfl
              · have hp : ed.on ∈ preds (T[j]'hj).o := List.mem_map.2 ⟨ed, List.mem_filter.2 ⟨by simpa using hed, hbd⟩, rfl⟩
                have hlt := t1 _ hp
                have := ihj _ hlt (by omega)
                rw [Array.getD_eq_getD_getElem?, this]; rfl
            rw [hr] at hmem
            simp at hmem
    · obtain ⟨e, h1, h2, h3⟩ := hready hs hi
      have hil := (List.getElem?_eq_some_iff.1 h1).1
      refine inv_step hQ hc hF I D hb0 (fun j => inferInstance) ⟨h1, by rw [h2]; simp, h3⟩ fun a' w' c' ε' tS' hS' I' => ?_
      refine ih (listed.setIfInBounds i true) a' w' c' ε' tS' hS' (by simp [hs]) ?_ ?_
      · have := count_set (l := listed.toList) (i := i) (by simpa using h2)
        simp only [Array.toList_setIfInBounds]
        omega
      · have heq : (fun j => (listed.setIfInBounds i true)[j]? = some true) = (fun j => listed[j]? = some true ∨ j = i) := by
          funext j
          apply propext
          by_cases hji : j = i
          · subst hji
            simp [Array.getElem?_setIfInBounds_self_of_lt (by omega : j < listed.size)]
          · rw [Array.getElem?_setIfInBounds_ne (fun h => hji h.symm)]
            simp [hji]
        rw [heq]; exact I'
end
theorem drawS_R {P : Program} {Q : List Nat} {G : Nat} (hQ : ∀ t ∈ Q, EqOk P t) (hm : P.follows .mixedOrders = true) : DrawOk P G Q (drawS P Q) := by
  intro call hc F hF n N ops id ε h h' w t t' a hf hr e Q' hQ'
  unfold drawS at e
  cases hst : stat ops.toList.toArray ops.toList [] []
  · rw [hst, cond_false] at e; cases e
  rw [hst, cond_true] at e
  simp only [Option.bind_eq_some_iff] at e
  obtain ⟨⟨T, tn, hn⟩, htr, e⟩ := e
  simp only at e
  cases hck : (chkJ P Q G h.nx T ⟨h.h, h.nx + len ops.toList 0⟩ hn (masks ops.toList []) T 0 && chkN h.nx hn T 0)
  · rw [hck, cond_false] at e; cases e
  rw [hck, cond_true] at e
  simp only [Option.some.injEq, Prod.mk.injEq] at e
  obtain ⟨rfl, rfl⟩ := e
  rw [Bool.and_eq_true] at hck
  obtain ⟨k1, k2⟩ := hck
  obtain ⟨a1, a2, a3, a4⟩ := trace_spec htr
  have hst' : stat ops ops.toList [] [] = true := by simpa using hst
  have hlen : len ops.toList 0 = ops.toList.length := by rw [len_eq]; rfl
  have get0 : ∀ q, (⟨h.h, h.nx + len ops.toList 0⟩ : H).get q = h.get q := fun q => rfl
  have c0 : ∀ q, h.nx ≤ q → h.get q = none := fun q hq => by
    cases hx : h.get q with
    | none => rfl
    | some o => have := get_lt hr hx; omega
  have D : Dr P Q G call N ops h.nx ⟨h.h, h.nx + len ops.toList 0⟩ hn t tn T := by
    refine ⟨hst', a1, a2, a3, fun k e hk => ?_, fun k e hk hq hw => ?_, fun k x hk hx q e hkq hq ha => ?_, fun q e hq ha => ?_⟩
    · have := a4 k e hk
      rw [Nat.zero_add] at this
      exact this
    · obtain ⟨b1, b2⟩ := chkJ_spec k1 k e hk hq hw
      rw [Nat.zero_add] at b1 b2
      exact ⟨b1, fun k' x hk' hx => by have := chkS_spec b2 k' x hk' hx; rwa [Nat.zero_add] at this⟩
    · have := chkN_spec k2 k x hk hx q e hkq hq ha
      rwa [Nat.zero_add] at this
    · rw [get0]; exact c0 _ (by omega)
  refine wpIn_region_any hm ?_
  have hsz : ops.size = T.length := by rw [a1]; simp
  refine inv_any (h00 := h) (w0 := w) (a0 := a) (ε0 := ε) hQ hc hF D rfl hQ' ops.size (Array.replicate ops.size false) a { w with drawn := w.drawn + 1 } 0 ε t ⟨h.h, h.nx + len ops.toList 0⟩ (by simp [hsz]) (by simpa using List.countP_le_length (p := fun b => !b) (l := List.replicate ops.size false)) ?_
  have hfalse : ∀ j, ¬ ((Array.replicate ops.size false)[j]? = some true) := fun j h => by
    rw [Array.getElem?_replicate] at h
    split at h
    · cases h
    · cases h
  refine ⟨fun j o h => absurd h (hfalse j), fun j h => absurd h (hfalse j), Nat.zero_le _, fun j e hj he => ⟨fun h => absurd h (hfalse j), fun h => absurd h (Nat.not_lt_zero j)⟩, .inl rfl, fun d => .inr ⟨fun j h => absurd h (hfalse j), rfl⟩, hf, rfl, ?_, ?_, fun k e ob _ _ h => absurd h (hfalse k), fun q _ => ?_, ?_, fun k e hk ha hL => ?_, ?_⟩
  · rw [a3, hlen, a1]; exact Nat.le_refl _
  · rw [a3]
  · rw [a3]
  · refine ⟨fun n hn' => hr.fresh n (by have : h.nx + len ops.toList 0 ≤ n := hn'; omega), fun n o hq => ?_, hr.inj, hr.gl⟩
    obtain ⟨e, b1, b2⟩ := hr.obj n o hq
    exact ⟨e, b1, b2.keep rfl⟩
  · exact hr.fresh _ (by omega)
  · exact ⟨Ext.refl ε, Nat.le_refl _, fun b _ _ => rfl, fun b hb => .inl hb, by show h.nx ≤ h.nx + len ops.toList 0; omega, fun _ _ _ => rfl, ⟨rfl, rfl, rfl⟩, fun _ _ _ h => ⟨h, fun _ _ => rfl⟩⟩
end Go.Ev
