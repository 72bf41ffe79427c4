/-
  'ReplayNil' of the landed code answers true for every input, and its arguments read as they did: the card ReplayNilCardSaid, with no condition beyond the row's own: the package-level variables that it lists hold, when the call begins, what the program's text lays (the card ties them).
-/
import Derived.Test.YtlncjakfckdjcaaGreatDoorCards
import Derived.Test.YtlncjakfckdjcaaGreatDoorTie
import Derived.Test.YtlncjakfckdjcaaGreatDoorLaid
import Derived.Test.YtlncjakfckdjcaaGreatDoorReL
import Derived.Test.YtlncjakfckdjcaaGreatDoorReN
namespace Go.Proofs.YtlncjakfckdjcaaGreatDoor.replayNil
open Go.RowKit Go.ChangeShapes Go.WideShapes Go.ChangeAt Go.Ev
set_option linter.unusedVariables false

theorem rep_laid {W : World} (hL : laidMetH Tryz.prog Rows.replayNilRow.laid W) : Rep 8 (fun n => if n < 8 then some ⟨n, 0, 0⟩ else none) hLaid W := by
  have t1 : Lib.TabIs Tryz.prog W "ashlar/crc.halves" .u32 tabInts := by
    have h := laidMetH.filter (fun x => x.1 == "ashlar/crc.halves") hL
    rw [show Rows.replayNilRow.laid.filter (fun x => x.1 == "ashlar/crc.halves") = [("ashlar/crc.halves", Rows.laid_ashlar_crc_halves)] by kernel_rfl] at h
    exact Lib.tabIs_of_head (rest := []) gTab gTabType Tryz.underlying235 Tryz.underlying90 cellsU32 cellsTab h
  have t2 : Lib.TabIs Tryz.prog W "ashlar/mark.sizes" .i64 sizInts := by
    have h := laidMetH.filter (fun x => x.1 == "ashlar/mark.sizes") hL
    rw [show Rows.replayNilRow.laid.filter (fun x => x.1 == "ashlar/mark.sizes") = [("ashlar/mark.sizes", Rows.laid_ashlar_mark_sizes)] by kernel_rfl] at h
    exact Lib.tabIs_of_head (rest := []) gSiz gSizType Tryz.underlying232 Tryz.underlying3 cellsInt1 cellsSiz h
  have t3 : Lib.TabIs Tryz.prog W "ashlar/note.sizes" .i64 siznInts := by
    have h := laidMetH.filter (fun x => x.1 == "ashlar/note.sizes") hL
    rw [show Rows.replayNilRow.laid.filter (fun x => x.1 == "ashlar/note.sizes") = [("ashlar/note.sizes", Rows.laid_ashlar_note_sizes)] by kernel_rfl] at h
    exact Lib.tabIs_of_head (rest := []) gSizn gSiznType Tryz.underlying212 Tryz.underlying3 cellsInt1n cellsSizn h
  have key : ∀ (name : String) (g : Nat) (k : IntKind) (zs : List Int), Tryz.prog.globalNamed name = some g → g < 8 → Lib.TabIs Tryz.prog W name k zs →
      Ob (fun n => if n < 8 then some ⟨n, 0, 0⟩ else none) (.g (len (zs.map fun z => SV.i k z) 0) (putL .e (zs.map fun z => SV.i k z) 0)) ⟨g, 0, 0⟩ W := fun name g k zs hg hlt ht => by
    unfold Lib.TabIs World.var? at ht
    rw [hg] at ht
    simp only [Option.bind_some] at ht
    split at ht
    · rename_i cs ty fz hc
      cases ht
      refine ⟨_, ty, fz, hc, fun j hj => ?_, by simp [len_eq]⟩
      have hj' : j < zs.length := by simpa [len_eq] using hj
      refine ⟨.i k zs[j], .int k zs[j], by rw [putL_get, if_pos ⟨Nat.zero_le _, by simpa using hj'⟩]; simp [hj'], by simp [hj'], .i k _, rfl⟩
    · cases ht
  have gets : ∀ n o, hLaid.get n = some o → (n = 0 ∧ o = .g (len (siznInts.map fun z => SV.i .i64 z) 0) (putL .e (siznInts.map fun z => SV.i .i64 z) 0)) ∨
      (n = 1 ∧ o = .g (len (sizInts.map fun z => SV.i .i64 z) 0) (putL .e (sizInts.map fun z => SV.i .i64 z) 0)) ∨
      (n = 2 ∧ o = .g (len (tabInts.map fun z => SV.i .u32 z) 0) (putL .e (tabInts.map fun z => SV.i .u32 z) 0)) := fun n o h => by
    unfold hLaid hrow H.get at h
    simp only [get_set] at h
    by_cases h2 : n = 2
    · rw [if_pos h2] at h; exact .inr (.inr ⟨h2, (Option.some.inj h).symm⟩)
    · rw [if_neg h2] at h
      by_cases h1 : n = 1
      · rw [if_pos h1] at h; exact .inr (.inl ⟨h1, (Option.some.inj h).symm⟩)
      · rw [if_neg h1] at h
        by_cases h0 : n = 0
        · rw [if_pos h0] at h; exact .inl ⟨h0, (Option.some.inj h).symm⟩
        · rw [if_neg h0, get_e] at h; cases h
  refine ⟨fun n hn => if_neg (Nat.not_lt.2 hn), fun n o h => ?_, fun n m o o' e e' h1 h2 h3 h4 h5 => ?_, fun g hg => ⟨⟨g, 0, 0⟩, if_pos hg, rfl⟩⟩
  · rcases gets n o h with ⟨rfl, rfl⟩ | ⟨rfl, rfl⟩ | ⟨rfl, rfl⟩
    · exact ⟨⟨0, 0, 0⟩, rfl, key _ _ _ _ gSizn (by decide) t3⟩
    · exact ⟨⟨1, 0, 0⟩, rfl, key _ _ _ _ gSiz (by decide) t2⟩
    · exact ⟨⟨2, 0, 0⟩, rfl, key _ _ _ _ gTab (by decide) t1⟩
  · by_cases hn : n < 8
    · by_cases hm : m < 8
      · simp only [if_pos hn, if_pos hm, Option.some.injEq] at h3 h4
        subst h3; subst h4
        exact h5
      · simp [if_neg hm] at h4
    · simp [if_neg hn] at h3
theorem hLaid_g : ∀ n o, hLaid.get n = some o → (n ∈ [0, 1, 2] ∧ n < 8) ∧ ∃ m cs, o = .g m cs := fun n o h => by
  unfold hLaid hrow H.get at h
  simp only [get_set] at h
  by_cases h2 : n = 2
  · rw [if_pos h2] at h; subst h2; exact ⟨by decide, _, _, (Option.some.inj h).symm⟩
  · rw [if_neg h2] at h
    by_cases h1 : n = 1
    · rw [if_pos h1] at h; subst h1; exact ⟨by decide, _, _, (Option.some.inj h).symm⟩
    · rw [if_neg h1] at h
      by_cases h0 : n = 0
      · rw [if_pos h0] at h; subst h0; exact ⟨by decide, _, _, (Option.some.inj h).symm⟩
      · rw [if_neg h0, get_e] at h; cases h
theorem walk (W : World) (hL : laidMetH Tryz.prog Rows.replayNilRow.laid W) (a0 : Int) (w0 : (Lit.int .u64 a0).wf = true) (a1 : Bool) :
    Calls Tryz.prog 4 #[.int .u64 a0, .bool a1] W fun e W' => e = .returned (.bool true) ∧ Below W.heap.size W W' := by
  obtain ⟨h9, hl⟩ := isTrue_some livesRun
  have run : ∃ h', lawK Tryz.prog [44, 42] 8 60 14 [0, 1, 2] hLaid (.f 4 [] []) [.i .u64 a0, .b a1] hLaid = some (.b true, h') := by
    cases a1
    · exact isTrue_some (nilRunF a0)
    · exact isTrue_some (nilRunT a0)
  obtain ⟨h', hr⟩ := run
  refine (law_calls eqAll noNum mixed hl (fun q o hq => (hLaid_g q o hq).1) rfl hr (args' := [.int .u64 a0, .bool a1]) (.cons (.i .u64 a0) (.cons (.b a1) .nil)) (rep_laid hL)).mono fun e W' p => ?_
  obtain ⟨v', ε', p1, p2, p3⟩ := Post.below (fun q o hq => (hLaid_g q o hq).2) p
  refine ⟨?_, p3⟩
  rw [p1]
  cases p2
  rfl

set_option maxRecDepth 100000 in
theorem contract (H : Type) (enc : TypeId × Value → H) (W : World) (base : Nat) (args : Array Value) (ds gs : List (DataW H)) (before : List MemPlace)
    (hval : ∀ (j : Nat) t v, Tryz.f4.params[j]? = some t → args[j]? = some v → Value.okWide Tryz.prog W .any base t v)
    (hW : DataW.Whole enc Tryz.prog Tryz.f4.params.toList Rows.replayNilSpec.vars false W args.toList ds gs before)
    (hsz : (DataW.weightsEach Tryz.prog (Tryz.f4.params.toList ++ (OpenSpec.ofChange Rows.replayNilSpec).bare.plain.varTypes Tryz.prog) (ds ++ gs)).all (· ≤ reachBytes) = true)
    (hL : laidMetH Tryz.prog Rows.replayNilRow.laid W) :
    Calls Tryz.prog 4 args W fun e W' => ∃ v, e = .returned v ∧ Rows.replayNilSpec.post enc Tryz.prog Tryz.f4 false true false false W args v W' := by
  have hW' := hW
  obtain ⟨p, q, hA0, hV, rfl, hfz, hnd⟩ := hW
  have hA : DataW.TrodAll enc Tryz.prog W 0 (fun _ => true) true Tryz.f4.params.toList args.toList ds p := hA0
  rw [Tryz.params4] at hA hval hsz
  obtain ⟨v0, vs0, d0, ds0, p0, q0, hargs, rfl, rfl, h0, r0⟩ := trodAll_cons hA
  obtain ⟨v1, vs1, d1, ds1, p1, q1, rfl, rfl, rfl, h1, r1⟩ := trodAll_cons r0
  obtain ⟨rfl, rfl, rfl⟩ := trodAll_nil r1
  obtain rfl : args = #[v0, v1] := by cases args; simp_all
  obtain ⟨rfl, rfl⟩ := trodVars_none hV
  obtain ⟨a0, rfl, rfl, rfl, w0⟩ := open_int Tryz.underlying37 (hval 0 37 v0 rfl rfl) h0
  obtain ⟨a1, rfl, rfl, rfl⟩ := open_bool Tryz.underlying4 (hval 1 4 v1 rfl rfl) h1
  clear hA0
  refine (walk W hL a0 w0 a1).mono fun e W' ⟨he, bel⟩ => ?_
  subst he
  exact ⟨_, rfl, _, _, _, [], _, [], hW', trodAll_mk1 (shut_bool Tryz.underlying4 _), (trodAll_cons_mk (shut_int Tryz.underlying37 w0) (trodAll_cons_mk (shut_bool Tryz.underlying4 a1) trodAll_mk0)), rfl, bel.frame _, fun h => by cases h⟩

theorem laid_met (os : Os) : laidMet Tryz.prog Rows.replayNilRow.laid ((laidWorld os).forCall (fun _ _ => 0) ⟨#[], #[.int .u64 0, .bool false], []⟩).memory :=
  laidMet_of_run' 8 (by kernel_rfl) (by kernel_rfl)
theorem reads (os : Os) {H : Type} (enc : TypeId × Value → H) : ∃ places, DataW.whole enc Tryz.prog ((laidWorld os).forCall (fun _ _ => 0) ⟨#[], #[.int .u64 0, .bool false], []⟩).memory Tryz.f4.params.toList Rows.replayNilSpec.vars false (#[.int .u64 0, .bool false] : Array Value).toList 8 = some ([.lit (.int .u64 0), .lit (.bool false)], [], places) :=
  ⟨[], by kernel_rfl⟩

set_option maxRecDepth 100000 in
theorem lifted (os : Os) (started : os.Started) (H : Type) (enc : TypeId × Value → H) (F : Stop.Interp) :
    ReturnsInHanded {} Tryz.checked os 4 .any ((OpenSpec.ofChange Rows.replayNilSpec).preRow enc Tryz.prog Tryz.f4 Rows.replayNilRow.domain false Rows.replayNilRow.laid) (((OpenSpec.ofChange Rows.replayNilSpec).at F).post enc Tryz.prog Tryz.f4 false true false false) := by
  obtain ⟨places, hx⟩ := reads os enc
  refine returnsInHanded_of_row (C := Tryz.checked) (s := (OpenSpec.ofChange Rows.replayNilSpec)) own_knob started (by kernel_rfl) Tryz.func4
    (witness_row_at (enc := enc) (C := Tryz.checked) false (laidWorld os) #[.int .u64 0, .bool false] rfl (by kernel_rfl) (by kernel_rfl) (by kernel_rfl)
      (OpenSpec.preRow_of_cond 8 hx (by kernel_rfl) (fun k hk => by cases hk) (by kernel_rfl) (laid_met os))) ?_
  intro W base args ds gs before hval hW _ _ hsz hL _ _
  exact contract H enc W base args ds gs before hval hW hsz hL

theorem said : Rows.ReplayNilSaid :=
  OpenClaim.holds_of_cond 4 Tryz.f4 rfl rfl rfl rfl rfl rfl rfl ⟨rfl, rfl, rfl, rfl, rfl⟩ rfl rfl rfl rfl rfl (by kernel_rfl) Tryz.func4 (by kernel_rfl)
    (of_decide_eq_true (by kernel_rfl)) (by unfold Func.isWrapper; first | (rw [if_pos (by decide +kernel)]; kernel_rfl) | (rw [if_neg (by decide +kernel)]; exact ⟨rfl, rfl⟩))
    (fun os started H enc _ F => by rw [OpenClaim.pre_eq_preRow]; exact lifted os started H enc F)

theorem plain (f : FuncId) (fn : Func) (hf : Tryz.pinned.checked.prog.funcNamed "ashlar/ashlarlaw23.ReplayNil" = some f) (hfn : Tryz.pinned.checked.prog.funcs[f]? = some fn) :
    false = Tryz.pinned.checked.prog.looks [] ∧ ∀ (j : Nat) t, fn.params[j]? = some t → Tryz.pinned.checked.prog.wantsStandIn t = false := by
  obtain rfl : f = 4 := Option.some.inj ((show Tryz.prog.funcNamed "ashlar/ashlarlaw23.ReplayNil" = some 4 by kernel_rfl).symm.trans hf) |>.symm
  obtain rfl : fn = Tryz.f4 := (Option.some.inj (Tryz.func4.symm.trans hfn)).symm
  refine ⟨by kernel_rfl, fun j t ht => ?_⟩
  rw [Tryz.params4] at ht
  have hm : t ∈ [37, 4] := by simpa using Array.mem_of_getElem? ht
  have hall : ([37, 4].all fun u => !Tryz.prog.wantsStandIn u) = true := by kernel_rfl
  exact (show Tryz.prog.wantsStandIn t = false by simpa using List.all_eq_true.1 hall t hm)

theorem proved : Rows.ReplayNilCardSaid :=
  Claim7.holds_tied_plain_at .later [] _ _ _ _ said (fun _ h => by cases h) (by kernel_rfl) (fun _ h => by cases h) replayNil_row_tie rfl ⟨rfl, rfl⟩ (by kernel_rfl) rfl plain (by kernel_rfl)
#print axioms proved
end Go.Proofs.YtlncjakfckdjcaaGreatDoor.replayNil
