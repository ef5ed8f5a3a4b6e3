/-
  For all slices of bytes the law FnReplay returns true: a chain of two backups, made of drawn pairs, that is replayed from nothing is what the last one was made of; out of order, without the first one, and with another chain it is refused. The conditions, tied to the program's text: the table of half bytes, the library's handle of the type error and the program's errors read as they are laid.
  By an AI agent.
-/
import Derived.Test.YtmbndpgoihdpnaaGreatDoorWkFnReplay
import Derived.Test.YtmbndpgoihdpnaaGreatDoorMem
import Derived.Test.YtmbndpgoihdpnaaGreatDoorRa4
import Derived.Test.YtmbndpgoihdpnaaGreatDoorTie
import Derived.Test.YtmbndpgoihdpnaaGreatDoorCards
import Derived.LaidMore
import Derived.Lib.LaidTab
import Derived.SevenTiedAt
import Derived.WalkSmall
import Derived.Stop.Joined
import Derived.OpenVars
import Derived.LaidHandle
import Derived.ChangeSame
import Derived.OpenShut
namespace Go.Proofs.YtmbndpgoihdpnaaGreatDoor.fnReplay
open Go.ChangeShapes Go.WideShapes Go.ChangeAt Go.WideMaps Go.WideElems Go.RowKit Go.Deep
open Go.ChangeMaps (open_string shut_string)
set_option linter.unusedVariables false

set_option maxHeartbeats 8000000 in
theorem closed : joinedFacts Tryz.prog 6 Tryz.f6 Rows.fnReplaySpec Rows.fnReplayRow = true := by
  unfold joinedFacts
  repeat' (with_reducible refine Bool.and_eq_true_iff.2 ⟨?_, ?_⟩)
  all_goals (as_aux_lemma => kernel_rfl)
theorem inst : Tryz.f6.isInstance Tryz.prog Rows.fnReplayRow.origin Rows.fnReplayRow.targs := of_decide_eq_true (by kernel_rfl)
theorem wrap : Tryz.f6.isWrapper Tryz.prog Rows.fnReplayRow.wrapper Rows.fnReplayRow.mainSum := by
  unfold Func.isWrapper; first | (rw [if_pos (by decide +kernel)]; kernel_rfl) | (rw [if_neg (by decide +kernel)]; exact ⟨rfl, rfl⟩)
theorem named : Tryz.prog.funcNamed Rows.fnReplayRow.func = some 6 := by kernel_rfl
theorem door_met (os : Os) (args : Array Value) : laidMetH Tryz.prog Rows.fnReplayRow.laid ((World.doorLaid Tryz.prog 2000 os).forCall (fun _ _ => 0) ⟨#[], args, []⟩).memory :=
  laidMetH_of_parts3 (fuel := 8) (laidMet_of_run' 8 (by kernel_rfl) (by kernel_rfl)) (by kernel_rfl) (by kernel_rfl)
theorem laidBoth {W : World} (h : laidMetH Tryz.prog Rows.fnReplayRow.laid W) : laidMet Tryz.prog [("loop.example/g00340/impl.halfSums", Rows.laid_loop_example_g00340_impl_halfSums), ("loop.example/g00340/impl.errLink", Rows.laid_loop_example_g00340_impl_errLink)] W ∧ handlesMet Tryz.prog [("errors.errorType", Rows.laid_errors_errorType)] W := h
theorem hasHalf {W : World} (h0 : laidMetH Tryz.prog Rows.fnReplayRow.laid W) : HasHalf W := by
  have h := (laidBoth h0).1
  obtain ⟨ps, ⟨g0, t0, cs0, f0, p0, q0, hg0, ht0, hv0, hd0, _⟩, _⟩ := h
  obtain rfl := Option.some.inj ((show Tryz.prog.globalNamed "loop.example/g00340/impl.halfSums" = some 3 by kernel_rfl).symm.trans hg0)
  obtain rfl := Option.some.inj ((show (Tryz.prog.globals[3]?).map (·.type) = some 181 by kernel_rfl).symm.trans ht0)
  have e : (Rows.laid_loop_example_g00340_impl_halfSums : DataW Unit) = Lib.tabData .u32 (tabN.map fun n : Nat => (n : Int)) := rfl
  rw [e] at hd0
  have hcs := Lib.cells_of_tab Tryz.underlying181 Tryz.underlying180 (by kernel_rfl) (by kernel_rfl) hd0
  intro i hi
  rw [World.var?_cell hg0 hv0 i]
  have h1 : cs0[i]? = cs0.toList[i]? := by simp
  rw [h1, hcs]
  have hl : tabN.length = 16 := rfl
  simp only [List.getElem?_map, List.getElem?_eq_getElem (show i < tabN.length by omega), Option.map_some, tb, List.getD_eq_getElem?_getD, Option.getD_some]
theorem et : Tryz.prog.globalNamed "errors.errorType" = some 1 := by kernel_rfl
theorem rtT : (Tryz.prog.cutTypes.find? (·.1 == "internal/reflectlite.rtype")).map (·.2) = some 184 := by kernel_rfl
theorem oneRow : ((List.range 254).filter fun t => Tryz.prog.rowNamed t [101, 114, 114, 111, 114]) = [77] := by kernel_rfl
theorem sizeT : Tryz.prog.types.size = 254 := by kernel_rfl
theorem hasErr {W : World} (h0 : laidMetH Tryz.prog Rows.fnReplayRow.laid W) : HasErr W := by
  obtain ⟨name, u, ty, e1, e2, e3, e4, e5⟩ := (laidBoth h0).2 _ (List.mem_singleton.2 rfl)
  have en : name = [101, 114, 114, 111, 114] := (Option.some.inj e1).symm
  subst en
  obtain rfl := Option.some.inj (rtT.symm.trans e2)
  have hm : ty ∈ (List.range 254).filter fun t => Tryz.prog.rowNamed t [101, 114, 114, 111, 114] := List.mem_filter.2 ⟨List.mem_range.2 (by rw [← sizeT]; exact e3), e4⟩
  rw [oneRow] at hm
  obtain rfl := List.mem_singleton.1 hm
  have hh : typeHandle Tryz.prog 77 = .pointer (some ⟨4, 77, none⟩) := by kernel_rfl
  rw [hh] at e5
  show W.cell? ⟨1, 0, none⟩ = _
  simpa using World.var?_cell et e5 0

theorem own : ownKnob Tryz.prog.godebug = none := by kernel_rfl
theorem laidOut : laidOutB Tryz.prog = true := by kernel_rfl
theorem gs_len {H : Type} {enc : TypeId × Value → H} {P : Program} {w : World} {sp : Nat → Bool} : ∀ {ns : List String} {gs : List (DataW H)} {ps : List MemPlace}, DataW.TrodVars enc P w sp ns gs ps → gs.length = ns.length
  | [], [], _, _ => rfl
  | [], _ :: _, _, h => h.elim
  | _ :: _, [], _, h => h.elim
  | _ :: ns, _ :: ds, _, h => by
    obtain ⟨_, _, _, _, _, _, _, _, _, _, hs, _⟩ := h
    rw [List.length_cons, List.length_cons, gs_len hs]

set_option maxRecDepth 100000 in
theorem lifted (os : Os) (started : os.Started) (H : Type) (enc : TypeId × Value → H) :
    ReturnsInHanded {} Tryz.checked os 6 .any (fun w args => (Rows.fnReplaySpec.pre enc Tryz.prog Tryz.f6 [] false w args ∧ laidMetH Tryz.prog Rows.fnReplayRow.laid w) ∧ sizedMet enc Tryz.prog Tryz.f6 (OpenSpec.ofChange Rows.fnReplaySpec) false w args)
      (Rows.fnReplaySpec.post enc Tryz.prog Tryz.f6 false true false false) := by
  refine returnsInHanded_of_change_and (C := Tryz.checked) (X := fun w _ => laidMetH Tryz.prog Rows.fnReplayRow.laid w) (fun _ _ _ hh h => h.of_heap hh) own started (by kernel_rfl) Tryz.func6
    (ChangeSpec.witness_shaped (enc := enc) (C := Tryz.checked) (os := os) (X := fun w _ => laidMetH Tryz.prog Rows.fnReplayRow.laid w) false (World.doorLaid Tryz.prog 2000 os) #[.slice none 0 0, .slice none 0 0] 8 rfl (World.shaped_of_RefB (by kernel_rfl) (by kernel_rfl)) (by kernel_rfl) (by kernel_rfl) (by kernel_rfl) (door_met os _)) ?_
  intro W base args ds gs before hval0 hW _ _ hL _
  have hval : ∀ (j : Nat) t v, Tryz.f6.params[j]? = some t → args[j]? = some v → Value.okWide Tryz.prog W .any base t v := hval0
  have hW' := hW
  obtain ⟨p, q, hA0, hV0, rfl, hfz, hnd⟩ := hW
  have hA : DataW.TrodAll enc Tryz.prog W 0 (fun _ => true) true Tryz.f6.params.toList args.toList ds p := hA0
  have hV : DataW.TrodVars enc Tryz.prog W (fun _ => true) ["loop.example/g00340/impl.halfSums", "loop.example/g00340/impl.errLink"] gs q := hV0
  rw [Tryz.params6] at hA hval
  obtain ⟨v0, vs0, d0, ds0, p0, q0, hargs, rfl, rfl, h0, r0⟩ := trodAll_cons hA
  obtain ⟨v1, vs1, d1, ds1, p1, q1, rfl, rfl, rfl, h1, r1⟩ := trodAll_cons r0
  obtain ⟨rfl, rfl, rfl⟩ := trodAll_nil r1
  obtain rfl : args = #[v0, v1] := by cases args; simp_all
  have k0 := h0
  have lt0 : ∀ x ∈ p0, x.block < W.heap.size := by obtain ⟨m, hm⟩ := k0; exact DataW.trod_lt m _ _ _ hm
  obtain ⟨A0, C0, L0, rfl, sr0, mx0⟩ := bytes_in (hval 0 55 v0 rfl rfl) h0
  have k1 := h1
  have lt1 : ∀ x ∈ p1, x.block < W.heap.size := by obtain ⟨m, hm⟩ := k1; exact DataW.trod_lt m _ _ _ hm
  obtain ⟨A1, C1, L1, rfl, sr1, mx1⟩ := bytes_in (hval 1 55 v1 rfl rfl) h1
  have hT := hasHalf hL
  have hEr := hasErr hL
  obtain ⟨y0, y1, rfl⟩ : ∃ y0 y1, gs = [y0, y1] := by
    have hlen := gs_len hV
    match gs, hlen with
    | [z0, z1], _ => exact ⟨z0, z1, rfl⟩
  clear hA0 hval0 hV0
  refine (walk A0 A1 C0 C1 L0 L1 W mx0.1 mx1.1 mx0.2 mx1.2 sr0 sr1 hT hEr).mono fun e W' ⟨he, bel⟩ => ?_
  subst he
  have hvars : DataW.TrodVars enc Tryz.prog W' (fun b => decide (b < W.heap.size)) ["loop.example/g00340/impl.halfSums", "loop.example/g00340/impl.errLink"] [y0, y1] q := Below.trodVars laidOut bel (by kernel_rfl) hV
  exact ⟨_, rfl, _, _, _, [], _, _, hW', trodAll_mk1 (shut_bool Tryz.underlying4 _), (trodAll_cons_mk (Below.trod laidOut (by kernel_rfl) (of_decide_eq_true (by kernel_rfl)) k0 bel lt0) (trodAll_cons_mk (Below.trod laidOut (by kernel_rfl) (of_decide_eq_true (by kernel_rfl)) k1 bel lt1) trodAll_mk0)), hvars, bel.frame _, fun h => by cases h⟩

theorem over : Rows.fnReplayRow.holds Tryz.pinned (OpenSpec.ofChange Rows.fnReplaySpec) :=
  OpenClaim.holds_of_wide 6 Tryz.f6 rfl rfl rfl rfl rfl rfl rfl ⟨rfl, rfl, rfl, rfl, rfl⟩ rfl rfl rfl rfl rfl named Tryz.func6 closed inst wrap
    (fun os started H enc _ => lifted os started H enc)

theorem card : Rows.FnReplayCardSaid :=
  Claim7.holds_tied_plain_at .later [] [.handle, .data, .sentinel] true (true, "b5fb8c5946ae3e5c4bbff1b0de775a9fb7062fc174a20c2442d212d285fb7189") true
    over (fun _ h => by cases h) (by kernel_rfl) (fun _ h => by cases h) fnReplay_row_tie rfl ⟨rfl, rfl⟩ (by kernel_rfl) rfl
    (fun f fn hf hfn => by
      obtain rfl : f = 6 := Option.some.inj ((show Tryz.prog.funcNamed "loop.example/g00340/laws.FnReplay" = some 6 by kernel_rfl).symm.trans hf) |>.symm
      obtain rfl : fn = Tryz.f6 := (Option.some.inj (Tryz.func6.symm.trans hfn)).symm
      exact ⟨by kernel_rfl, fun j t ht => by
        rw [Tryz.params6] at ht
        have hm : t ∈ [55, 55] := by simpa using Array.mem_of_getElem? ht
        have hall : ([55, 55].all fun u => !Tryz.prog.wantsStandIn u) = true := by kernel_rfl
        exact (show Tryz.prog.wantsStandIn t = false by simpa using List.all_eq_true.1 hall t hm)⟩)
    (by kernel_rfl)
end Go.Proofs.YtmbndpgoihdpnaaGreatDoor.fnReplay
namespace Go.Proofs.YtmbndpgoihdpnaaGreatDoor
theorem fnReplay_holds : Rows.FnReplayCardSaid := fnReplay.card
end Go.Proofs.YtmbndpgoihdpnaaGreatDoor
