/-
  For every list of backups, right or not, the law FnExactArchiveBytes returns true: the program's ArchiveBytes answers as the specification's does, writes nothing into its argument, and its answer is its own memory. The condition, tied to the program's text: the table of half bytes reads as its declaration lays it.
  By an AI agent.
-/
import Derived.Test.YtmbndpgoihdpnaaDoorWkArchiveBytes
import Derived.Test.YtmbndpgoihdpnaaDoorClArchiveBytes
import Derived.Test.YtmbndpgoihdpnaaDoorBkx
import Derived.Test.YtmbndpgoihdpnaaDoorTie
import Derived.Test.YtmbndpgoihdpnaaDoorCards
import Derived.LaidMore
import Derived.Lib.LaidTab
import Derived.SevenTiedAt
import Derived.WalkSmall
import Derived.Stop.Joined
namespace Go.Proofs.YtmbndpgoihdpnaaDoor.fnExactArchiveBytes
open Go.ChangeShapes Go.WideShapes Go.ChangeAt Go.WideMaps Go.WideElems Go.RowKit Go.Deep
open Go.ChangeMaps (open_string shut_string)
set_option linter.unusedVariables false

theorem var?_lt {P : Program} {W : World} {n : String} {g : Nat} {cs : Array Value} (hg : P.globalNamed n = some g) (h : W.var? P n = some cs) : g < W.heap.size := by
  unfold World.var? at h
  rw [hg, Option.bind_some] at h
  by_cases hlt : g < W.heap.size
  · exact hlt
  · rw [Array.getElem?_eq_none (by omega)] at h
    simp at h
theorem hasHalf {W : World} (h : laidMetH Tryd.prog Rows.fnExactArchiveBytesRow.laid W) : HasHalf W := by
  rw [MakeChecks.laidMetH_plain _ _ _ (by kernel_rfl)] at h
  obtain ⟨ps, ⟨g0, t0, cs0, f0, p0, q0, hg0, ht0, hv0, hd0, _⟩, _⟩ := h
  obtain rfl := Option.some.inj ((show Tryd.prog.globalNamed "loop.example/g00340/impl.halfSums" = some 3 by kernel_rfl).symm.trans hg0)
  obtain rfl := Option.some.inj ((show (Tryd.prog.globals[3]?).map (·.type) = some 148 by kernel_rfl).symm.trans ht0)
  have e : (Rows.laid_loop_example_g00340_impl_halfSums : DataW Unit) = Lib.tabData .u32 (tabN.map fun n : Nat => (n : Int)) := rfl
  rw [e] at hd0
  have hcs := Lib.cells_of_tab Tryd.underlying148 Tryd.underlying147 (by kernel_rfl) (by kernel_rfl) hd0
  intro i hi
  rw [World.var?_cell hg0 hv0 i]
  have h1 : cs0[i]? = cs0.toList[i]? := by simp
  rw [h1, hcs]
  have hl : tabN.length = 16 := rfl
  simp only [List.getElem?_map, List.getElem?_eq_getElem (show i < tabN.length by omega), Option.map_some, tb, List.getD_eq_getElem?_getD, Option.getD_some]

theorem own : ownKnob Tryd.prog.godebug = none := by kernel_rfl
theorem laidOut : laidOutB Tryd.prog = true := by kernel_rfl
theorem gVar : Tryd.prog.globalNamed "loop.example/g00340/impl.halfSums" = some 3 := by kernel_rfl
theorem tVar : (Tryd.prog.globals[3]?).map (·.type) = some 148 := by kernel_rfl

set_option maxRecDepth 100000 in
theorem lifted (os : Os) (started : os.Started) (H : Type) (enc : TypeId × Value → H) :
    ReturnsInHanded {} Tryd.checked os 3 .any (fun w args => (Rows.fnExactArchiveBytesSpec.pre enc Tryd.prog Tryd.f3 [] false w args ∧ laidMetH Tryd.prog Rows.fnExactArchiveBytesRow.laid w) ∧ sizedMet enc Tryd.prog Tryd.f3 (OpenSpec.ofChange Rows.fnExactArchiveBytesSpec) false w args)
      (Rows.fnExactArchiveBytesSpec.post enc Tryd.prog Tryd.f3 false true false false) := by
  refine returnsInHanded_of_change_and (C := Tryd.checked) (X := fun w _ => laidMetH Tryd.prog Rows.fnExactArchiveBytesRow.laid w) (fun _ _ _ hh h => h.of_heap hh) own started (by kernel_rfl) Tryd.func3
    (ChangeSpec.witness_shaped (enc := enc) (C := Tryd.checked) (os := os) (X := fun w _ => laidMetH Tryd.prog Rows.fnExactArchiveBytesRow.laid w) false (World.doorLaid Tryd.prog 400 os) #[.slice none 0 0] 8 rfl (World.shaped_of_RefB (by kernel_rfl) (by kernel_rfl)) (by kernel_rfl) (by kernel_rfl) (by kernel_rfl) (door_met os _)) ?_
  intro W base args ds gs before hval0 hW _ _ hL _
  have hval : ∀ (j : Nat) t v, Tryd.f3.params[j]? = some t → args[j]? = some v → Value.okWide Tryd.prog W .any base t v := hval0
  have hW' := hW
  obtain ⟨p, q, hA0, hV0, rfl, hfz, hnd⟩ := hW
  have hA : DataW.TrodAll enc Tryd.prog W 0 (fun _ => true) true Tryd.f3.params.toList args.toList ds p := hA0
  have hV : DataW.TrodVars enc Tryd.prog W (fun _ => true) ["loop.example/g00340/impl.halfSums"] gs q := hV0
  rw [Tryd.params3] at hA hval
  obtain ⟨v0, vs0, d0, ds0, p0, q0, hargs, rfl, rfl, h0, r0⟩ := trodAll_cons hA
  obtain ⟨rfl, rfl, rfl⟩ := trodAll_nil r0
  obtain rfl : args = #[v0] := by cases args; simp_all
  have k0 := h0
  have lt0 : ∀ x ∈ p0, x.block < W.heap.size := by obtain ⟨m, hm⟩ := k0; exact DataW.trod_lt m _ _ _ hm
  obtain ⟨A0, C0, L0, rfl, sr0, mx0⟩ := backups_in (hval 0 22 v0 rfl rfl) h0
  have hT := hasHalf hL
  obtain ⟨g, t, cs, fuel, dv, pv, rfl, hg, ht, hvar, hd, rfl⟩ := trodVars_one hV
  obtain rfl := Option.some.inj (gVar.symm.trans hg)
  obtain rfl := Option.some.inj (tVar.symm.trans ht)
  clear hA0 hval0 hV0
  refine (walk A0 C0 L0 W sr0 mx0 hT).mono fun e W' ⟨he, bel⟩ => ?_
  subst he
  have ltv : ∀ x ∈ pv, x.block < W.heap.size := DataW.trod_lt _ _ _ _ hd
  obtain ⟨fuel', hd'⟩ := Below.trod (v := .agg cs) laidOut (by kernel_rfl) (of_decide_eq_true (by kernel_rfl)) ⟨fuel, hd⟩ bel ltv
  have hvar' : W'.var? Tryd.prog "loop.example/g00340/impl.halfSums" = some cs := var?_below bel hg (var?_lt hg hvar) hvar
  exact ⟨_, rfl, _, _, _, [], _, _, hW', trodAll_mk1 (shut_bool Tryd.underlying4 _), (trodAll_cons_mk (Below.trod laidOut (by kernel_rfl) (of_decide_eq_true (by kernel_rfl)) k0 bel lt0) trodAll_mk0), trodVars_mk1 hg ht hvar' hd', bel.frame _, fun h => by cases h⟩

theorem over : Rows.fnExactArchiveBytesRow.holds Tryd.pinned (OpenSpec.ofChange Rows.fnExactArchiveBytesSpec) :=
  OpenClaim.holds_of_wide 3 Tryd.f3 rfl rfl rfl rfl rfl rfl rfl ⟨rfl, rfl, rfl, rfl, rfl⟩ rfl rfl rfl rfl rfl named Tryd.func3 closed inst wrap
    (fun os started H enc _ => lifted os started H enc)

theorem card : Rows.FnExactArchiveBytesCardSaid :=
  Claim7.holds_tied_plain_at .later [] [.data] true (true, "0d28f6c47f94b2c874195a4a7af6a35be429fef99f1830b0cebe9e0ff4b62122") true
    over (fun _ h => by cases h) (by kernel_rfl) (fun _ h => by cases h) fnExactArchiveBytes_row_tie rfl ⟨rfl, rfl⟩ (by kernel_rfl) rfl
    (fun f fn hf hfn => by
      obtain rfl : f = 3 := Option.some.inj ((show Tryd.prog.funcNamed "loop.example/g00340/laws.FnExactArchiveBytes" = some 3 by kernel_rfl).symm.trans hf) |>.symm
      obtain rfl : fn = Tryd.f3 := (Option.some.inj (Tryd.func3.symm.trans hfn)).symm
      exact ⟨by kernel_rfl, fun j t ht => by
        rw [Tryd.params3] at ht
        have hm : t ∈ [22] := by simpa using Array.mem_of_getElem? ht
        have hall : ([22].all fun u => !Tryd.prog.wantsStandIn u) = true := by kernel_rfl
        exact (show Tryd.prog.wantsStandIn t = false by simpa using List.all_eq_true.1 hall t hm)⟩)
    (by kernel_rfl)
end Go.Proofs.YtmbndpgoihdpnaaDoor.fnExactArchiveBytes
namespace Go.Proofs.YtmbndpgoihdpnaaDoor
theorem fnExactArchiveBytes_holds : Rows.FnExactArchiveBytesCardSaid := fnExactArchiveBytes.card
end Go.Proofs.YtmbndpgoihdpnaaDoor
