/-
  Ra3. By an AI agent.
-/
import Derived.Test.YtmbndpgoihdpnaaGreatDoorBoxes
import Derived.Test.YtmbndpgoihdpnaaGreatDoorFr2
import Derived.LaidEql
import Derived.Stop.Asserts
import Derived.RowKitTokens
namespace Go.Proofs.YtmbndpgoihdpnaaGreatDoor
open Go.ChangeShapes Go.WideShapes Go.ChangeAt Go.RowKit Go.Deep Go.Extern.Stop Go.Stop Go.Extern
set_option linter.unusedVariables false
set_option maxRecDepth 100000

theorem as_nilX (t : Value) (w : World) : Calls Tryz.prog 77 #[.nilIface, t] w fun e w' => e = .returned (.bool false) ∧ w' = w := by
  go_enter Tryz.func77, Tryz.ntmps77
  go_wp2
  go_ret
  exact ⟨rfl, rfl⟩
/-- The value of a pointer to the variable. -/
abbrev rvX (t : Nat) (a : Addr) (fl : Int) : Value := .agg #[.pointer (some ⟨4, t, none⟩), .pointer (some a), .int .u64 fl]
theorem xValueOf (t : Addr) (w : World) : (ReflectliteValue.unpack (.iface 117 (.pointer (some t)))).run Tryz.prog w = .ok (rvX 117 ⟨w.heap.size, 0, none⟩ 150) (w.alloc (.cells #[.pointer (some t)] 117)) := by kernel_rfl
theorem xType (a : Addr) (w : World) : (ReflectliteValue.methodAny (ReflectliteValue.valueError "reflectlite.Value.Type" 0) (fun t _ _ _ => ReflectliteType.toType t) #[rvX 117 a 150]).run Tryz.prog w = .ok (.iface 184 (.agg #[.pointer (some ⟨4, 117, none⟩)])) w := by kernel_rfl
theorem xmKind (z : Value) (w : World) : (Go.method 354 184 (.agg #[z]) "Kind").run Tryz.prog w = .ok (168, z) w := by kernel_rfl
theorem xKindRR (w : World) : ((ReflectliteType.abiMethod fun t => (fun a : Nat => Value.int IntKind.u8 (a : Int)) <$> Rtype.kind t) #[.pointer (some ⟨4, 117, none⟩)]).run Tryz.prog w = .ok (.int .u8 22) w := by kernel_rfl
theorem xKindR (w : World) : ((ReflectliteType.abiMethod fun t => (fun a : Nat => Value.int IntKind.u8 (a : Int)) <$> Rtype.kind t) #[.pointer (some ⟨4, 113, none⟩)]).run Tryz.prog w = .ok (.int .u8 22) w := by kernel_rfl
theorem xrlm (z : Sem Value) (f : TypeId → Addr → Nat → Nat → Sem Value) (v : Value) :
    ReflectliteValue.method z f #[v] = (do match ← ReflectliteValue.parts v with | none => z | some (t, a, fl) => f t a fl (fl % 32)) := rfl
theorem xPartsRR (a : Addr) (w : World) : (ReflectliteValue.parts (rvX 117 a 150)).run Tryz.prog w = .ok (some (117, a, 150)) w := by kernel_rfl
theorem xIsNil (a p : Addr) (W : World) (ha : W.cell? a = some (.pointer (some p))) :
    (ReflectliteValue.method (ReflectliteValue.valueError "reflectlite.Value.IsNil" 0) ReflectliteValue.isNil #[rvX 117 a 150]).run Tryz.prog W = .ok (.bool false) W := by
  rw [xrlm]
  simp only [Sem.run_bind, xPartsRR, Result.andThen]
  simp [ReflectliteValue.isNil, loadVar, isAgg, underlying, Tryz.underlying117, ha, Result.andThen]
theorem xmElem (z : Value) (w : World) : (Go.method 354 184 (.agg #[z]) "Elem").run Tryz.prog w = .ok (181, .agg #[z]) w := by kernel_rfl
theorem xmImpl (z : Value) (w : World) : (Go.method 354 184 (.agg #[z]) "Implements").run Tryz.prog w = .ok (182, .agg #[z]) w := by kernel_rfl
theorem xmAssign (z : Value) (w : World) : (Go.method 354 184 (.agg #[z]) "AssignableTo").run Tryz.prog w = .ok (179, .agg #[z]) w := by kernel_rfl
theorem xElem (w : World) : (ReflectliteType.method ReflectliteType.elem #[.agg #[.pointer (some ⟨4, 117, none⟩)]]).run Tryz.prog w = .ok (.iface 184 (.agg #[.pointer (some ⟨4, 113, none⟩)])) w := by kernel_rfl
theorem xImpl (w : World) : (ReflectliteType.relation "Implements" ReflectliteType.implements_ #[.agg #[.pointer (some ⟨4, 113, none⟩)], .iface 184 (.agg #[.pointer (some ⟨4, 77, none⟩)])]).run Tryz.prog w = .ok (.bool true) w := by kernel_rfl
theorem xTypeOf (v : Value) (w : World) : (ReflectliteType.typeOf #[.iface 113 v]).run Tryz.prog w = .ok (.iface 184 (.agg #[.pointer (some ⟨4, 113, none⟩)])) w := by kernel_rfl
theorem xAssign (w : World) : (ReflectliteType.relation "AssignableTo" ReflectliteType.assignableTo #[.agg #[.pointer (some ⟨4, 113, none⟩)], .iface 184 (.agg #[.pointer (some ⟨4, 113, none⟩)])]).run Tryz.prog w = .ok (.bool true) w := by kernel_rfl
theorem xValueOfR (e : Addr) (w : World) : (ReflectliteValue.unpack (.iface 113 (.pointer (some e)))).run Tryz.prog w = .ok (rvX 113 ⟨w.heap.size, 0, none⟩ 150) (w.alloc (.cells #[.pointer (some e)] 113)) := by kernel_rfl
theorem xElemOf (w : World) : (Rtype.elem? 117).run Tryz.prog w = .ok (some 113) w := by kernel_rfl
theorem xMk (p : Addr) (w : World) : (ReflectliteValue.mk 113 p ReflectliteValue.flagAddr).run Tryz.prog w = .ok (rvX 113 p 406) w := by kernel_rfl
theorem xElemV (a p : Addr) (W : World) (ha : W.cell? a = some (.pointer (some p))) :
    (ReflectliteValue.method (ReflectliteValue.valueError "reflectlite.Value.Elem" 0) ReflectliteValue.elem #[rvX 117 a 150]).run Tryz.prog W = .ok (rvX 113 p 406) W := by
  rw [xrlm]
  simp only [Sem.run_bind, xPartsRR, Result.andThen]
  simp [ReflectliteValue.elem, loadVar, isAgg, underlying, Tryz.underlying117, ha, Result.andThen, xElemOf, xMk]
theorem xrls (v x : Value) : ReflectliteValue.set #[v, x] = (do
    let (some (dst, a, fl), some (src, b, _)) := (← ReflectliteValue.parts v, ← ReflectliteValue.parts x)
      | unsupported (.noEntry "extern/(internal/reflectlite.Value).Set.zeroValue")
    if fl / ReflectliteValue.flagAddr % 2 == 0 then unsupported (.noEntry "extern/(internal/reflectlite.Value).Set.unaddressable")
    let val ← loadVar src b
    if ← Rtype.directlyAssignable dst src then storeVar dst a val
    else if ← Rtype.implements dst src then
      if (← Rtype.kind src) == 20 then
        match val with
        | .nilIface => unsupported (.noEntry "extern/reflectlite: a nil value of one interface type handed on as a value of another")
        | _ => storeVar dst a val
      else storeVar dst a (.iface src val)
    else panicString ("reflectlite.Set: value of type " ++ (← Rtype.spelt src) ++ " is not assignable to type " ++ (← Rtype.spelt dst))
    pure (.tuple #[])) := rfl
theorem xPartsA (a : Addr) (w : World) : (ReflectliteValue.parts (rvX 113 a 406)).run Tryz.prog w = .ok (some (113, a, 406)) w := by kernel_rfl
theorem xPartsB (a : Addr) (w : World) : (ReflectliteValue.parts (rvX 113 a 150)).run Tryz.prog w = .ok (some (113, a, 150)) w := by kernel_rfl
theorem xDirect (w : World) : (Rtype.directlyAssignable 113 113).run Tryz.prog w = .ok true w := by kernel_rfl
theorem xSet (ta b e : Addr) (old : Value) (W : World) (hb : W.cell? b = some (.pointer (some e))) (ht : W.cell? ta = some old) (hf : W.frozen? ta = false) :
    (ReflectliteValue.set #[rvX 113 ta 406, rvX 113 b 150]).run Tryz.prog W = .ok (.tuple #[]) (W.setCell ta (.pointer (some e))) := by
  rw [xrls]
  simp only [Sem.run_bind, xPartsA, xPartsB, Result.andThen]
  simp [ReflectliteValue.flagAddr, loadVar, isAgg, underlying, Tryz.underlying113, hb, Result.andThen, xDirect, storeVar, Value.cells, storeCells, Addr.add]
  rw [run_store Tryz.prog W ta _ _ (by rfl)]
  simp [ht, hf]
/-- The library's handle of the type error lies in its variable. -/
def HasErr (w : World) : Prop := w.cell? ⟨1, 0, none⟩ = some (.iface 184 (.agg #[.pointer (some ⟨4, 77, none⟩)]))
theorem HasErr.below {w w' : World} (h : HasErr w) (hb : Below w.heap.size w w') : HasErr w' := (hb.cell (World.block_lt_of_cell? _ _ h)).trans h

set_option maxHeartbeats 8000000 in
theorem as_hitX (e t : Addr) (old : Value) (w : World) (hg : HasErr w) (ht0 : w.cell? t = some old) (hf0 : w.frozen? t = false) :
    Calls Tryz.prog 77 #[.iface 113 (.pointer (some e)), .iface 117 (.pointer (some t))] w fun ev w' => ev = .returned (.bool true) ∧ w' = (((((w.alloc (.cells #[.pointer (some t)] 117)).alloc (.cells #[.pointer (some ⟨4, 117, none⟩), .pointer (some ⟨w.heap.size, 0, none⟩), .int .u64 150] 153)).alloc (.cells #[.pointer (some ⟨4, 117, none⟩), .pointer (some ⟨w.heap.size, 0, none⟩), .int .u64 150] 153)).alloc (.cells #[.pointer (some e)] 113))).setCell t (.pointer (some e)) := by
  have h6 := @run_callFunc_extern Tryz.prog 105 _ (fun args => ReflectliteValue.unpack (args.getD 0 (.tuple #[]))) Tryz.func105 (by kernel_rfl) (by kernel_rfl) (by kernel_rfl) (by kernel_rfl)
  have h7 := @run_callFunc_extern Tryz.prog 106 _ (ReflectliteValue.methodAny (ReflectliteValue.valueError "reflectlite.Value.Type" 0) (fun t _ _ _ => ReflectliteType.toType t)) Tryz.func106 (by kernel_rfl) (by kernel_rfl) (by kernel_rfl) (by kernel_rfl)
  have h8 := @run_callFunc_extern Tryz.prog 107 _ (ReflectliteValue.method (ReflectliteValue.valueError "reflectlite.Value.IsNil" 0) ReflectliteValue.isNil) Tryz.func107 (by kernel_rfl) (by kernel_rfl) (by kernel_rfl) (by kernel_rfl)
  have h27 := @run_callFunc_extern Tryz.prog 168 _ (ReflectliteType.abiMethod fun t => do pure (.int .u8 (← Rtype.kind t))) Tryz.func168 (by kernel_rfl) (by kernel_rfl) (by kernel_rfl) (by kernel_rfl)
  have h37 := @run_callFunc_extern Tryz.prog 181 _ (ReflectliteType.method ReflectliteType.elem) Tryz.func181 (by kernel_rfl) (by kernel_rfl) (by kernel_rfl) (by kernel_rfl)
  have h38 := @run_callFunc_extern Tryz.prog 182 _ (ReflectliteType.relation "Implements" ReflectliteType.implements_) Tryz.func182 (by kernel_rfl) (by kernel_rfl) (by kernel_rfl) (by kernel_rfl)
  have h10 := @run_callFunc_extern Tryz.prog 109 _ ReflectliteType.typeOf Tryz.func109 (by kernel_rfl) (by kernel_rfl) (by kernel_rfl) (by kernel_rfl)
  have h35 := @run_callFunc_extern Tryz.prog 179 _ (ReflectliteType.relation "AssignableTo" ReflectliteType.assignableTo) Tryz.func179 (by kernel_rfl) (by kernel_rfl) (by kernel_rfl) (by kernel_rfl)
  have h11 := @run_callFunc_extern Tryz.prog 127 _ (ReflectliteValue.method (ReflectliteValue.valueError "reflectlite.Value.Elem" 0) ReflectliteValue.elem) Tryz.func127 (by kernel_rfl) (by kernel_rfl) (by kernel_rfl) (by kernel_rfl)
  have h12 := @run_callFunc_extern Tryz.prog 128 _ ReflectliteValue.set Tryz.func128 (by kernel_rfl) (by kernel_rfl) (by kernel_rfl) (by kernel_rfl)
  have tO := xTypeOf
  have mA := xmAssign
  have a25 := xAssign
  have v25 := xValueOfR
  have f6 := xValueOf
  have f7 := xType
  have mK := xmKind
  have mE := xmElem
  have mI := xmImpl
  have k27 := xKindRR
  have k25 := xKindR
  have e27 := xElem
  have i25 := xImpl
  have n8 := xIsNil ⟨w.heap.size, 0, none⟩ t ((w.alloc (.cells #[.pointer (some t)] 117)).alloc (.cells #[.pointer (some ⟨4, 117, none⟩), .pointer (some ⟨w.heap.size, 0, none⟩), .int .u64 150] 153)) (by simp)
  have hlt : 1 < w.heap.size := World.block_lt_of_cell? _ _ hg
  have hg2 : ((w.alloc (.cells #[.pointer (some t)] 117)).alloc (.cells #[.pointer (some ⟨4, 117, none⟩), .pointer (some ⟨w.heap.size, 0, none⟩), .int .u64 150] 153)).cell? ⟨1, 0, none⟩ = some (.iface 184 (.agg #[.pointer (some ⟨4, 77, none⟩)])) := by
    rw [World.cell?_alloc_lt _ _ ⟨1, 0, none⟩ (by simp; omega), World.cell?_alloc_lt _ _ ⟨1, 0, none⟩ hlt]; exact hg
  have htl : t.block < w.heap.size := by
    rcases Nat.lt_or_ge t.block w.heap.size with h | h
    · exact h
    · simp [World.cell?, Array.getElem?_eq_none h] at ht0
  have el := xElemV ⟨w.heap.size, 0, none⟩ t (((w.alloc (.cells #[.pointer (some t)] 117)).alloc (.cells #[.pointer (some ⟨4, 117, none⟩), .pointer (some ⟨w.heap.size, 0, none⟩), .int .u64 150] 153)).alloc (.cells #[.pointer (some ⟨4, 117, none⟩), .pointer (some ⟨w.heap.size, 0, none⟩), .int .u64 150] 153)) (by rw [World.cell?_alloc_lt _ _ ⟨w.heap.size, 0, none⟩ (by simp; omega)]; simp)
  have st := xSet t ⟨w.heap.size + 1 + 1 + 1, 0, none⟩ e old ((((w.alloc (.cells #[.pointer (some t)] 117)).alloc (.cells #[.pointer (some ⟨4, 117, none⟩), .pointer (some ⟨w.heap.size, 0, none⟩), .int .u64 150] 153)).alloc (.cells #[.pointer (some ⟨4, 117, none⟩), .pointer (some ⟨w.heap.size, 0, none⟩), .int .u64 150] 153)).alloc (.cells #[.pointer (some e)] 113))
    (by rw [World.cell?_alloc_at _ _ _ _ (by simp)]; rfl)
    (by rw [World.cell?_alloc_lt _ _ t (by simp; omega), World.cell?_alloc_lt _ _ t (by simp; omega), World.cell?_alloc_lt _ _ t (by simp; omega), World.cell?_alloc_lt _ _ t htl]; exact ht0)
    (by rw [World.frozen?_alloc_old _ _ t (by simp; omega), World.frozen?_alloc_old _ _ t (by simp; omega), World.frozen?_alloc_old _ _ t (by simp; omega), World.frozen?_alloc_old _ _ t (Nat.ne_of_lt htl)]; exact hf0)
  go_enter Tryz.func77, Tryz.ntmps77
  go_wp2
  refine wp_loop_rounds 1 ?_
  rw [rounds_succ]
  go_wp2
  go_ret
  exact ⟨rfl, rfl⟩

end Go.Proofs.YtmbndpgoihdpnaaGreatDoor
namespace Go.Proofs.YtmbndpgoihdpnaaGreatDoor
open Go.ChangeShapes Go.WideShapes Go.ChangeAt Go.RowKit Go.Deep
set_option linter.unusedVariables false
set_option maxRecDepth 100000

theorem codeInN (w : World) : Calls Tryz.prog 46 #[.nilIface] w fun e w' => e = .returned (.int .i64 0) ∧ w' = w := by
  go_enter Tryz.func46, Tryz.ntmps46
  go_wp2_with fail
  go_ret
  exact ⟨rfl, rfl⟩

set_option maxHeartbeats 2000000 in
theorem codeInR (eb : Nat) (q : Int) (w : World) (hb : Box w eb [.int .i64 q]) (hE : HasErr w) :
    Calls Tryz.prog 46 #[.iface 113 (.pointer (some ⟨eb, 0, none⟩))] w fun e w' => e = .returned (.int .i64 q) ∧ Below w.heap.size w w' := by
  obtain ⟨hq, _⟩ := hb 0 _ rfl
  have hlt : eb < w.heap.size := World.block_lt_of_cell? _ _ hq
  have HQ : Hid (w.cell? ⟨eb, 0, none⟩ = some (.int .i64 q)) := hq
  have HE : Hid (HasErr w) := hE
  clear hq hb hE
  go_enter Tryz.func46, Tryz.ntmps46
  go_wp2_with fail
  refine (as_hitX ⟨eb, 0, none⟩ ⟨w.heap.size, 0, none⟩ (.pointer none) _ (HE.out.below ((Below.refl _ _).alloc (Nat.le_refl _) _)) (by simp) (by simp)).mono ?_
  rintro e w1 ⟨rfl, hw1⟩
  have h1 : w1.cell? ⟨w.heap.size, 0, none⟩ = some (.pointer (some ⟨eb, 0, none⟩)) := by
    rw [hw1]
    exact World.cell?_setCell_same _ _ _ (u := .pointer none) (by
      rw [World.cell?_alloc_lt _ _ _ (by simp; omega), World.cell?_alloc_lt _ _ _ (by simp; omega), World.cell?_alloc_lt _ _ _ (by simp; omega), World.cell?_alloc_lt _ _ _ (by simp)]; simp)
  have B1 : Below w.heap.size w w1 := by
    rw [hw1]
    exact Below.setCell (((((((Below.refl _ _).alloc (Nat.le_refl _) _).alloc (by simp) _).alloc (by simp; omega) _).alloc (by simp; omega) _).alloc (by simp; omega) _)) (by dsimp only; omega) _
  have h2 : w1.cell? ⟨eb, 0, none⟩ = some (.int .i64 q) := (B1.cell (p := ⟨eb, 0, none⟩) hlt).trans HQ.out
  have HB : Hid (Below w.heap.size w w1) := B1
  clear hw1 B1
  go_wp2_with fail
  go_ret
  exact ⟨rfl, HB.out⟩
end Go.Proofs.YtmbndpgoihdpnaaGreatDoor
namespace Go.Proofs.YtmbndpgoihdpnaaGreatDoor
open Go.ChangeShapes Go.WideShapes Go.ChangeAt Go.RowKit Go.Deep
set_option linter.unusedVariables false
set_option linter.unusedSimpArgs false
set_option maxRecDepth 100000

/-- Three values stored at the head of block B. -/
abbrev W3t (w : World) (B : Nat) (v0 v1 v2 : Value) : World := ((w.setCell ⟨B, 0, none⟩ v0).setCell ⟨B, 1, none⟩ v1).setCell ⟨B, 2, none⟩ v2
theorem linkV (v : Value) (D : BM) (w : World) (hok : okK D = true) (hv : ReadsK w v D) (hH : HasHalf w) :
    Calls Tryz.prog 65 #[v] w fun e w' => e = .returned (.int .i64 ((linkN D : Nat) : Int)) ∧ Below w.heap.size w w' := by
  obtain ⟨a, c, rfl, h⟩ := hv
  have F0 := okK_facts hok
  obtain ⟨cx, hcx⟩ : ∃ x : Nat, D.C = (x : Int) := ⟨D.C.toNat, by have := F0.1; omega⟩
  obtain ⟨sx, hsx⟩ : ∃ x : Nat, D.S = (x : Int) := ⟨D.S.toNat, by have := F0.2.1; omega⟩
  have E : linkN D = sumL (numQ cx ++ fieldsB [D.F, D.T] ++ partsB D.D ++ numQ sx) := by
    unfold linkN headB
    rw [hcx, hsx, Int.toNat_natCast, Int.toNat_natCast]
  rw [E, hcx, hsx]
  exact backupLink D.F D.T cx sx a D.D.length c D.D w F0.2.2.1 F0.2.2.2.1 (by have := F0.1; omega) (by have := F0.2.1; omega) rfl F0.2.2.2.2.1 F0.2.2.2.2.2 h hH
theorem box_drew {w : World} {B : Nat} {vs : List Value} (h : Box w B vs) : Box w.drew B vs := h
theorem cells3 {w : World} {B : Nat} {v0 v1 v2 : Value} (h : Box w B [v0, v1, v2]) : w.cell? ⟨B, 0, none⟩ = some v0 ∧ w.cell? ⟨B, 1, none⟩ = some v1 ∧ w.cell? ⟨B, 2, none⟩ = some v2 := ⟨(h 0 _ rfl).1, (h 1 _ rfl).1, (h 2 _ rfl).1⟩

set_option maxHeartbeats 8000000 in
theorem followI (P : List PM) (l : ByteArray) (c : Int) (D : BM) (v : Value) (a : Option Addr) (n cc tb : Nat) (w : World) (hP : P.length = n) (hk : okP P = true) (hd : okK D = true) (hs : smallK D) (h : Src w a (cellsP P)) (hv : ReadsK w v D) (ht : Box w tb [.slice a n cc, .string l, .int .i64 c]) (hH : HasHalf w) :
    Calls Tryz.prog 44 #[.pointer (some ⟨tb, 0, none⟩), v] w fun e w' =>
      (∃ (eb : Nat) (q : Int), q ≠ 0 ∧ e = .returned (.iface 113 (.pointer (some ⟨eb, 0, none⟩))) ∧ folA P l c D = (P, q) ∧ Box w' eb [.int .i64 q] ∧ Below w.heap.size w w') ∨
      (∃ (w1 : World) (u : Value) (R : List PM), e = .returned .nilIface ∧ folA P l c D = (R, 0) ∧ w1.ownsRow w.heap.size 70 2 u R.length (cellsP R) ∧ Below w.heap.size w w1 ∧ w' = W3t w1 tb u (.string D.T) (.int .i64 ((linkN D : Nat) : Int))) := by
  have HV : Hid (ReadsK w v D) := hv
  obtain ⟨b, d, rfl, hb⟩ := hv
  obtain ⟨F, hF⟩ : ∃ A, D.F = A := ⟨_, rfl⟩
  obtain ⟨T, hT⟩ : ∃ A, D.T = A := ⟨_, rfl⟩
  obtain ⟨C, hC⟩ : ∃ A, D.C = A := ⟨_, rfl⟩
  obtain ⟨S, hS⟩ : ∃ A, D.S = A := ⟨_, rfl⟩
  obtain ⟨m, hm⟩ : ∃ n, D.D.length = n := ⟨_, rfl⟩
  obtain ⟨z9, hz9⟩ : ∃ z, linkN D = z := ⟨_, rfl⟩
  have LK : Hid (linkN D = z9) := hz9
  have F0 := okK_facts hd
  have HD : Hid (D.F = F ∧ D.C = C ∧ D.S = S ∧ D.D.length = m ∧ okK D = true) := ⟨hF, hC, hS, hm, hd⟩
  have hm120 : m ≤ 120 := by rw [← hm]; exact F0.2.2.2.2.1
  have HS2 : Hid (∀ x ∈ D.D, x.1.size ≤ 1048576 ∧ x.2.1.size ≤ 1048576 ∧ x.2.2.1.size ≤ 1048576) := hs.2.2.2
  have SP : Hid (Src w a (cellsP P)) := h
  have SD : Hid (Src w b (cellsDf D.D)) := hb
  have HP : Hid (P.length = n ∧ okP P = true ∧ ∀ x ∈ P, x.1.size ≤ 1048576 ∧ x.2.size ≤ 1048576) := ⟨hP, hk, fun x hx => by have := (okP_fitR hk).2 x hx; omega⟩
  have hn60 : n ≤ 60 := by rw [← hP]; exact (okP_good hk).2
  have HT : Hid (Box w tb [.slice a n cc, .string l, .int .i64 c]) := ht
  have HF : Hid (HasHalf w) := hH
  rw [hF, hT, hC, hS, hm] at HV ⊢
  rw [hz9]
  have A0 : Hid (Below w.heap.size w (w.alloc (.cells #[.string F, .string T, .int .i64 C, .slice b m d, .int .i64 S] 34))) := (Below.refl _ _).alloc (Nat.le_refl _) _
  obtain ⟨W0, hW0⟩ : ∃ W, w.alloc (.cells #[.string F, .string T, .int .i64 C, .slice b m d, .int .i64 S] 34) = W := ⟨_, rfl⟩
  have X0 : Hid (Box W0 w.heap.size [.string F, .string T, .int .i64 C, .slice b m d, .int .i64 S]) := by rw [← hW0]; exact Box.new rfl
  have HW0 : Hid (w.alloc (.cells #[.string F, .string T, .int .i64 C, .slice b m d, .int .i64 S] 34) = W0) := hW0
  rw [hW0] at A0
  have Z0 : Hid (W0.heap.size = w.heap.size + 1) := by show _ = _; rw [← hW0]; simp
  clear F0 hF hT hC hS hm hP hk hd hs h hb ht hH hz9 hW0
  have q00 := (X0.out 0 _ rfl).1
  have q02 := (X0.out 2 _ rfl).1
  have q03 := (X0.out 3 _ rfl).1
  obtain ⟨t00, t01, t02⟩ := cells3 (HT.out.below A0.out)
  by_cases e1 : F = l
  case neg =>
    have R1 : Hid (folA P l c D = (P, 13)) := by show _ = _; unfold folA; rw [if_pos (by rw [HD.out.1]; exact e1)]
    have hne : (F.toList == l.toList) = false := by
      rw [beq_eq_false_iff_ne]; exact fun e => e1 (toList_injF e)
    go_enter Tryz.func44, Tryz.ntmps44
    go_wp2_with fail
    rw [HW0.out]
    go_quiet (fail)
    go_wp2_with fail
    refine bodyPost_ret (v := .iface 113 (.pointer (some ⟨W0.heap.size, 0, none⟩))) (by simp [results, Tryz.results44, go_sem]) rfl (.inl ⟨W0.heap.size, 13, by decide, rfl, R1.out, Box.new (by simp), ?_⟩)
    exact Below.alloc (Below.drewN' A0.out nq) (Below.drewN' A0.out nq).size _
  subst e1
  have hne : (F.toList == F.toList) = true := by simp
  by_cases e2 : C = c
  case neg =>
    have R1 : Hid (folA P F c D = (P, 14)) := by show _ = _; unfold folA; rw [if_neg (by rw [HD.out.1]; simp), if_pos (by rw [HD.out.2.1]; exact e2)]
    have hne2 : (C != c) = true := by simpa using e2
    go_enter Tryz.func44, Tryz.ntmps44
    go_wp2_with fail
    rw [HW0.out]
    go_quiet (fail)
    go_wp2_with fail
    obtain ⟨W1, hW1⟩ : ∃ W, W0.drewN nq = W := ⟨_, rfl⟩
    have DW1 : Below W0.heap.size W0 W1 := by rw [← hW1]; exact Below.drewN' (Below.refl _ _) nq
    rw [hW1]
    clear hW1
    have B1 : Hid (Below w.heap.size w W1) := A0.out.trans (DW1.mono A0.out.size)
    have q12 := ((X0.out.below DW1) 2 _ rfl).1
    obtain ⟨t10, t11, t12⟩ := cells3 (HT.out.below B1.out)
    clear DW1 q00 q02 q03 t00 t01 t02
    go_quiet (fail)
    go_wp2_with fail
    refine bodyPost_ret (v := .iface 113 (.pointer (some ⟨W1.heap.size, 0, none⟩))) (by simp [results, Tryz.results44, go_sem]) rfl (.inl ⟨W1.heap.size, 14, by decide, rfl, R1.out, Box.new (by simp), ?_⟩)
    exact Below.alloc (Below.drewN' B1.out nq) (Below.drewN' B1.out nq).size _
  subst e2
  have hne2 : (C != C) = false := by simp
  have R2 : Hid (folA P F C D = if (applyB P D.D).2 ≠ 0 then (P, (applyB P D.D).2) else if ((sumL (fsP (applyB P D.D).1) : Nat) : Int) ≠ D.S then (P, 8) else ((applyB P D.D).1, 0)) := by
    show _ = _; unfold folA; rw [if_neg (by rw [HD.out.1]; simp), if_neg (by rw [HD.out.2.1]; simp)]
  have AB : Hid (applyA P D.D = applyB P D.D) := by
    show _ = _
    unfold applyA
    rw [if_neg (by rw [HP.out.1, HD.out.2.2.2.1]; omega), if_neg (by rw [HP.out.2.1]; decide), if_neg (by rw [HD.out.2.2.2.1]; omega)]
    rfl
  go_enter Tryz.func44, Tryz.ntmps44
  go_wp2_with fail
  rw [HW0.out]
  go_quiet (fail)
  go_wp2_with fail
  obtain ⟨W1, hW1⟩ : ∃ W, W0.drewN nq = W := ⟨_, rfl⟩
  have DW1 : Below W0.heap.size W0 W1 := by rw [← hW1]; exact Below.drewN' (Below.refl _ _) nq
  rw [hW1]
  clear hW1
  have B1 : Hid (Below w.heap.size w W1) := A0.out.trans (DW1.mono A0.out.size)
  have X1 : Hid (Box W1 w.heap.size [.string F, .string T, .int .i64 C, .slice b m d, .int .i64 S]) := X0.out.below DW1
  have q12 := (X1.out 2 _ rfl).1
  obtain ⟨t10, t11, t12⟩ := cells3 (HT.out.below B1.out)
  clear DW1 q00 q02 q03 t00 t01 t02
  go_quiet (fail)
  go_wp2_with fail
  obtain ⟨W2, hW2⟩ : ∃ W, W1.drewN nq = W := ⟨_, rfl⟩
  have DW2 : Below W1.heap.size W1 W2 := by rw [← hW2]; exact Below.drewN' (Below.refl _ _) nq
  rw [hW2]
  clear hW2
  have B2 : Hid (Below w.heap.size w W2) := B1.out.trans (DW2.mono B1.out.size)
  have X2 : Hid (Box W2 w.heap.size [.string F, .string T, .int .i64 C, .slice b m d, .int .i64 S]) := X1.out.below DW2
  have q23 := (X2.out 3 _ rfl).1
  obtain ⟨t20, t21, t22⟩ := cells3 (HT.out.below B2.out)
  clear DW2 q12 t10 t11 t12 X1 B1
  go_region_with (go_at_call 76; refine (implApplyDiff a b n m cc d P D.D _ HP.out.1 HD.out.2.2.2.1 (by omega) (by omega) HP.out.2.2 HS2.out (SP.out.below B2.out.drew) (SD.out.below B2.out.drew)).mono ?_; rintro e w3 ⟨u, R, q, rfl, hR, o3, hb3⟩)
  all_goals
    have B3 : Hid (Below w.heap.size w w3) := B2.out.drew.trans (hb3.mono B2.out.size)
    have X3 : Hid (Box w3 w.heap.size [.string F, .string T, .int .i64 C, .slice b m d, .int .i64 S]) := Box.below (box_drew X2.out) hb3
    have O3 : Hid (w3.ownsRow w.heap.size 70 2 u R.length (cellsP R)) := own_mono o3 (show w.heap.size ≤ W2.drew.heap.size from B2.out.size)
    have HR : Hid (applyB P D.D = (R, q)) := by show _ = _; rw [← AB.out]; exact hR
    obtain ⟨ua, uc, rfl, su, _⟩ := own_src o3
    have S3 : Hid (Src w3 ua (cellsP R)) := su
    clear hb3 o3 hR su q23 t20 t21 t22 X2 B2
    by_cases e3 : q = 0
    case neg =>
      have R3 : Hid (folA P F C D = (P, q)) := by show _ = _; rw [R2.out, HR.out, if_pos e3]
      have hne3 : (q != 0) = true := by simpa using e3
      go_wp2_with fail
      refine bodyPost_ret (v := .iface 113 (.pointer (some ⟨w3.heap.size, 0, none⟩))) (by simp [results, Tryz.results44, go_sem]) rfl (.inl ⟨w3.heap.size, q, e3, rfl, R3.out, Box.new (by simp), ?_⟩)
      exact Below.alloc (B3.out) (B3.out).size _
    subst e3
    have GR : Hid (GoodL R ∧ R.length ≤ 60) := applyB_goodL (okP_good HP.out.2.1).1 HR.out
    have FR : Hid (R.length ≤ 60 ∧ ∀ p ∈ R, p.1.size ≤ 90 ∧ p.2.size ≤ 90) := okP_fitR (GR.out.1.pairsB GR.out.2)
    have R3 : Hid (folA P F C D = if ((sumL (fsP R) : Nat) : Int) ≠ S then (P, 8) else (R, 0)) := by show _ = _; rw [R2.out, HR.out, if_neg (by simp), HD.out.2.2.1]
    obtain ⟨z, hz⟩ : ∃ z, sumL (fsP R) = z := ⟨_, rfl⟩
    have HZ : Hid (sumL (fsP R) = z) := hz
    obtain ⟨k, hk⟩ : ∃ k, R.length = k := ⟨_, rfl⟩
    have HK : Hid (R.length = k) := hk
    have hk60 : k ≤ 60 := by rw [← hk]; exact FR.out.1
    have p4 := (X3.out 4 _ rfl).1
    rw [hk] at O3 ⊢
    clear hz hk
    by_cases e4 : (z : Int) = S
    case neg =>
      have R4 : Hid (folA P F C D = (P, 8)) := by show _ = _; rw [R3.out, HZ.out, if_pos e4]
      have hne4 : ((z : Int) != S) = true := by simpa using e4
      go_wp2_with fail
      go_region_with (go_at_call 59; refine (sumOf ua k uc R _ HK.out hk60 FR.out.2 (show Src w3.drew ua (cellsP R) from S3.out) (HF.out.below B3.out.drew)).mono ?_; rw [HZ.out]; rintro e w4 ⟨rfl, hb4⟩; obtain r4 := (hb4.cell (p := ⟨w.heap.size, 4, none⟩) (World.block_lt_of_cell? _ _ p4)).trans p4)
      all_goals
        have B4 : Hid (Below w.heap.size w w4) := B3.out.drew.trans (hb4.mono B3.out.size)
        clear hb4
        go_wp2_with fail
        refine bodyPost_ret (v := .iface 113 (.pointer (some ⟨w4.heap.size, 0, none⟩))) (by simp [results, Tryz.results44, go_sem]) rfl (.inl ⟨w4.heap.size, 8, by decide, rfl, R4.out, Box.new (by simp), ?_⟩)
        exact Below.alloc (B4.out) (B4.out).size _
    have R4 : Hid (folA P F C D = (R, 0)) := by show _ = _; rw [R3.out, HZ.out, if_neg (by simpa using e4)]
    have hne4 : ((z : Int) != S) = false := by simpa using e4
    go_wp2_with fail
    go_region_with (go_at_call 59; refine (sumOf ua k uc R _ HK.out hk60 FR.out.2 (show Src w3.drew ua (cellsP R) from S3.out) (HF.out.below B3.out.drew)).mono ?_; rw [HZ.out]; rintro e w4 ⟨rfl, hb4⟩; obtain r4 := (hb4.cell (p := ⟨w.heap.size, 4, none⟩) (World.block_lt_of_cell? _ _ p4)).trans p4)
    all_goals
      have B4 : Hid (Below w.heap.size w w4) := B3.out.drew.trans (hb4.mono B3.out.size)
      have X4 : Hid (Box w4 w.heap.size [.string F, .string T, .int .i64 C, .slice b m d, .int .i64 S]) := Box.below (box_drew X3.out) hb4
      have O4 : Hid (w4.ownsRow w.heap.size 70 2 (.slice ua k uc) k (cellsP R)) := own_below (show w3.drew.ownsRow w.heap.size 70 2 (.slice ua k uc) k (cellsP R) from O3.out) hb4
      obtain ⟨y0, _⟩ := X4.out 0 _ rfl
      obtain ⟨y1, _⟩ := X4.out 1 _ rfl
      obtain ⟨y2, _⟩ := X4.out 2 _ rfl
      obtain ⟨y3, _⟩ := X4.out 3 _ rfl
      obtain ⟨y4, _⟩ := X4.out 4 _ rfl
      have T4 : Hid (Box w4 tb [.slice a n cc, .string F, .int .i64 C]) := HT.out.below B4.out
      clear hb4 p4 r4
      go_wp2_with fail
      go_region_with (go_at_call 65; refine (linkV _ D _ HD.out.2.2.2.2 (HV.out.below B4.out.drew) (HF.out.below B4.out.drew)).mono ?_; rw [LK.out]; rintro e w5 ⟨rfl, hb5⟩; obtain r1 := (hb5.cell (p := ⟨w.heap.size, 1, none⟩) (World.block_lt_of_cell? _ _ y1)).trans y1; obtain ⟨s0, f0⟩ := (Box.below (box_drew T4.out) hb5) 0 _ rfl; obtain ⟨s1, f1⟩ := ((Box.below (box_drew T4.out) hb5).set 0 (.slice ua k uc)) 1 _ rfl; obtain ⟨s2, f2⟩ := (((Box.below (box_drew T4.out) hb5).set 0 (.slice ua k uc)).set 1 (.string T)) 2 _ rfl)
      all_goals
        have B5 : Hid (Below w.heap.size w w5) := B4.out.drew.trans (hb5.mono B4.out.size)
        have O5 : Hid (w5.ownsRow w.heap.size 70 2 (.slice ua k uc) R.length (cellsP R)) := by
          rw [HK.out]
          exact own_below (show w4.drew.ownsRow w.heap.size 70 2 (.slice ua k uc) k (cellsP R) from O4.out) hb5
        clear hb5
        go_wp2_with fail
        exact bodyPost_ret (v := .nilIface) (by simp [results, Tryz.results44, go_sem]) rfl (.inr ⟨w5, .slice ua k uc, R, rfl, R4.out, O5.out, B5.out, rfl⟩)
set_option maxHeartbeats 4000000 in
theorem implReplay (P : List PM) (l : ByteArray) (c : Int) (D : BM) (v : Value) (a : Option Addr) (n cc : Nat) (w : World) (hP : P.length = n) (hn : n ≤ 1048576) (hl : l.size ≤ 1048576) (hps : ∀ x ∈ P, x.1.size ≤ 1048576 ∧ x.2.size ≤ 1048576) (hs : smallK D) (h : Src w a (cellsP P)) (hv : ReadsK w v D) (hH : HasHalf w) (hE : HasErr w) :
    Calls Tryz.prog 12 #[.slice a n cc, .string l, .int .i64 c, v] w fun e w' => ∃ u R q, e = .returned (.tuple #[u, .int .i64 q]) ∧ rpyA P l c D = (R, q) ∧ w'.ownsRow w.heap.size 70 2 u R.length (cellsP R) ∧ Below w.heap.size w w' := by
  have HV : Hid (ReadsK w v D) := hv
  obtain ⟨b, d, rfl, _⟩ := hv
  obtain ⟨F, hF⟩ : ∃ A, D.F = A := ⟨_, rfl⟩
  obtain ⟨T, hT⟩ : ∃ A, D.T = A := ⟨_, rfl⟩
  obtain ⟨C, hC⟩ : ∃ A, D.C = A := ⟨_, rfl⟩
  obtain ⟨S, hS⟩ : ∃ A, D.S = A := ⟨_, rfl⟩
  obtain ⟨m, hm⟩ : ∃ n, D.D.length = n := ⟨_, rfl⟩
  rw [hF, hT, hC, hS, hm] at HV ⊢
  have SP : Hid (Src w a (cellsP P)) := h
  have P1 : Hid (Sp w a n (fstL P) (sndL P)) := sp_of h hP
  have Q1 : Hid (∀ i, i < n → (fstL P i).size ≤ 1048576 ∧ (sndL P i).size ≤ 1048576) := by rw [← hP]; exact sizes_of hps
  have HS : Hid (smallK D) := hs
  have HP : Hid (P.length = n) := hP
  have HF : Hid (HasHalf w) := hH
  have HE : Hid (HasErr w) := hE
  have PS : Hid (∀ x ∈ P, x.1.size ≤ 1048576 ∧ x.2.size ≤ 1048576) := hps
  have EM : Hid (∀ w9 : World, World.ownsRow (w9.alloc (.cells #[] 70)) w9.heap.size 70 2 (.slice (some ⟨w9.heap.size, 0, none⟩) 0 0) 0 []) := fun w9 => own_empty rfl (Nat.le_refl _)
  have A0 : Hid (Below w.heap.size w (w.alloc (.cells #[.string F, .string T, .int .i64 C, .slice b m d, .int .i64 S] 34))) := (Below.refl _ _).alloc (Nat.le_refl _) _
  clear hF hT hC hS hm hP hs h hps hH hE
  by_cases t1 : (4096 : Int) < (n : Int)
  · have F9 : Hid (rpyA P l c D = ([], 2)) := by show _ = _; unfold rpyA; rw [if_pos (.inl (by rw [HP.out]; omega))]
    go_enter Tryz.func12, Tryz.ntmps12
    go_wp2_with fail
    go_ret2
    exact ⟨_, [], 2, rfl, F9.out, World.ownsRow_nil _ _ _ _, A0.out⟩
  by_cases t2 : (65536 : Int) < (l.size : Int)
  · have F9 : Hid (rpyA P l c D = ([], 2)) := by show _ = _; unfold rpyA; rw [if_pos (.inr (by omega))]
    go_enter Tryz.func12, Tryz.ntmps12
    go_wp2_with fail
    go_ret2
    exact ⟨_, [], 2, rfl, F9.out, World.ownsRow_nil _ _ _ _, A0.out⟩
  have N2 : Hid (¬ (4096 < P.length ∨ 65536 < l.size)) := by show ¬ _; rw [HP.out]; omega
  obtain ⟨k1, hk1⟩ : ∃ b, okP P = b := ⟨_, rfl⟩
  have KP : Hid (okP P = k1 ∧ pairsB (fstL P) (sndL P) n = k1) := ⟨hk1, by rw [← HP.out]; exact hk1⟩
  clear hk1
  cases k1 with
  | false =>
    have F9 : Hid (rpyA P l c D = ([], 1)) := by show _ = _; unfold rpyA; rw [if_neg N2.out, if_pos (.inl KP.out.1)]
    go_enter Tryz.func12, Tryz.ntmps12
    go_wp2_with fail
    refine (implPairsOK a n cc _ _ _ hn Q1.out (sp_of (SP.out.below A0.out) HP.out)).mono ?_
    rw [KP.out.2]
    rintro e w1 ⟨rfl, hb1⟩
    have B1 : Hid (Below w.heap.size w w1) := Below.new hb1
    clear hb1
    go_wp2_with fail
    go_ret2
    exact ⟨_, [], 1, rfl, F9.out, World.ownsRow_nil _ _ _ _, B1.out⟩
  | true =>
  obtain ⟨k2, hk2⟩ : ∃ b, okK D = b := ⟨_, rfl⟩
  have KD : Hid (okK D = k2) := hk2
  clear hk2
  go_enter Tryz.func12, Tryz.ntmps12
  go_wp2_with fail
  refine (implPairsOK a n cc _ _ _ hn Q1.out (sp_of (SP.out.below A0.out) HP.out)).mono ?_
  rw [KP.out.2]
  rintro e w1 ⟨rfl, hb1⟩
  have B1 : Hid (Below w.heap.size w w1) := Below.new hb1
  have X1 : Hid (Box w1 w.heap.size [.string F, .string T, .int .i64 C, .slice b m d, .int .i64 S]) := Box.below (Box.new rfl) hb1
  clear hb1
  obtain ⟨p0, _⟩ := X1.out 0 _ rfl
  obtain ⟨p1, _⟩ := X1.out 1 _ rfl
  obtain ⟨p2, _⟩ := X1.out 2 _ rfl
  obtain ⟨p3, _⟩ := X1.out 3 _ rfl
  obtain ⟨p4, _⟩ := X1.out 4 _ rfl
  go_wp2_with fail
  go_at_call 43
  refine (implBackupOK _ D _ HS.out (HV.out.below B1.out)).mono ?_
  rw [KD.out]
  rintro e w2 ⟨rfl, hb2⟩
  have B2 : Hid (Below w.heap.size w w2) := B1.out.trans (hb2.mono B1.out.size)
  have X2 : Hid (Box w2 w.heap.size [.string F, .string T, .int .i64 C, .slice b m d, .int .i64 S]) := X1.out.below hb2
  clear hb2 p0 p1 p2 p3 p4 X1
  cases k2 with
  | false =>
    have F9 : Hid (rpyA P l c D = ([], 1)) := by show _ = _; unfold rpyA; rw [if_neg N2.out, if_pos (.inr KD.out)]
    go_wp2_with fail
    go_ret2
    exact ⟨_, [], 1, rfl, F9.out, World.ownsRow_nil _ _ _ _, B2.out⟩
  | true =>
  have F8 : Hid (rpyA P l c D = folA P l c D) := by show _ = _; unfold rpyA; rw [if_neg N2.out, if_neg (by rw [KP.out.1, KD.out]; simp)]
  obtain ⟨W2, hW2⟩ : ∃ W, w2.alloc (.cells #[.slice a n cc, .string l, .int .i64 c] 75) = W := ⟨_, rfl⟩
  have B3 : Hid (Below w.heap.size w W2) := by rw [← hW2]; exact B2.out.alloc B2.out.size _
  have X3 : Hid (Box W2 w.heap.size [.string F, .string T, .int .i64 C, .slice b m d, .int .i64 S]) := by rw [← hW2]; exact X2.out.old _
  have T3 : Hid (Box W2 w2.heap.size [.slice a n cc, .string l, .int .i64 c]) := by rw [← hW2]; exact Box.new rfl
  have Z3 : Hid (w.heap.size ≤ w2.heap.size ∧ W2.heap.size = w2.heap.size + 1) := by rw [← hW2]; exact ⟨B2.out.size, by simp⟩
  have HW2 : Hid (w2.alloc (.cells #[.slice a n cc, .string l, .int .i64 c] 75) = W2) := hW2
  obtain ⟨tb, htb⟩ : ∃ t, w2.heap.size = t := ⟨_, rfl⟩
  have HTB : Hid (w2.heap.size = tb) := htb
  have p0 := (X3.out 0 _ rfl).1
  have p1 := (X3.out 1 _ rfl).1
  have p2 := (X3.out 2 _ rfl).1
  have p3 := (X3.out 3 _ rfl).1
  have p4 := (X3.out 4 _ rfl).1
  rw [htb] at T3 Z3
  rw [← hW2] at p0 p1 p2 p3 p4
  clear hW2 htb
  go_wp2_with fail
  go_at_call 44
  rw [HW2.out, HTB.out]
  refine (followI P l c D _ a n cc tb _ HP.out KP.out.1 KD.out HS.out (SP.out.below B3.out) (HV.out.below B3.out) T3.out (HF.out.below B3.out)).mono ?_
  clear p0 p1 p2 p3 p4
  rintro e w3 (⟨eb, q, hq, rfl, hR, hbx, hb3⟩ | ⟨w4, u, R, rfl, hR, o4, hb4, hw3⟩)
  · have RR : Hid (rpyA P l c D = (P, q)) := by show _ = _; rw [F8.out]; exact hR
    have B4 : Hid (Below w.heap.size w w3) := B3.out.trans (hb3.mono B3.out.size)
    have E4 : Hid (Box w3 eb [.int .i64 q]) := hbx
    clear hR hbx hb3
    go_wp2_with fail
    refine (copyPairsS a n cc P _ HP.out hn (SP.out.below B4.out)).mono ?_
    rintro e w5 ⟨u, rfl, o5, hb5⟩
    have B5 : Hid (Below w.heap.size w w5) := B4.out.trans (hb5.mono B4.out.size)
    have O5 : Hid (w5.ownsRow w.heap.size 70 2 u P.length (cellsP P)) := own_mono o5 B4.out.size
    have E5 : Hid (Box w5 eb [.int .i64 q]) := E4.out.below hb5
    obtain ⟨ua, uc, rfl, _, _⟩ := own_src o5
    obtain ⟨z, hz⟩ : ∃ z, P.length = z := ⟨_, rfl⟩
    rw [hz] at O5 ⊢
    have HZ : Hid (P.length = z) := hz
    clear hb5 o5 hz
    go_wp2_with fail
    refine (codeInR eb q _ E5.out (HE.out.below B5.out)).mono ?_
    rintro e w6 ⟨rfl, hb6⟩
    have B6 : Hid (Below w.heap.size w w6) := B5.out.trans (hb6.mono B5.out.size)
    have O6 : Hid (w6.ownsRow w.heap.size 70 2 (.slice ua z uc) P.length (cellsP P)) := by rw [HZ.out]; exact own_below O5.out hb6
    clear hb6
    go_wp2_with fail
    go_ret2
    exact ⟨_, P, q, rfl, RR.out, O6.out, B6.out⟩
  · have RR : Hid (rpyA P l c D = (R, 0)) := by show _ = _; rw [F8.out]; exact hR
    have T4 : Hid (Box w4 tb [.slice a n cc, .string l, .int .i64 c]) := T3.out.below hb4
    have B4 : Hid (Below w.heap.size w w4) := B3.out.trans (hb4.mono B3.out.size)
    obtain ⟨ua, uc, rfl, _, _⟩ := own_src o4
    have B5 : Hid (Below w.heap.size w w3) := by
      rw [hw3]
      exact Below.setCell (Below.setCell (Below.setCell B4.out (by dsimp only; have h9 := Z3.out.1; omega) _) (by dsimp only; have h9 := Z3.out.1; omega) _) (by dsimp only; have h9 := Z3.out.1; omega) _
    have O5 : Hid (w3.ownsRow w.heap.size 70 2 (.slice ua R.length uc) R.length (cellsP R)) := by
      rw [hw3]
      exact own_mono (own_setLow (own_setLow (own_setLow o4 (by dsimp only; have h9 := Z3.out.2; omega) _) (by dsimp only; have h9 := Z3.out.2; omega) _) (by dsimp only; have h9 := Z3.out.2; omega) _) (by have h9 := Z3.out; omega)
    have c0 : w3.cell? ⟨tb, 0, none⟩ = some (.slice ua R.length uc) := by
      rw [hw3]
      exact ((((T4.out.set 0 (.slice ua R.length uc)).set 1 (.string D.T)).set 2 (.int .i64 ((linkN D : Nat) : Int))) 0 _ rfl).1
    obtain ⟨z, hz⟩ : ∃ z, R.length = z := ⟨_, rfl⟩
    rw [hz] at O5 c0
    have HZ : Hid (R.length = z) := hz
    clear hR o4 hb4 hw3 hz
    go_wp2_with fail
    go_ret2
    exact ⟨_, R, 0, rfl, RR.out, by rw [HZ.out]; exact O5.out, B5.out⟩
end Go.Proofs.YtmbndpgoihdpnaaGreatDoor
