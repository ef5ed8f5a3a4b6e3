/-
  Shels Rup Lsg Nmt Lst Kep Emi Rut Rui Rus Ltu in one. By an AI agent.
-/
import Derived.Test.YtbpgncgmolpkiaaGreatDoorShelf
import Derived.Test.YtbpgncgmolpkiaaGreatDoorMzt
import Derived.Test.YtbpgncgmolpkiaaGreatDoorMza
import Derived.Test.YtbpgncgmolpkiaaGreatDoorMzb
import Derived.Test.YtbpgncgmolpkiaaGreatDoorMzr
import Derived.Shelf.Sort.Plain
import Derived.Shelf.Slices.In.SortNone
import Derived.Lib.OwnBridge
import Derived.Sort.OwnSorted
namespace Go.Proofs
open Go.Shelf
def Tryz.lays190_ren : Go.Shelf.Ren := ⟨fun | 190 => 110 | 125 => 104 | 258 => 135 | 128 => 132 | 129 => 133 | 302 => 154 | 303 => 155 | 304 => 156 | 305 => 157 | 306 => 158 | 307 => 159 | 308 => 160 | 309 => 161 | 310 => 162 | 333 => 174 | 329 => 150 | 330 => 151 | 334 => 175 | 335 => 176 | 336 => 177 | 344 => 189 | n => n, fun | 31 => 45 | 9 => 9 | 3 => 3 | 46 => 121 | 0 => 0 | 51 => 139 | 53 => 141 | 4 => 4 | 183 => 133 | 182 => 132 | 131 => 110 | 5 => 5 | 218 => 155 | 222 => 159 | 228 => 172 | 229 => 173 | n => n, fun | n => n⟩
theorem Tryz.lays190 : Go.Proofs.Lays.n190 Tryz.prog Tryz.lays190_ren := {
  mixed := by kernel_rfl
  f125 := Tryz.func104.trans (congrArg some (by kernel_rfl))
  f128 := Tryz.func132.trans (congrArg some (by kernel_rfl))
  f129 := Tryz.func133.trans (congrArg some (by kernel_rfl))
  f190 := Tryz.func110.trans (congrArg some (by kernel_rfl))
  f258 := Tryz.func135.trans (congrArg some (by kernel_rfl))
  f302 := Tryz.func154.trans (congrArg some (by kernel_rfl))
  f303 := Tryz.func155.trans (congrArg some (by kernel_rfl))
  f304 := Tryz.func156.trans (congrArg some (by kernel_rfl))
  f305 := Tryz.func157.trans (congrArg some (by kernel_rfl))
  f306 := Tryz.func158.trans (congrArg some (by kernel_rfl))
  f307 := Tryz.func159.trans (congrArg some (by kernel_rfl))
  f308 := Tryz.func160.trans (congrArg some (by kernel_rfl))
  f309 := Tryz.func161.trans (congrArg some (by kernel_rfl))
  f310 := Tryz.func162.trans (congrArg some (by kernel_rfl))
  f329 := Tryz.func150.trans (congrArg some (by kernel_rfl))
  f330 := Tryz.func151.trans (congrArg some (by kernel_rfl))
  f333 := Tryz.func174.trans (congrArg some (by kernel_rfl))
  f334 := Tryz.func175.trans (congrArg some (by kernel_rfl))
  f335 := Tryz.func176.trans (congrArg some (by kernel_rfl))
  f336 := Tryz.func177.trans (congrArg some (by kernel_rfl))
  f344 := Tryz.func189.trans (congrArg some (by kernel_rfl))
  t0 := Tryz.underlying0
  a0 := Tryz.isAgg0
  z0 := Tryz.sizeOf0
  v0 := Tryz.zeroValue0
  t3 := Tryz.underlying3
  a3 := Tryz.isAgg3
  z3 := Tryz.sizeOf3
  v3 := Tryz.zeroValue3
  t4 := Tryz.underlying4
  a4 := Tryz.isAgg4
  z4 := Tryz.sizeOf4
  v4 := Tryz.zeroValue4
  t5 := Tryz.underlying5
  a5 := Tryz.isAgg5
  z5 := Tryz.sizeOf5
  v5 := Tryz.zeroValue5
  t9 := Tryz.underlying9
  a9 := Tryz.isAgg9
  z9 := Tryz.sizeOf9
  v9 := Tryz.zeroValue9
  t31 := Tryz.underlying45
  a31 := Tryz.isAgg45
  z31 := Tryz.sizeOf45
  v31 := Tryz.zeroValue45
  t46 := Tryz.underlying121
  a46 := Tryz.isAgg121
  z46 := Tryz.sizeOf121
  v46 := Tryz.zeroValue121
  t51 := Tryz.underlying139
  a51 := Tryz.isAgg139
  z51 := Tryz.sizeOf139
  v51 := Tryz.zeroValue139
  t53 := Tryz.underlying141
  a53 := Tryz.isAgg141
  z53 := Tryz.sizeOf141
  v53 := Tryz.zeroValue141
  t131 := Tryz.underlying110
  a131 := Tryz.isAgg110
  z131 := Tryz.sizeOf110
  v131 := Tryz.zeroValue110
  t182 := Tryz.underlying132
  a182 := Tryz.isAgg132
  z182 := Tryz.sizeOf132
  v182 := Tryz.zeroValue132
  t183 := Tryz.underlying133
  a183 := Tryz.isAgg133
  z183 := Tryz.sizeOf133
  v183 := Tryz.zeroValue133
  t218 := Tryz.underlying155
  a218 := Tryz.isAgg155
  z218 := Tryz.sizeOf155
  v218 := Tryz.zeroValue155
  t222 := Tryz.underlying159
  a222 := Tryz.isAgg159
  z222 := Tryz.sizeOf159
  v222 := Tryz.zeroValue159
  t228 := Tryz.underlying172
  a228 := Tryz.isAgg172
  z228 := Tryz.sizeOf172
  v228 := Tryz.zeroValue172
  t229 := Tryz.underlying173
  a229 := Tryz.isAgg173
  z229 := Tryz.sizeOf173
  v229 := Tryz.zeroValue173 }
open Go.Sort Go.RowKit in
theorem Tryz.slices_Sort_string (blk off cap : Nat) (ss : List (List UInt8)) (w : World) (hH : Holds encStr w blk off ss.toArray) (hblk : blk < w.heap.size) (hsz : ss.length < 4611686018427387904) :
    Calls Tryz.prog 110 #[.slice (some ⟨blk, off, none⟩) ss.length cap] w fun e w' =>
      e = .returned (.tuple #[]) ∧ ∃ n os, w' = grow (putRow encStr (Sort.ahead w n) blk off (ss.mergeSort fun x y => decide (x ≤ y)).toArray) os := Any.slices_Sort_string Tryz.lays190 blk off cap ss w hH hblk hsz
end Go.Proofs
namespace Go.Proofs.YtbpgncgmolpkiaaGreatDoor
open Go.ChangeShapes Go.WideShapes Go.ChangeAt Go.RowKit Go.Deep Go.Lib
set_option linter.unusedVariables false
set_option linter.unusedSimpArgs false
set_option maxRecDepth 100000

theorem lies_empty {N : List PM} {nx : Int} {u f : ByteArray} {S : SM} {g : FM} (h : Lies N nx u S) (hus : (47 : UInt8) ∉ u.data.toList) (hfs : (47 : UInt8) ∉ f.data.toList) (hl : lookF f S.fs = some g) : Lies (emptyR N u f) nx u ⟨S.aside, S.word, putF ⟨f, g.val, g.next, []⟩ S.fs⟩ := by
  have p1 := empty_perm h hus hfs
  rw [hl] at p1
  refine ⟨h.up.sublist List.filter_sublist, p1.trans ?_, putF_names h.nd, fun x hx => ?_, h.pass, h.away⟩
  · unfold deskP
    refine List.Perm.cons _ (List.Perm.cons _ (List.Perm.append_left _ ?_))
    exact (flat_perm (u := u) (put_any ⟨f, g.val, g.next, []⟩ S.fs)).symm
  · rcases putF_mem hx with hx | rfl
    · exact h.sl x hx
    · exact hfs
theorem lies_drop {N : List PM} {nx : Int} {u f : ByteArray} {S : SM} {g : FM} (h : Lies N nx u S) (hfs : (47 : UInt8) ∉ f.data.toList) (hl : lookF f S.fs = some g) (hg : g.mails = []) : Lies (notK (folderK u f) N) nx u ⟨S.aside, S.word, dropF f S.fs⟩ := by
  obtain ⟨hgm, hgn⟩ := lookF_mem hl
  refine ⟨h.up.sublist List.filter_sublist, (notK_perm h.pm).trans ?_, h.nd.sublist ((dropF_sub f S.fs).map _), fun x hx => h.sl x ((dropF_sub f S.fs).subset hx), h.pass, h.away⟩
  unfold deskP
  rw [notK_cons _ _ _ (folder_not u f).symm, notK_cons _ _ _ (by
    have h8 := pass_u u f S.word
    unfold passB at h8
    rw [Bool.and_eq_true, decide_eq_true_eq] at h8
    exact h8.1), notK_app]
  refine List.Perm.cons _ (List.Perm.cons _ ?_)
  rw [notK_self (L := notK vK S.aside) fun x hx => by
    have h8 := h.pass f hfs x hx
    unfold passB at h8
    rw [Bool.and_eq_true, decide_eq_true_eq] at h8
    exact h8.1]
  refine List.Perm.append_left _ ((notK_perm (flat_perm (drop_perm hl))).trans ?_)
  rw [flat_cons, notK_app, notK_self (flat_key fun x hx => drop_names h.nd x hx)]
  have e : notK (folderK u f) (fPairs u g) = [] := by
    unfold fPairs
    rw [hg, hgn, List.map_nil, notK_skip (folderK u f) (folderK u f, metaT g.val g.next) [] rfl]
    rfl
  rw [e]
  exact List.Perm.refl _
def stepO (T : List FM) (fs : List FM) (n : ByteArray) : Option FM → List FM
  | none => fs
  | some g => if (lookF n T).isSome = true then putF ⟨n, g.val, g.next, []⟩ fs else dropF n (putF ⟨n, g.val, g.next, []⟩ fs)
/-- A folder emptied, and dropped if the old desk has it not. -/
def stepE (T : List FM) (fs : List FM) (n : ByteArray) : List FM := stepO T fs n (lookF n fs)
theorem stepE_some {T fs : List FM} {n : ByteArray} {g : FM} (h : lookF n fs = some g) : stepE T fs n = if (lookF n T).isSome = true then putF ⟨n, g.val, g.next, []⟩ fs else dropF n (putF ⟨n, g.val, g.next, []⟩ fs) := by
  unfold stepE
  rw [h]
  rfl
theorem look_dropO {n m : ByteArray} (hn : n ≠ m) : ∀ fs : List FM, lookF n (dropF m fs) = lookF n fs
  | [] => rfl
  | f :: fs => by
    unfold dropF
    by_cases e : f.name = m
    · rw [if_pos e]
      conv => rhs; unfold lookF
      rw [if_neg (fun e2 => hn (e2.symm.trans e))]
    · rw [if_neg e]
      unfold lookF
      rw [look_dropO hn fs]
theorem look_stepE {T fs : List FM} {n m : ByteArray} (hn : n ≠ m) : lookF n (stepE T fs m) = lookF n fs := by
  unfold stepE
  cases h : lookF m fs with
  | none => rfl
  | some g =>
    show lookF n (if (lookF m T).isSome = true then putF ⟨m, g.val, g.next, []⟩ fs else dropF m (putF ⟨m, g.val, g.next, []⟩ fs)) = _
    split
    · rw [lookF_put, if_neg (fun e => hn e.symm)]
    · rw [look_dropO hn, lookF_put, if_neg (fun e => hn e.symm)]
theorem stepE_all {P : FM → Prop} {T fs : List FM} {n : ByteArray} (h : ∀ f ∈ fs, P f) (hp : ∀ f ∈ fs, f.name = n → P ⟨n, f.val, f.next, []⟩) : ∀ f ∈ stepE T fs n, P f := by
  unfold stepE
  cases hl : lookF n fs with
  | none => exact h
  | some g =>
    obtain ⟨hgm, hgn⟩ := lookF_mem hl
    have h1 : ∀ f ∈ putF ⟨n, g.val, g.next, []⟩ fs, P f := fun f hf => by
      rcases putF_mem hf with hf | rfl
      · exact h f hf
      · exact hp g hgm hgn
    show ∀ f ∈ (if (lookF n T).isSome = true then putF ⟨n, g.val, g.next, []⟩ fs else dropF n (putF ⟨n, g.val, g.next, []⟩ fs)), P f
    split
    · exact h1
    · exact fun f hf => h1 f ((dropF_sub n _).subset hf)
/-- The same of the list. -/
def stepL (u : ByteArray) (b : Bool) (N : List PM) (n : ByteArray) : List PM := if b = true then emptyR N u n else notK (folderK u n) (emptyR N u n)
theorem lies_step {N : List PM} {nx : Int} {u n : ByteArray} {sd : List PM} {wd : ByteArray} {T fs : List FM} {g : FM} {b : Bool} (h : Lies N nx u ⟨sd, wd, fs⟩) (hus : (47 : UInt8) ∉ u.data.toList) (hns : (47 : UInt8) ∉ n.data.toList) (hl : lookF n fs = some g) (hb : (lookF n T).isSome = b) : Lies (stepL u b N n) nx u ⟨sd, wd, stepE T fs n⟩ := by
  rw [stepE_some hl, hb]
  unfold stepL
  have h1 := lies_empty h hus hns hl
  cases b with
  | true => exact h1
  | false =>
    have h2 := lies_drop h1 hns (g := ⟨n, g.val, g.next, []⟩) (by show lookF n (putF ⟨n, g.val, g.next, []⟩ fs) = _; rw [lookF_put, if_pos rfl]) rfl
    exact h2
/-- What is emptied, all of it. -/
def emL (u : ByteArray) (L : List PM) (N : List PM) (ns : List ByteArray) : List PM := ns.foldl (fun N n => stepL u (metaM L u n).isSome N n) N
def emE (T : List FM) (fs : List FM) (ns : List ByteArray) : List FM := ns.foldl (stepE T) fs
theorem lies_em {L : List PM} {nx : Int} {u : ByteArray} {sd : List PM} {wd : ByteArray} {T : List FM} (hus : (47 : UInt8) ∉ u.data.toList) (hb : ∀ n, (47 : UInt8) ∉ n.data.toList → (lookF n T).isSome = (metaM L u n).isSome) : ∀ {ns : List ByteArray} {N : List PM} {fs : List FM}, Lies N nx u ⟨sd, wd, fs⟩ → ns.Nodup → (∀ n ∈ ns, (47 : UInt8) ∉ n.data.toList ∧ (lookF n fs).isSome = true) → Lies (emL u L N ns) nx u ⟨sd, wd, emE T fs ns⟩
  | [], N, fs, h, _, _ => h
  | n :: ns, N, fs, h, hd, hn => by
    obtain ⟨k1, k2⟩ := hn n List.mem_cons_self
    obtain ⟨g, hg⟩ := Option.isSome_iff_exists.1 k2
    obtain ⟨d1, d2⟩ := List.nodup_cons.1 hd
    show Lies (emL u L (stepL u (metaM L u n).isSome N n) ns) nx u ⟨sd, wd, emE T (stepE T fs n) ns⟩
    refine lies_em (ns := ns) (N := stepL u (metaM L u n).isSome N n) (fs := stepE T fs n) hus hb (lies_step h hus k1 hg (hb n k1)) d2 fun m hm => ?_
    obtain ⟨j1, j2⟩ := hn m (List.mem_cons_of_mem _ hm)
    refine ⟨j1, ?_⟩
    rw [look_stepE (fun e => d1 (by rw [← e]; exact hm))]
    exact j2
theorem emE_all {P : FM → Prop} {T : List FM} (hp : ∀ f : FM, P f → P ⟨f.name, f.val, f.next, []⟩) : ∀ {ns : List ByteArray} {fs : List FM}, (∀ f ∈ fs, P f) → ∀ f ∈ emE T fs ns, P f
  | [], fs, h => h
  | n :: ns, fs, h => emE_all hp (fs := stepE T fs n) (ns := ns) (stepE_all h fun f hf hn => by have h9 := hp f (h f hf); rw [hn] at h9; exact h9)
theorem step_len (u : ByteArray) (b : Bool) (N : List PM) (n : ByteArray) : (stepL u b N n).length ≤ N.length ∧ ∀ x ∈ stepL u b N n, x ∈ N := by
  unfold stepL
  have h1 : (emptyR N u n).length ≤ N.length := List.length_filter_le _ _
  split
  · exact ⟨h1, fun x hx => (List.mem_filter.1 hx).1⟩
  · have h2 : (notK (folderK u n) (emptyR N u n)).length ≤ (emptyR N u n).length := List.length_filter_le _ _
    exact ⟨by omega, fun x hx => (List.mem_filter.1 (notK_sub hx).1).1⟩
theorem em_len (u : ByteArray) (L : List PM) : ∀ (ns : List ByteArray) (N : List PM), (emL u L N ns).length ≤ N.length ∧ ∀ x ∈ emL u L N ns, x ∈ N
  | [], N => ⟨Nat.le_refl _, fun x hx => hx⟩
  | n :: ns, N => by
    obtain ⟨k1, k2⟩ := step_len u (metaM L u n).isSome N n
    obtain ⟨k3, k4⟩ := em_len u L ns (stepL u (metaM L u n).isSome N n)
    exact ⟨Nat.le_trans k3 k1, fun x hx => k2 x (k4 x hx)⟩
/-- Folders restored one by one, in the list and on the desk. -/
def rsU (N0 : List PM) (u : ByteArray) : List PM → List FM → List PM × Int
  | N, [] => (N, 0)
  | N, g :: gs => if (rsG N u g.name g).2 ≠ 0 then (N0, (rsG N u g.name g).2) else rsU N0 u (rsG N u g.name g).1 gs
def rsL (u : ByteArray) : Int → SM → List FM → Int × Int × SM
  | nx, S, [] => (0, nx, S)
  | nx, S, g :: gs => if (rsM nx u S g).1 ≠ 0 then rsM nx u S g else rsL u (rsM nx u S g).2.1 (rsM nx u S g).2.2 gs
theorem rsU_bad {N0 N : List PM} {u : ByteArray} {g : FM} {gs : List FM} {q : Int} (h : (rsG N u g.name g).2 = q) (hq : q ≠ 0) : rsU N0 u N (g :: gs) = (N0, q) := by
  unfold rsU
  rw [h, if_pos hq]
theorem rsU_ok {N0 N Y : List PM} {u : ByteArray} {g : FM} {gs : List FM} (h : rsG N u g.name g = (Y, 0)) : rsU N0 u N (g :: gs) = rsU N0 u Y gs := by
  conv => lhs; unfold rsU
  rw [h, if_neg (by simp)]
theorem rsL_bad {u : ByteArray} {nx nx' q : Int} {S S' : SM} {g : FM} {gs : List FM} (h : rsM nx u S g = (q, nx', S')) (hq : q ≠ 0) : rsL u nx S (g :: gs) = (q, nx', S') := by
  unfold rsL
  rw [h, if_pos hq]
theorem rsL_ok {u : ByteArray} {nx nx' : Int} {S S' : SM} {g : FM} {gs : List FM} (h : rsM nx u S g = (0, nx', S')) : rsL u nx S (g :: gs) = rsL u nx' S' gs := by
  conv => lhs; unfold rsL
  rw [h, if_neg (by simp)]
theorem rsM_ok {u : ByteArray} {nx nx' : Int} {S S' : SM} {g : FM} (h : rsM nx u S g = (0, nx', S')) : nx ≤ 9999 ∧ nx' = nx + 1 ∧ S' = S2F nx S g := by
  unfold rsM at h
  split at h
  · cases h
  · rename_i h1
    split at h
    · cases h
    · split at h
      · cases h
      · split at h
        · cases h
        · cases h
          exact ⟨by omega, rfl, rfl⟩
/-- What a folder must be to be restored. -/
def GoodG (u : ByteArray) (g : FM) : Prop := FitF g ∧ (47 : UInt8) ∉ g.name.data.toList ∧ (g.mails.map (mailP u g.name)).Pairwise (fun a b => a.1 ≠ b.1)
theorem ru_fits {N0 : List PM} {u : ByteArray} (hus : (47 : UInt8) ∉ u.data.toList) : ∀ {gs : List FM} {N : List PM} {nx : Int} {S S' : SM} {q nx' : Int}, Lies N nx u S → N.length ≤ 60 → 0 ≤ nx → nx ≤ 10000 → (∀ f ∈ S.fs, FitF f) → (∀ g ∈ gs, GoodG u g) → rsL u nx S gs = (q, nx', S') → (q ≠ 0 → rsU N0 u N gs = (N0, q)) ∧ (q = 0 → 0 ≤ nx' ∧ nx' ≤ 10000 ∧ (∀ f ∈ S'.fs, FitF f) ∧ ∃ Y, rsU N0 u N gs = (Y, 0) ∧ Lies Y nx' u S' ∧ Y.length ≤ 60)
  | [], N, nx, S, S', q, nx', h, h6, n0, n1, hf, _, hQ => by
    cases hQ
    exact ⟨fun h9 => absurd rfl h9, fun _ => ⟨n0, n1, hf, N, rfl, h, h6⟩⟩
  | g :: gs, N, nx, S, S', q, nx', h, h6, n0, n1, hf, hg, hQ => by
    obtain ⟨g1, g2, g3⟩ := hg g List.mem_cons_self
    obtain ⟨q1, nx1, S1, hm⟩ : ∃ q1 nx1 S1, rsM nx u S g = (q1, nx1, S1) := ⟨_, _, _, rfl⟩
    have hr := rs_fits h n0 n1 hus g2 rfl g3 hm
    by_cases e : q1 = 0
    · subst e
      obtain ⟨r1, r2, r3, r4⟩ := hr.2 rfl
      obtain ⟨m1, m2, m3⟩ := rsM_ok hm
      rw [rsL_ok hm] at hQ
      rw [rsU_ok (Y := (rsG N u g.name g).1) (Prod.ext rfl r1)]
      refine ru_fits hus r4 r3 (by omega) (by omega) (fun f hf9 => ?_) (fun x hx => hg x (List.mem_cons_of_mem _ hx)) hQ
      rw [m3] at hf9
      obtain ⟨e1, e2, e3, e4, e5, e6⟩ := g1
      rcases putF_mem hf9 with hf9 | rfl
      · exact hf f hf9
      · exact ⟨n0, n1, e3, e4, e5, e6⟩
    · rw [rsL_bad hm e] at hQ
      cases hQ
      have h2 := hr.1 e
      exact ⟨fun _ => rsU_bad (by rw [h2]) e, fun h9 => absurd h9 e⟩
end Go.Proofs.YtbpgncgmolpkiaaGreatDoor
namespace Go.Proofs.YtbpgncgmolpkiaaGreatDoor
open Go.ChangeShapes Go.WideShapes Go.ChangeAt Go.RowKit Go.Deep Go.Lib
set_option linter.unusedVariables false
set_option linter.unusedSimpArgs false
set_option maxRecDepth 100000

theorem under_eq (L : List PM) (k : ByteArray) : ∀ n, n ≤ L.length → under (fK L) (fV L) k n = (L.take n).filter fun x => beginsB x.1 k := by
  intro n
  induction n with
  | zero => intro _; rfl
  | succ n ih =>
    intro hn
    have h1 := ih (by omega)
    have hlt : n < L.length := by omega
    rw [List.take_add_one, List.getElem?_eq_getElem hlt, List.filter_append]
    cases hb : beginsB (fK L n) k with
    | true =>
      rw [under_hit _ _ _ _ hb, h1, (at_fst hlt).1, (at_fst hlt).2]
      rw [(at_fst hlt).1] at hb
      simp [hb]
    | false =>
      rw [under_miss _ _ _ _ hb, h1]
      rw [(at_fst hlt).1] at hb
      simp [hb]
abbrev foldersK (u : ByteArray) : ByteArray := folderK u ⟨#[]⟩
def behind (u : ByteArray) (x : PM) : ByteArray := x.1.extract (foldersK u).size x.1.size
def listS (L : List PM) (u : ByteArray) : List ByteArray := (L.filter fun x => beginsB x.1 (foldersK u)).map (behind u)
set_option maxHeartbeats 2000000 in
theorem l07ListS (a : Option Addr) (n c : Nat) (L : List PM) (u : ByteArray) (w : World) (hL : L.length = n) (hg : GoodL L) (hu : u.size ≤ 1000) (h : Src w a (cellsP L)) :
    Calls Tryz.prog 86 #[.slice a n c, .string u] w fun e w' => ∃ v, e = .returned v ∧ w'.ownsRow w.heap.size 9 1 v (listS L u).length (cellsS (listS L u)) ∧ Below w.heap.size w w' := by
  have hz : (foldersK u).size = u.size + 3 := by unfold foldersK folderK; simp only [ByteArray.size_append]; show 2 + u.size + 1 + 0 = _; omega
  obtain ⟨F, hF⟩ : ∃ F, L.filter (fun x => beginsB x.1 (foldersK u)) = F := ⟨_, rfl⟩
  obtain ⟨m, hm⟩ : ∃ m, F.length = m := ⟨_, rfl⟩
  have hmn : m ≤ 60 := by rw [← hm, ← hF]; exact Nat.le_trans (List.length_filter_le _ _) hg.1
  have CU : ∀ W, Below w.heap.size w W → Calls Tryz.prog 90 #[.slice a n c, .string (foldersK u)] W fun e w' => ∃ v, e = .returned v ∧ w'.ownsRow W.heap.size 47 2 v m (cellsP F) ∧ Below W.heap.size W w' := fun W hW => by
    have h9 := l01Under a n c (fK L) (fV L) (foldersK u) W (by have := hg.1; omega) (by omega) (fun i hi => by
      have hi2 : i < L.length := by omega
      have := hg.2.1 _ (List.getElem_mem hi2)
      rw [(at_fst hi2).1, (at_fst hi2).2]
      omega) (sp_src (h.below hW) hL)
    rw [under_eq L _ n (by omega), ← hL, List.take_of_length_le (Nat.le_refl _), hF] at h9
    rw [← hm, ← hL]
    exact h9
  have HFM : Hid (F.length = m ∧ ∀ x ∈ F, (foldersK u).size ≤ x.1.size ∧ x.1.size ≤ 30) := ⟨hm, fun x hx => by
    rw [← hF, List.mem_filter] at hx
    have h9 := hg.2.1 _ hx.1
    have h7 := hx.2
    unfold beginsB at h7
    rw [Bool.and_eq_true, decide_eq_true_eq] at h7
    omega⟩
  have HR : Hid (listS L u = F.map (behind u)) := by show _ = _; unfold listS; rw [hF]
  rw [HR.out]
  obtain ⟨K, hK⟩ : ∃ K, foldersK u = K := ⟨_, rfl⟩
  have HK : Hid (foldersK u = K) := hK
  rw [hK] at CU HFM hz
  have CF : ∀ W, Calls Tryz.prog 53 #[.string u, .string ⟨#[]⟩] W fun e w' => e = .returned (.string K) ∧ w' = W := fun W => by
    rw [← hK]
    exact l07FolderS u ⟨#[]⟩ W (by omega) (by decide)
  have A0 : Hid (Below w.heap.size w (w.alloc (.cells #[] 9))) := (Below.refl _ _).alloc (Nat.le_refl _) _
  clear h hg hL hF hm hK hz
  go_enter Tryz.func86, Tryz.ntmps86
  go_wp2_with fail
  have O0 : Hid ((w.alloc (.cells #[] 9)).ownsRow w.heap.size 9 1 (.slice (some ⟨w.heap.size, 0, none⟩) 0 0) ([] : List ByteArray).length (cellsS [])) := own_empty (by simp) (by simp)
  refine (CF _).mono ?_
  rintro e w1 ⟨rfl, hw1⟩
  obtain rfl := hw1
  go_wp2_with fail
  refine (CU _ A0.out).mono ?_
  rintro e w2 ⟨v2, rfl, own2, hb2⟩
  obtain ⟨ab, cb, rfl, sr2, _⟩ := own_src own2
  have B2 : Hid (Below w.heap.size w w2) := A0.out.trans (hb2.mono A0.out.size)
  have O2 : Hid (w2.ownsRow w.heap.size 9 1 (.slice (some ⟨w.heap.size, 0, none⟩) 0 0) ([] : List ByteArray).length (cellsS [])) := own_below O0.out hb2
  have HS2 : Hid (w2.ownsRow w.heap.size 47 2 (.slice ab m cb) m (cellsP F)) := own_mono own2 A0.out.size
  clear own2 sr2 hb2 O0 A0 CU CF
  go_wp2_with fail
  go_loopw [5, 8] (fun lv iv wr => ∃ (k : Nat) (v : Value), k ≤ m ∧ iv = .int .i64 (k : Int) ∧ v = lv ∧ Hid (wr.ownsRow w.heap.size 9 1 v ((F.take k).map (behind u)).length (cellsS ((F.take k).map (behind u)))) ∧ Hid (wr.ownsRow w.heap.size 47 2 (.slice ab m cb) m (cellsP F)) ∧ Hid (Below w.heap.size w wr)) (fun _ i _ => m - (RowKit.intOf i).toNat)
  case atStart => exact ⟨0, _, by omega, rfl, rfl, O2.out, HS2.out, B2.out⟩
  case round =>
    obtain ⟨k, v, hk, rfl, rfl, hown, hsr, hbr⟩ := hrel
    by_cases hlt : k < m
    · have hlti : (k : Int) < (m : Int) := by omega
      have hkF : k < F.length := by rw [HFM.out.1]; exact hlt
      obtain ⟨a9, c9, e9, s9, _⟩ := own_src hsr.out
      cases e9
      obtain ⟨b, o, pk, pv, rfl, hc0, hc1, hy⟩ := srcP s9 hkF
      clear s9
      have hmem : (pk, pv) ∈ F := by rw [← hy.out]; exact mem_getD F p0 k hkF
      have hsz := HFM.out.2 _ hmem
      have hs1 : K.size ≤ pk.size := hsz.1
      have hsi : (K.size : Int) ≤ (pk.size : Int) := by omega
      have hs0 : (0 : Int) ≤ (K.size : Int) := by omega
      have HT : Hid ((F.take (k + 1)).map (behind u) = (F.take k).map (behind u) ++ [pk.extract K.size pk.size]) := by
        show _ = _
        have h9 : F[k] = (pk, pv) := by
          rw [← hy.out, List.getD_eq_getElem?_getD, List.getElem?_eq_getElem hkF]
          rfl
        rw [List.take_add_one, List.getElem?_eq_getElem hkF, h9, List.map_append]
        unfold behind
        rw [HK.out]
        rfl
      have hlen : ((F.take k).map (behind u)).length = k := by rw [List.length_map, List.length_take]; omega
      have hcut : ∀ W : World, (Instr.slice 9 (.string pk) (some (.int .i64 (K.size : Int))) none none).run Tryz.prog W = .ok (.string (pk.extract K.size pk.size)) W := fun W => by
        have := run_slice_string_l (P := Tryz.prog) (w := W) (t := 9) (s := pk) Tryz.underlying9 .i64 (K.size : Int) hs0 hsi
        exact this
      obtain ⟨tx, htx⟩ : ∃ t, pk.extract K.size pk.size = t := ⟨_, rfl⟩
      rw [htx] at HT
      simp only [htx] at hcut
      obtain ⟨R, hR⟩ : ∃ R, (F.take k).map (behind u) = R := ⟨_, rfl⟩
      rw [hR] at HT hown hlen
      clear hmem hsz htx hR hy
      go_wp2_with (at_builtin; refine wpList_append_src _ rfl _ _ 45 rfl w.heap.size 9 (.string ⟨#[]⟩) 1 16 Tryz.underlying45 infoS rfl (by decide) (by decide) _ R.length (cellsS R) rfl (hown.out.alloc _) (some ⟨wr.heap.size, 0, none⟩) 1 1 (cellsS [tx]) rfl rfl (src_oneC rfl) (cellsS_one _) (by omega) (le_alloc hbr.out.size _) ?_)
      intro v1 w1 hown1 hgrow1
      have HO1 : Hid (w1.ownsRow w.heap.size 9 1 v1 ((F.take (k + 1)).map (behind u)).length (cellsS ((F.take (k + 1)).map (behind u)))) := by
        show w1.ownsRow _ _ _ _ _ _
        rw [HT.out, cellsS_append, List.length_append, hlen]
        exact hown1
      have HB1 : Hid (Below w.heap.size w w1) := (hbr.out.alloc hbr.out.size _).grown hgrow1 (le_alloc hbr.out.size _) (fun g e => (hown.out.lt g e).1)
      have HS1 : Hid (w1.ownsRow w.heap.size 47 2 (.slice (some ⟨b, o, none⟩) m cb) m (cellsP F)) := own_grown (w := wr.alloc (.cells #[.string tx] 9)) (hsr.out.alloc _) hgrow1 (fun g h9 h7 => own_ne hsr.out hown.out (by decide) g h9 h7)
      clear hown1 hgrow1
      go_wp2_with fail
      exact ⟨⟨k + 1, _, by omega, by go_num, rfl, HO1.out, HS1.out, HB1.out⟩, by simp [RowKit.intOf]; omega⟩
    · obtain rfl : k = m := by omega
      have hlti : ¬ (k : Int) < (k : Int) := by omega
      have HO : Hid (wr.ownsRow w.heap.size 9 1 v F.length (cellsS (F.map (behind u)))) := by
        have h9 := hown.out
        rw [List.take_of_length_le (by rw [HFM.out.1]; exact Nat.le_refl _), List.length_map] at h9
        exact h9
      clear hown
      go_wp2_with fail
      go_ret
      exact ⟨v, rfl, HO.out, hbr.out⟩
end Go.Proofs.YtbpgncgmolpkiaaGreatDoor
namespace Go.Proofs.YtbpgncgmolpkiaaGreatDoor
open Go.ChangeShapes Go.WideShapes Go.ChangeAt Go.RowKit Go.Deep Go.Lib
open Go.ChangeMaps (setBlock)
set_option linter.unusedVariables false
set_option linter.unusedSimpArgs false
set_option maxRecDepth 100000

/-- The names of those folders that are still to come. -/
def leftNames (seen : Array Nat) : List FX → List ByteArray
  | [] => []
  | x :: X => if seen.contains x.born = true then leftNames seen X else x.name :: leftNames seen X
theorem leftN_other {seen : Array Nat} {b : Nat} : ∀ {X : List FX}, (∀ x ∈ X, x.born ≠ b) → leftNames (seen.push b) X = leftNames seen X
  | [], _ => rfl
  | x :: X, h => by
    unfold leftNames
    have h1 : (x.born == b) = false := beq_eq_false_iff_ne.2 (h x List.mem_cons_self)
    rw [contains_push, h1, Bool.or_false, leftN_other fun y hy => h y (List.mem_cons_of_mem _ hy)]
theorem leftN_push {seen : Array Nat} {x : FX} : ∀ {X : List FX}, (X.map (·.born)).Nodup → x ∈ X → seen.contains x.born = false → (leftNames seen X).Perm (x.name :: leftNames (seen.push x.born) X)
  | [], _, h, _ => by cases h
  | y :: X, hn, hx, hs => by
    rw [List.map_cons, List.nodup_cons] at hn
    unfold leftNames
    by_cases hb : y.born = x.born
    · have hno : ∀ z ∈ X, z.born ≠ x.born := fun z hz e => hn.1 (List.mem_map.2 ⟨z, hz, by rw [e, hb]⟩)
      rcases List.mem_cons.1 hx with rfl | hx
      · rw [leftN_other hno, contains_push, hs]
        simp
      · exact absurd rfl (hno x hx)
    · have h1 : (y.born == x.born) = false := beq_eq_false_iff_ne.2 hb
      rcases List.mem_cons.1 hx with rfl | hx
      · exact absurd rfl hb
      · have ih := leftN_push hn.2 hx hs
        rw [contains_push, h1, Bool.or_false]
        split
        · exact ih
        · exact (List.Perm.cons _ ih).trans (List.Perm.swap _ _ _)
theorem leftN_end {seen : Array Nat} : ∀ {X : List FX}, (∀ x ∈ X, seen.contains x.born = true) → leftNames seen X = []
  | [], _ => rfl
  | x :: X, h => by
    unfold leftNames
    rw [if_pos (h x List.mem_cons_self), leftN_end fun y hy => h y (List.mem_cons_of_mem _ hy)]
theorem leftN_view {u : ByteArray} : ∀ {X : List FX} {fs : List FM}, View u X fs → leftNames #[] X = fs.map (·.name)
  | [], [], _ => rfl
  | [], _ :: _, h => by cases h
  | _ :: _, [], h => by cases h
  | x :: X, f :: fs, h => by
    unfold View at h
    simp only [List.map_cons, List.cons.injEq, Prod.mk.injEq] at h
    obtain ⟨⟨_, h2⟩, h3⟩ := h
    have ih := leftN_view (u := u) (X := X) (fs := fs) h3
    unfold leftNames
    rw [ih, ← h2]
    simp
theorem own_sort1 {w0 w1 : World} {base g cap n nn : Nat} {os : Array Obj} {ss : List (List UInt8)} (ho : w1.ownsRow base 9 1 (.slice (some ⟨g, 0, none⟩) n cap) n (ss.map encStr)) (hb : Below w0.heap.size w0 w1) (hg : w0.heap.size ≤ g) (hl : ss.length = n) :
    let W := Sort.grow (Sort.putRow encStr (Sort.ahead w1 nn) g 0 (ss.mergeSort fun x y => decide (x ≤ y)).toArray) os
    W.ownsRow base 9 1 (.slice (some ⟨g, 0, none⟩) n cap) n ((ss.mergeSort fun x y => decide (x ≤ y)).map encStr) ∧ Below w0.heap.size w0 W := by
  have hm : (ss.mergeSort fun x y => decide (x ≤ y)).length = ss.length := List.length_mergeSort ss
  subst hl
  obtain ⟨_, ⟨hv, _⟩ | ⟨g', cap', cur, hv, h1, h2, h3, h4, h5, h6⟩⟩ := ho
  · cases hv
  cases hv
  have hs := ownsRow_sorted (n := nn) (os := os) (ts := ss.mergeSort fun x y => decide (x ≤ y)) hm h1 h2 h3 h4 h5
  exact ⟨hs, hb.grown (grownBy_sorted _) hb.size (fun j hj => by cases hj; exact hg)⟩
theorem sortNil (p : Option Addr) (cap : Nat) (w : World) : Calls Tryz.prog 110 #[.slice p 0 cap] w fun e w' => e = .returned (.tuple #[]) ∧ w' = w := Any.slices_Sort_string_none Tryz.lays190 p cap w
set_option maxHeartbeats 2000000 in
theorem namesI (w : World) (M : Nat) (D : DK) (hD : DeskAt w M D) (hX : D.X.length ≤ 60) :
    Calls Tryz.prog 88 #[.pointer (some ⟨M + 1, 0, none⟩)] w fun e w' => ∃ v, e = .returned v ∧ (∃ R : List ByteArray, R.Perm (leftNames #[] D.X) ∧ w'.ownsRow w.heap.size 9 1 v R.length (((R.map (·.data.toList)).mergeSort fun x y => decide (x ≤ y)).map encStr)) ∧ Below w.heap.size w w' := by
  obtain ⟨e5, _⟩ := hD.1 5 _ rfl
  have hM : M < w.heap.size := by have h9 : M + 1 < w.heap.size := World.block_lt_of_cell? _ _ e5; omega
  have HM : Hid (∃ clock, MapIs w M clock D.X) := hD.2.1
  have HSL : Hid (∀ x ∈ D.X, ∃ (ax : Option Addr) (cx : Nat), x.v = .slice ax x.mails.length cx) := fun x hx => by
    obtain ⟨ax, cx, h1, _, _⟩ := own_src (hD.2.2.2.1 x hx)
    exact ⟨ax, cx, h1⟩
  have HN : Hid ((D.X.map (·.born)).Nodup) := by obtain ⟨_, h9⟩ := hD.2.1; exact h9.2.2
  have hll : ∀ X : List FX, (leftNames #[] X).length ≤ X.length := fun X => by
    induction X with
    | nil => exact Nat.le_refl _
    | cons x X ih => unfold leftNames; simp; exact ih
  have HLL : Hid ((leftNames #[] D.X).length ≤ 60) := Nat.le_trans (hll D.X) hX
  clear hD hll
  go_enter Tryz.func88, Tryz.ntmps88
  go_wp2_with (first
    | (at_range; refine wpList_rangeX _ rfl _ 83 rfl Tryz.underlying83 M D.X rfl HM.out ?_; intro w0 hrg0 hb0 hs0)
    | go_in)
  go_frame
  go_loopw [3] (fun v wr => ∃ (seen : Array Nat) (u : Value) (R : List ByteArray), u = v ∧ Hid (RangeX wr M w.heap.size D.X seen) ∧ Hid ((R ++ leftNames seen D.X).Perm (leftNames #[] D.X)) ∧ Hid (wr.ownsRow (w.heap.size + 1) 9 1 u R.length (cellsS R)) ∧ Hid (Below w.heap.size w wr) ∧ Hid (w.heap.size < wr.heap.size)) (fun _ wr => wr.rangeLeft M w.heap.size)
  case atStart => exact ⟨#[], _, [], rfl, hrg0, by show List.Perm _ _; rw [List.nil_append], World.ownsRow_nil _ _ _ _, hb0, by show _ < _; omega⟩
  case round =>
    obtain ⟨seen, u, R, rfl, hrg, hperm, hown, hbw, hlt⟩ := hrel
    have hR60 : R.length ≤ 60 := by
      have h9 := hperm.out.length_eq
      have h7 := HLL.out
      rw [List.length_append] at h9
      omega
    go_wp2_with (first
      | (at_next; refine wpList_nextY _ rfl _ rfl M w.heap.size D.X seen hM rfl hrg.out HSL.out ?_ ?_)
      | go_in)
    · intro hall
      have hz := leftN_end (fun x hx => by simpa using hall.out x hx)
      have HP : Hid (R.Perm (leftNames #[] D.X)) := by have h9 := hperm.out; rw [hz, List.append_nil] at h9; exact h9
      clear hz hall hperm
      have SS : Hid (cellsS R = (R.map (·.data.toList)).map encStr) := by
        show _ = _
        unfold cellsS
        rw [List.map_map]
        exact List.map_congr_left fun x _ => rfl
      obtain ⟨m0, hm0⟩ : ∃ m, R.length = m := ⟨_, rfl⟩
      rw [hm0] at hR60
      have HM0 : Hid (R.length = m0) := hm0
      have HLs : Hid ((R.map (·.data.toList)).length = m0) := by show _ = _; rw [List.length_map, hm0]
      have HO : Hid (wr.ownsRow (w.heap.size + 1) 9 1 u m0 ((R.map (·.data.toList)).map encStr)) := by rw [← SS.out, ← hm0]; exact hown.out
      obtain ⟨ss, hss⟩ : ∃ ss, R.map (·.data.toList) = ss := ⟨_, rfl⟩
      have HSS : Hid (R.map (·.data.toList) = ss) := hss
      rw [hss] at HO HLs
      clear hm0 hown hss SS
      by_cases hu : u = .slice none 0 0
      · subst hu
        have hz : m0 = 0 := by
          obtain ⟨hl, ⟨_, h0⟩ | ⟨g, cap, cur, hv, _⟩⟩ := HO.out
          · exact h0
          · cases hv
        have HNIL : Hid (R = []) := List.eq_nil_of_length_eq_zero (HM0.out.trans hz)
        clear hz
        go_wp2_with (go_at_call 110; refine (sortNil _ _ _).mono ?_; rintro e w2 ⟨rfl, rfl⟩)
        go_ret
        refine ⟨.slice none 0 0, rfl, ⟨R, HP.out, ?_⟩, hbw.out⟩
        rw [HNIL.out]
        simp
        exact World.ownsRow_nil _ _ _ _
      · obtain ⟨g, cap, rfl, hg1, hg2, hg3, hg4, _, hH⟩ := Lib.holds_of_ownsRow HO.out hu
        have C1 : Hid (Calls Tryz.prog 110 #[.slice (some ⟨g, 0, none⟩) m0 cap] wr fun e w' => e = .returned (.tuple #[]) ∧ ∃ n os, w' = Sort.grow (Sort.putRow encStr (Sort.ahead wr n) g 0 (ss.mergeSort fun x y => decide (x ≤ y)).toArray) os) := by
          have h9 := Tryz.slices_Sort_string g 0 cap ss wr hH hg2 (by rw [HLs.out]; omega)
          rw [HLs.out] at h9
          exact h9
        clear hH hu
        go_wp2_with fail
        refine C1.out.mono ?_
        rintro e w2 ⟨rfl, nn, os, hw2⟩
        obtain ⟨oo, bb⟩ := own_sort1 (nn := nn) (os := os) (own_mono HO.out (show w.heap.size ≤ w.heap.size + 1 by omega)) hbw.out (by omega) HLs.out
        rw [← hw2] at oo bb
        have OO : Hid (w2.ownsRow w.heap.size 9 1 (.slice (some ⟨g, 0, none⟩) m0 cap) m0 ((ss.mergeSort fun x y => decide (x ≤ y)).map encStr) ∧ Below w.heap.size w w2) := ⟨oo, bb⟩
        clear oo bb hw2 C1
        go_wp2_with fail
        go_ret
        refine ⟨.slice (some ⟨g, 0, none⟩) m0 cap, rfl, ⟨R, HP.out, ?_⟩, OO.out.2⟩
        rw [HM0.out, HSS.out]
        exact OO.out.1
    · intro x hx hsx ax cx hv w1 hrg1 hlt1 hb1 hgr1 hs1 hen
      have hpush := leftN_push HN.out hx (by simpa using hsx.out)
      obtain ⟨ml, hml⟩ : ∃ k, x.mails.length = k := ⟨_, rfl⟩
      obtain ⟨xn, hxn⟩ : ∃ k, x.name = k := ⟨_, rfl⟩
      rw [hml] at hen ⊢
      rw [hxn] at hpush hen ⊢
      have HS2 : Hid (((R ++ [xn]) ++ leftNames (seen.push x.born) D.X).Perm (leftNames #[] D.X)) := by
        show List.Perm _ _
        rw [List.append_assoc]
        exact (List.Perm.append_left R hpush.symm).trans hperm.out
      have HR1 : Hid (RangeX w1 M w.heap.size D.X (seen.push x.born)) := hrg1
      have HB1 : Hid (Below w.heap.size w w1) := hbw.out.trans hb1
      have HL1 : Hid (w.heap.size < w1.heap.size) := by have h9 := hlt.out; show _ < _; omega
      have HLT : Hid (w1.rangeLeft M w.heap.size < wr.rangeLeft M w.heap.size) := hlt1
      have HO1 : Hid (w1.ownsRow (w.heap.size + 1) 9 1 u R.length (cellsS R)) := own_grown hown.out hgr1 (fun g h9 h7 => by have h5 := (hown.out.lt g h9).1; cases h7; omega)
      clear hpush hperm hrg1 hb1 hbw hlt hml hlt1 hs1 hxn hown hgr1
      go_wp2_with (at_builtin; refine wpList_append_src _ rfl _ _ 45 rfl (w.heap.size + 1) 9 (.string ⟨#[]⟩) 1 16 Tryz.underlying45 infoS rfl (by decide) (by decide) _ R.length (cellsS R) rfl ((HO1.out.alloc _).alloc _) (some ⟨w1.heap.size + 1, 0, none⟩) 1 1 (cellsS [xn]) rfl rfl (src_oneC (by simp)) (cellsS_one _) (by omega) (by have h9 := HL1.out; simp; omega) ?_)
      intro v2 w2 hown2 hgrow2
      have hub : ∀ g, u.ownBlock = some g → w.heap.size + 1 ≤ g := fun g e => (HO1.out.lt g e).1
      have HO2 : Hid (w2.ownsRow (w.heap.size + 1) 9 1 v2 (R ++ [xn]).length (cellsS (R ++ [xn]))) := by
        show w2.ownsRow _ _ _ _ _ _
        rw [cellsS_append, List.length_append]
        exact hown2
      have HR2 : Hid (RangeX w2 M w.heap.size D.X (seen.push x.born)) := RangeX.grown ((HR1.out.later ((Below.refl _ _).alloc (Nat.le_refl _) _)).later ((Below.refl _ _).alloc (Nat.le_refl _) _)) hgrow2 (fun e => by have := hub _ e; omega) (fun e => by have := hub _ e; omega)
      have HB2 : Hid (Below w.heap.size w w2) := ((HB1.out.alloc HB1.out.size _).alloc (by have := HB1.out.size; simp; omega) _).grown hgrow2 (by have := HB1.out.size; simp; omega) (fun g e => by have := hub _ e; omega)
      have HL2 : Hid (w.heap.size < w2.heap.size) := by have h9 := hgrow2.size; have h7 := HL1.out; simp at h9; show _ < _; omega
      clear hown2 hgrow2 hub
      go_wp2_with fail
      go_roundw
      case rel => exact ⟨_, _, R ++ [xn], rfl, HR2.out, HS2.out, HO2.out, HB2.out, HL2.out⟩
      case measure => rw [HR2.out.left, ← HR1.out.left]; exact HLT.out
end Go.Proofs.YtbpgncgmolpkiaaGreatDoor
namespace Go.Proofs.YtbpgncgmolpkiaaGreatDoor
open Go.ChangeShapes Go.WideShapes Go.ChangeAt Go.RowKit Go.Deep Go.Lib
set_option linter.unusedVariables false
set_option linter.unusedSimpArgs false
set_option maxRecDepth 100000

theorem bl_pre : ∀ p a b : List UInt8, Op.bytesLess (p ++ a) (p ++ b) = Op.bytesLess a b
  | [], _, _ => rfl
  | c :: p, a, b => by
    rw [List.cons_append, List.cons_append, Op.bytesLess, bl_pre p a b]
    simp
theorem foldersK_data (u : ByteArray) : (foldersK u).data.toList = 102 :: 47 :: (u.data.toList ++ [47]) := by
  rw [folderK_data]
theorem behind_data {u : ByteArray} {x : PM} (h : beginsB x.1 (foldersK u) = true) : x.1.data.toList = (foldersK u).data.toList ++ (behind u x).data.toList := by
  obtain ⟨r, hr⟩ := begins_iff.1 h
  have h1 : x.1.size = (foldersK u).size + r.length := by rw [← bytes_len x.1, hr, List.length_append, bytes_len]
  have h2 : (behind u x).data.toList = r := by
    unfold behind
    rw [ext_data x.1 (foldersK u).size x.1.size (Nat.le_refl _), hr, List.drop_append_of_le_length (by rw [bytes_len]; exact Nat.le_refl _)]
    rw [List.drop_of_length_le (by rw [bytes_len]; exact Nat.le_refl _), List.nil_append, List.take_of_length_le (by omega)]
  rw [h2, hr]
theorem behind_key {u : ByteArray} {x : PM} (h : beginsB x.1 (foldersK u) = true) : x.1 = folderK u (behind u x) := by
  apply bs_inj
  rw [behind_data h, foldersK_data, folderK_data]
  simp
theorem begins_folder (u name : ByteArray) : beginsB (folderK u name) (foldersK u) = true := by
  rw [begins_iff]
  exact ⟨name.data.toList, by rw [folderK_data, foldersK_data]; simp⟩
theorem lookF_iff {n : ByteArray} : ∀ {fs : List FM}, (lookF n fs).isSome = true ↔ n ∈ fs.map (·.name)
  | [] => by simp [lookF]
  | f :: fs => by
    have ih := lookF_iff (n := n) (fs := fs)
    unfold lookF
    by_cases e : f.name = n
    · rw [if_pos e]; simp [e]
    · rw [if_neg e, ih, List.map_cons, List.mem_cons]
      constructor
      · exact .inr
      · rintro (h | h)
        · exact absurd h.symm e
        · exact h
theorem folders_mem {L : List PM} {u : ByteArray} (hst : storeB L = true) (hus : (47 : UInt8) ∉ u.data.toList) {S : SM} (hI : Inv (nextM L) u L S) (name : ByteArray) : name ∈ S.fs.map (·.name) ↔ name ∈ listS L u := by
  obtain ⟨hg, nx, hnm, _, h2, _, k1, k2⟩ := store_facts hst
  rw [← lookF_iff]
  unfold listS
  rw [List.mem_map]
  constructor
  · intro h
    obtain ⟨f, hf⟩ := Option.isSome_iff_exists.1 h
    obtain ⟨w, _, hm, _⟩ := hI.a name f hf
    refine ⟨(folderK u name, w), List.mem_filter.2 ⟨hm, begins_folder u name⟩, ?_⟩
    exact (folderK_inj (behind_key (x := (folderK u name, w)) (begins_folder u name))).symm
  · rintro ⟨x, hx, rfl⟩
    rw [List.mem_filter] at hx
    have hk := behind_key hx.2
    have hsl : (47 : UInt8) ∉ (behind u x).data.toList := by
      have hp : splitL 47 x.1.data.toList = [102] :: u.data.toList :: splitL 47 (behind u x).data.toList := by
        have h1 : x.1.data.toList = [102] ++ 47 :: (u.data.toList ++ 47 :: (behind u x).data.toList) := by rw [behind_data hx.2, foldersK_data]; simp
        rw [h1, splitL_seg 47 [102] _ (by decide), splitL_seg 47 _ _ hus]
      rcases k2 x hx.1 with e | ⟨u2, ho, _⟩
      · rw [e] at hp; cases hp
      · unfold ownerM at ho
        rw [hp] at ho
        match hs : splitL 47 (behind u x).data.toList, ho with
        | [], ho => exact absurd hs (splitL_ne 47 _)
        | [b], ho => rw [(split_one hs).1]; exact (split_one hs).2
        | [_, _], ho => cases ho
        | _ :: _ :: _ :: _, ho => cases ho
    exact hI.b _ x.2 hsl (by rw [← hk]; exact hx.1)
theorem listS_up {L : List PM} {u : ByteArray} (hu : UpL L) : (listS L u).Pairwise ltK := by
  unfold listS
  rw [List.pairwise_map]
  have h1 : (L.filter fun x => beginsB x.1 (foldersK u)).Pairwise fun x y => ltK x.1 y.1 := List.Pairwise.filter _ hu
  refine List.Pairwise.imp_of_mem ?_ h1
  intro x y hx hy h
  rw [List.mem_filter] at hx hy
  unfold ltK at h ⊢
  rw [ByteArray.toList_eq, ByteArray.toList_eq] at h ⊢
  rw [behind_data hx.2, behind_data hy.2, bl_pre] at h
  exact h
theorem sort_eq {L : List PM} {u : ByteArray} (hst : storeB L = true) (hus : (47 : UInt8) ∉ u.data.toList) {S : SM} (hI : Inv (nextM L) u L S) (hn : (S.fs.map (·.name)).Nodup) {R : List ByteArray} (hR : R.Perm (S.fs.map (·.name))) :
    ((R.map (·.data.toList)).mergeSort fun x y => decide (x ≤ y)) = (listS L u).map (·.data.toList) := by
  have hup := listS_up (u := u) (store_facts hst).1.2.2
  have hnd : (listS L u).Nodup := hup.imp fun {a b} h e => by rw [e] at h; exact ltK_irrefl _ h
  have hp : R.Perm (listS L u) := hR.trans ((List.perm_ext_iff_of_nodup hn hnd).2 (folders_mem hst hus hI))
  refine List.Perm.eq_of_pairwise (le := fun a b => decide (a ≤ b) = true) ?_ (List.pairwise_mergeSort ?_ ?_ _) ?_ ((List.mergeSort_perm _ _).trans (hp.map _))
  · intro a b _ _ h1 h2
    exact List.le_antisymm (of_decide_eq_true h1) (of_decide_eq_true h2)
  · intro a b c h1 h2
    exact decide_eq_true (List.le_trans (of_decide_eq_true h1) (of_decide_eq_true h2))
  · intro a b
    rcases List.le_total a b with h | h
    · rw [decide_eq_true h]; rfl
    · rw [decide_eq_true h]; simp
  · rw [List.pairwise_map]
    refine hup.imp fun {a b} h => ?_
    unfold ltK at h
    rw [bl_eq, decide_eq_true_eq, ByteArray.toList_eq, ByteArray.toList_eq] at h
    exact decide_eq_true (List.le_of_lt h)
theorem none_left {L : List PM} {u : ByteArray} (hst : storeB L = true) (hus : (47 : UInt8) ∉ u.data.toList) (hno : getM L (userK u) = none) : listS L u = [] := by
  obtain ⟨hg, nx, hnm, _, h2, _, k1, k2⟩ := store_facts hst
  unfold listS
  rw [List.map_eq_nil_iff, List.filter_eq_nil_iff]
  intro x hx hb
  have hp : splitL 47 x.1.data.toList = [102] :: u.data.toList :: splitL 47 (behind u x).data.toList := by
    have h1 : x.1.data.toList = [102] ++ 47 :: (u.data.toList ++ 47 :: (behind u x).data.toList) := by rw [behind_data hb, foldersK_data]; simp
    rw [h1, splitL_seg 47 [102] _ (by decide), splitL_seg 47 _ _ hus]
  rcases k2 x hx with e | ⟨u2, ho, z, hz, ez⟩
  · rw [e] at hp; cases hp
  · unfold ownerM at ho
    rw [hp] at ho
    have hu2 : u = u2 := by
      match hs : splitL 47 (behind u x).data.toList, ho with
      | [], ho => exact absurd hs (splitL_ne 47 _)
      | [b], ho =>
        have h9 : some (bs u.data.toList) = some u2 := ho
        rw [data_bs] at h9
        exact Option.some.inj h9
      | [_, _], ho => cases ho
      | _ :: _ :: _ :: _, ho => cases ho
    rw [← hu2] at ez
    exact getM_none.1 hno z hz ez
def listG (L : List PM) (u : ByteArray) (b : Bool) : List ByteArray × Int := if b = true then (listS L u, 0) else ([], 15)
def flM (L : List PM) (u : ByteArray) : List ByteArray × Int := if askM L [u] = 0 then listG L u (getM L (userK u)).isSome else ([], askM L [u])
end Go.Proofs.YtbpgncgmolpkiaaGreatDoor
namespace Go.Proofs.YtbpgncgmolpkiaaGreatDoor
open Go.ChangeShapes Go.WideShapes Go.ChangeAt Go.RowKit Go.Deep Go.Lib
open Go.ChangeMaps (setBlock)
set_option linter.unusedVariables false
set_option linter.unusedSimpArgs false
set_option maxRecDepth 100000

theorem own_keep {w w' : World} {M base e s n : Nat} {v : Value} {xs : List Value} (h : w.ownsRow base e s v n xs) (hk : Keep M w w') (hb : M + 1 < base) : w'.ownsRow base e s v n xs := by
  obtain ⟨hl, h0 | ⟨g, cap, cur, rfl, hb0, hg, rest⟩⟩ := h
  · exact ⟨hl, .inl h0⟩
  · have hlt : g < w.heap.size := (Array.getElem?_eq_some_iff.1 hg).1
    exact ⟨hl, .inr ⟨g, cap, cur, rfl, hb0, by rw [hk g hlt (by omega) (by omega)]; exact hg, rest⟩⟩
theorem box_keep {w w' : World} {M P : Nat} {vs : List Value} (h : Box w P vs) (hk : Keep M w w') (h1 : P ≠ M) (h2 : P ≠ M + 1) : Box w' P vs := fun i v hv => by
  obtain ⟨k1, k2⟩ := h i v hv
  have hb := hk P (World.block_lt_of_cell? _ _ k1) h1 h2
  exact ⟨(World.cell?_of_block (a := ⟨P, i, none⟩) hb).trans k1, (World.frozen?_of_block (a := ⟨P, i, none⟩) hb).trans k2⟩
theorem desk_keep {w w' : World} {M O : Nat} {D : DK} (h : DeskAt w O D) (hk : Keep M w w') (hO : M + 1 < O) : DeskAt w' O D := by
  obtain ⟨k1, ⟨cl, k2⟩, k3, k4⟩ := h
  have hlt : O < w.heap.size := (Array.getElem?_eq_some_iff.1 k2.1).1
  exact ⟨box_keep k1 hk (by omega) (by omega), ⟨cl, (hk O hlt (by omega) (by omega)).trans k2.1, k2.2⟩, own_keep k3 hk (by omega), fun x hx => own_keep (k4.1 x hx) hk (by omega), k4.2⟩
set_option maxHeartbeats 2000000 in
theorem dropK (f : ByteArray) (w : World) (M : Nat) (D : DK) (hf : f.size ≤ 1048576) (hu : D.user.size ≤ 1048576) (hD : DeskAt w M D) (hx : (lookX (folderK D.user f) D.X).isSome = true) :
    Calls Tryz.prog 64 #[.pointer (some ⟨M + 1, 0, none⟩), .string f] w fun e w' => e = .returned (.tuple #[]) ∧ DeskAt w' M { D with X := dropX (folderK D.user f) D.X } ∧ Below M w w' ∧ Keep M w w' := by
  obtain ⟨hbox, ⟨clock, hmap⟩, hasd, hrows⟩ := hD
  obtain ⟨p3, _⟩ := hbox 3 _ rfl
  obtain ⟨p5, _⟩ := hbox 5 _ rfl
  have hlt : M < w.heap.size := (Array.getElem?_eq_some_iff.1 hmap.1).1
  have m1 : MapIs w.drew M clock D.X := hmap
  obtain ⟨hdel, hmi⟩ := run_del m1 (folderK D.user f) hx 0
  obtain ⟨O, hO⟩ : ∃ O, (.map ((dropX (folderK D.user f) D.X).map entX).toArray clock : Obj) = O := ⟨_, rfl⟩
  rw [hO] at hdel hmi
  have CK := fun W => folderKeyI D.user f W hu hf
  obtain ⟨K9, hK9⟩ : ∃ K, folderK D.user f = K := ⟨_, rfl⟩
  have HF : Hid (DeskAt (setBlock w.drew M O) M { D with X := dropX (folderK D.user f) D.X }) :=
    ⟨box_sb (w := w.drew) hbox O (by omega), ⟨clock, hmi⟩, own_sb (w := w.drew) hasd O (by omega), fun x hx => own_sb (w := w.drew) ((rows_drop hrows _).1 x hx) O (by omega), (rows_drop hrows _).2⟩
  have HB : Hid (Below M w (setBlock w.drew M O)) := (Below.refl _ _).drew.trans (sb_below _ M O)
  have HOW : Hid (Keep M w (setBlock w.drew M O)) := fun B hB h9 _ => sb_block w.drew M B O h9
  have HS : Hid ((setBlock w.drew M O).cell? ⟨M + 1, 3, none⟩ = some (.string D.user) ∧ (setBlock w.drew M O).cell? ⟨M + 1, 5, none⟩ = some (.map (some M))) := by
    have hx := box_sb (w := w.drew) (M := M) hbox O (by omega)
    exact ⟨(hx 3 _ rfl).1, (hx 5 _ rfl).1⟩
  rw [hK9] at hdel
  simp only [hK9] at CK
  obtain ⟨us, hus⟩ : ∃ x, D.user = x := ⟨_, rfl⟩
  have p3' : w.cell? ⟨M + 1, 3, none⟩ = some (.string us) := by rw [← hus]; exact p3
  rw [hus] at HS
  simp only [hus] at CK
  clear hbox hmap hasd hrows m1 hmi hO hK9 hx hus p3
  go_enter Tryz.func64, Tryz.ntmps64
  go_wp2_with fail
  refine wp_region_noPanic ?_
  refine wp_region_held_drew (S := fun w' => w'.cell? ⟨M + 1, 3, none⟩ = some (.string us) ∧ w'.cell? ⟨M + 1, 5, none⟩ = some (.map (some M))) (by kernel_rfl) ⟨p3', p5⟩ (fun hHeld => ?_)
  refine tkA (i := 0) (v := .pointer (some ⟨M + 1, 0, none⟩)) ?_ hHeld ?_
  · intro w9 hSw
    obtain ⟨z0, z1⟩ := hSw
    go_simp
  simp only [Act.put, List.setIfInBounds_toArray, List.set_cons_zero, List.set_cons_succ]
  refine tkA (i := 1) (v := .pointer (some ⟨M + 1, 0, none⟩)) ?_ hHeld ?_
  · intro w9 hSw
    obtain ⟨z0, z1⟩ := hSw
    go_simp
  simp only [Act.put, List.setIfInBounds_toArray, List.set_cons_zero, List.set_cons_succ]
  refine tkA (i := 2) (v := .pointer (some ⟨M + 1, 5, none⟩)) ?_ hHeld ?_
  · intro w9 hSw
    obtain ⟨z0, z1⟩ := hSw
    go_simp
  simp only [Act.put, List.setIfInBounds_toArray, List.set_cons_zero, List.set_cons_succ]
  refine tkA (i := 3) (v := .map (some M)) ?_ hHeld ?_
  · intro w9 hSw
    obtain ⟨z0, z1⟩ := hSw
    go_simp
  simp only [Act.put, List.setIfInBounds_toArray, List.set_cons_zero, List.set_cons_succ]
  refine tkA (i := 4) (v := .pointer (some ⟨M + 1, 0, none⟩)) ?_ hHeld ?_
  · intro w9 hSw
    obtain ⟨z0, z1⟩ := hSw
    go_simp
  simp only [Act.put, List.setIfInBounds_toArray, List.set_cons_zero, List.set_cons_succ]
  refine tkA (i := 5) (v := .pointer (some ⟨M + 1, 0, none⟩)) ?_ hHeld ?_
  · intro w9 hSw
    obtain ⟨z0, z1⟩ := hSw
    go_simp
  simp only [Act.put, List.setIfInBounds_toArray, List.set_cons_zero, List.set_cons_succ]
  refine tkA (i := 6) (v := .pointer (some ⟨M + 1, 3, none⟩)) ?_ hHeld ?_
  · intro w9 hSw
    obtain ⟨z0, z1⟩ := hSw
    go_simp
  simp only [Act.put, List.setIfInBounds_toArray, List.set_cons_zero, List.set_cons_succ]
  refine tkA (i := 7) (v := .string us) ?_ hHeld ?_
  · intro w9 hSw
    obtain ⟨z0, z1⟩ := hSw
    go_simp
  simp only [Act.put, List.setIfInBounds_toArray, List.set_cons_zero, List.set_cons_succ]
  refine tkA (i := 8) (v := .string f) ?_ hHeld ?_
  · intro w9 hSw
    obtain ⟨z0, z1⟩ := hSw
    go_simp
  simp only [Act.put, List.setIfInBounds_toArray, List.set_cons_zero, List.set_cons_succ]
  refine wpAnyH_ready (rs := [9]) (by kernel_rfl) (by simp) ?_
  refine AllReadyH.cons rfl (fun K hK => ?_) AllReadyH.nil
  go_simp
  refine (CK _).mono ?_
  rintro e wk ⟨rfl, hwk⟩
  obtain rfl := hwk.symm
  dsimp only
  refine hK _ _ ⟨p3', p5⟩ (fun hHeld => ?_)
  clear hK K
  refine wpAnyH_ready (rs := [10]) (by kernel_rfl) (by simp) ?_
  refine AllReadyH.cons rfl (fun K hK => ?_) AllReadyH.nil
  go_simp
  refine hK _ _ HS.out (fun hHeld => ?_)
  clear hK K
  refine wpAnyH_done (by kernel_rfl) ?_ _
  refine NoPanic.normal ?_
  clear hHeld
  go_wp2_with fail
  go_end0
  exact ⟨rfl, HF.out, HB.out, HOW.out⟩
end Go.Proofs.YtbpgncgmolpkiaaGreatDoor
namespace Go.Proofs.YtbpgncgmolpkiaaGreatDoor
open Go.ChangeShapes Go.WideShapes Go.ChangeAt Go.RowKit Go.Deep Go.Lib
set_option linter.unusedVariables false
set_option linter.unusedSimpArgs false
set_option maxRecDepth 100000

/-- A desk with these folders, whose rows are among those that were. -/
def EmAt (w : World) (M : Nat) (a : Option Addr) (n c : Nat) (va : Value) (sd : List PM) (nx : Int) (u wd : ByteArray) (fs : List FM) (k : Nat) (X0 : List FX) : Prop :=
  ∃ X, DeskAt w M ⟨a, n, c, va, sd, nx, u, wd, X⟩ ∧ View u X fs ∧ (fs.map (·.name)).Nodup ∧ (∀ f ∈ fs, 1 ≤ f.next ∧ f.next ≤ 999 ∧ f.mails.length ≤ k) ∧ ∀ z ∈ X, ∀ y, z.v.ownBlock = some y → ∃ z0 ∈ X0, z0.v.ownBlock = some y
theorem EmAt.later {w w' : World} {M : Nat} {a : Option Addr} {n c : Nat} {va : Value} {sd : List PM} {nx : Int} {u wd : ByteArray} {fs : List FM} {k : Nat} {X0 : List FX} (h : EmAt w M a n c va sd nx u wd fs k X0) (hb : Below w.heap.size w w') : EmAt w' M a n c va sd nx u wd fs k X0 := by
  obtain ⟨X, h1, h2⟩ := h
  exact ⟨X, h1.later hb, h2⟩
theorem em_take {T fs : List FM} {ns : List ByteArray} {j : Nat} {t : ByteArray} (h : j < ns.length) (ht : ns.getD j e0 = t) : emE T fs (ns.take (j + 1)) = stepE T (emE T fs (ns.take j)) t := by
  have e : ns[j] = t := by
    rw [List.getD_eq_getElem?_getD, List.getElem?_eq_getElem h] at ht
    exact ht
  unfold emE
  rw [List.take_add_one, List.getElem?_eq_getElem h, e, List.foldl_append]
  rfl
theorem em_look {T : List FM} {n : ByteArray} : ∀ {ns : List ByteArray} {fs : List FM}, n ∉ ns → lookF n (emE T fs ns) = lookF n fs
  | [], _, _ => rfl
  | m :: ns, fs, h => by
    show lookF n (emE T (stepE T fs m) ns) = _
    rw [em_look fun h9 => h (List.mem_cons_of_mem _ h9), look_stepE fun e => h (by rw [e]; exact List.mem_cons_self)]
theorem take_fresh {ns : List ByteArray} {j : Nat} {t : ByteArray} (hn : ns.Nodup) (h : j < ns.length) (ht : ns.getD j e0 = t) : t ∉ ns.take j := by
  have e : ns[j] = t := by
    rw [List.getD_eq_getElem?_getD, List.getElem?_eq_getElem h] at ht
    exact ht
  intro h9
  obtain ⟨i, hi, he⟩ := List.getElem_of_mem h9
  rw [List.length_take] at hi
  rw [List.getElem_take, ← e] at he
  have := (List.getElem_inj hn).1 he
  omega
theorem cells_sorted (R ns : List ByteArray) (h : ((R.map (·.data.toList)).mergeSort fun x y => decide (x ≤ y)) = ns.map (·.data.toList)) : R.length = ns.length ∧ (((R.map (·.data.toList)).mergeSort fun x y => decide (x ≤ y)).map encStr) = cellsS ns := by
  constructor
  · have h1 := congrArg List.length h
    rw [List.length_mergeSort, List.length_map, List.length_map] at h1
    exact h1
  · rw [h]
    unfold cellsS
    rw [List.map_map]
    exact List.map_congr_left fun x _ => rfl
theorem em_put {w : World} {M : Nat} {a : Option Addr} {n c : Nat} {va : Value} {sd : List PM} {nx : Int} {u wd t : ByteArray} {fs : List FM} {k clock : Nat} {X X0 : List FX} {gv gn : Int} (hD : DeskAt w M ⟨a, n, c, va, sd, nx, u, wd, setX ⟨folderK u t, 0, t, gv, gn, .slice none 0 0, []⟩ clock X⟩) (hV : View u X fs) (hN : (fs.map (·.name)).Nodup) (hf : ∀ f ∈ fs, 1 ≤ f.next ∧ f.next ≤ 999 ∧ f.mails.length ≤ k) (hg : 1 ≤ gn ∧ gn ≤ 999) (hap : ∀ z ∈ X, ∀ y, z.v.ownBlock = some y → ∃ z0 ∈ X0, z0.v.ownBlock = some y) : EmAt w M a n c va sd nx u wd (putF ⟨t, gv, gn, []⟩ fs) k X0 := by
  refine ⟨_, hD, hV.put (y := ⟨folderK u t, 0, t, gv, gn, .slice none 0 0, []⟩) rfl clock, putF_names hN, fun f hf9 => ?_, fun z hz y hy => ?_⟩
  · rcases putF_mem hf9 with hf9 | rfl
    · exact hf f hf9
    · exact ⟨hg.1, hg.2, Nat.zero_le _⟩
  · rcases setX_mem hz with hz | ⟨hz, _, _⟩
    · exact hap z hz y hy
    · rw [hz] at hy
      cases hy
set_option maxHeartbeats 8000000 in
theorem emptyForI (w : World) (M : Nat) (a : Option Addr) (n c : Nat) (nx : Int) (u : ByteArray) (sd : List PM) (wd : ByteArray) (fs : List FM) (k : Nat) (va : Value) (X : List FX) (hD : DeskAt w M ⟨a, n, c, va, sd, nx, u, wd, X⟩) (hV : View u X fs) (hN : (fs.map (·.name)).Nodup) (hf : ∀ f ∈ fs, 1 ≤ f.next ∧ f.next ≤ 999 ∧ f.mails.length ≤ k) (hX6 : X.length ≤ 60)
    (O : Nat) (E : DK) (hEu : E.user = u) (T : List FM) (hE : DeskAt w O E) (hW : View u E.X T) (hMO : M + 1 < O) (hu : u.size ≤ 1000)
    (ns : List ByteArray) (hns : ∀ R : List ByteArray, R.Perm (fs.map (·.name)) → ((R.map (·.data.toList)).mergeSort fun x y => decide (x ≤ y)) = ns.map (·.data.toList)) (hnd : ns.Nodup) (hnf : ∀ x ∈ ns, x.size ≤ 1000 ∧ (lookF x fs).isSome = true) (m : Nat) (hm : ns.length = m) (hm6 : m ≤ 60) :
    Calls Tryz.prog 87 #[.pointer (some ⟨M + 1, 0, none⟩), .pointer (some ⟨O + 1, 0, none⟩)] w fun e w' => e = .returned (.tuple #[]) ∧ EmAt w' M a n c va sd nx u wd (emE T fs ns) k X ∧ Below M w w' ∧ Keep M w w' := by
  have hM1 : M + 1 < w.heap.size := World.block_lt_of_cell? _ _ (hD.1 0 _ rfl).1
  have CN := namesI w M _ hD hX6
  have HVL : Hid (leftNames #[] X = fs.map (·.name)) := leftN_view hV
  have HEM : Hid (EmAt w M a n c va sd nx u wd fs k X) := ⟨X, hD, hV, hN, hf, fun z hz y hy => ⟨z, hz, hy⟩⟩
  have HE : Hid (DeskAt w O E ∧ View u E.X T ∧ E.user = u) := ⟨hE, hW, hEu⟩
  have HNS : Hid (∀ R : List ByteArray, R.Perm (fs.map (·.name)) → ((R.map (·.data.toList)).mergeSort fun x y => decide (x ≤ y)) = ns.map (·.data.toList)) := hns
  have HND : Hid (ns.Nodup ∧ (∀ x ∈ ns, x.size ≤ 1000 ∧ (lookF x fs).isSome = true) ∧ ns.length = m) := ⟨hnd, hnf, hm⟩
  clear hD hV hN hf hX6 hE hW hEu hns hnd hnf hm
  go_enter Tryz.func87, Tryz.ntmps87
  go_wp2_with fail
  refine CN.mono ?_
  rintro e w1 ⟨v1, rfl, ⟨R, hR, ow⟩, hb1⟩
  rw [HVL.out] at hR
  obtain ⟨r1, r2⟩ := cells_sorted R ns (HNS.out R hR)
  rw [r2, r1, HND.out.2.2] at ow
  obtain ⟨ab, cb, rfl, _, _⟩ := own_src ow
  have HO1 : Hid (w1.ownsRow w.heap.size 9 1 (.slice ab m cb) m (cellsS ns)) := ow
  have B1 : Hid (Below w.heap.size w w1) := hb1
  have HEM1 : Hid (EmAt w1 M a n c va sd nx u wd fs k X) := HEM.out.later hb1
  have HE1 : Hid (DeskAt w1 O E) := HE.out.1.later hb1
  clear CN hR r1 r2 ow hb1 HEM HNS HVL
  go_wp2_with fail
  go_loopw [10] (fun iv wr => ∃ j : Nat, j ≤ m ∧ iv = .int .i64 (j : Int) ∧ Hid (EmAt wr M a n c va sd nx u wd (emE T fs (ns.take j)) k X) ∧ Hid (Keep M w1 wr) ∧ Hid (Below M w1 wr)) (fun i _ => m - (RowKit.intOf i).toNat)
  case atStart => exact ⟨0, by omega, rfl, HEM1.out, (fun B hB _ _ => rfl), Below.refl _ _⟩
  case round =>
    obtain ⟨j, hj, rfl, hem, hkp, hbr⟩ := hrel
    by_cases hlt : j < m
    · have hltj : (j : Int) < (m : Int) := by omega
      have hjn : j < ns.length := by rw [HND.out.2.2]; exact hlt
      obtain ⟨a9, c9, e9, s9, _⟩ := own_src (own_keep HO1.out hkp.out hM1)
      cases e9
      obtain ⟨b', o', t, rfl, c1, hy⟩ := srcS s9 hjn
      have htm : t ∈ ns := by rw [← hy.out]; exact mem_getD ns e0 j hjn
      obtain ⟨tz, tl⟩ := HND.out.2.1 t htm
      have htl : lookF t (emE T fs (ns.take j)) = lookF t fs := em_look (take_fresh HND.out.1 hjn hy.out)
      rw [← htl] at tl
      obtain ⟨g, hg⟩ := Option.isSome_iff_exists.1 tl
      obtain ⟨hgm, hgn⟩ := lookF_mem hg
      obtain ⟨X1, hd, hv, hn, hfb, hap⟩ := hem.out
      have HST : Hid (emE T fs (ns.take (j + 1)) = if (lookF t T).isSome = true then putF ⟨t, g.val, g.next, []⟩ (emE T fs (ns.take j)) else dropF t (putF ⟨t, g.val, g.next, []⟩ (emE T fs (ns.take j)))) := by
        show _ = _
        rw [em_take hjn hy.out]
        exact stepE_some hg
      have hgb := hfb g hgm
      obtain ⟨ax, cx, hat, _, _⟩ := at_some hd hv hg
      have CT := atI t wr M ⟨a, n, c, va, sd, nx, u, wd, X1⟩ (by omega) (by show u.size ≤ 1048576; omega) hd
      obtain ⟨gv, hgv⟩ : ∃ x, g.val = x := ⟨_, rfl⟩
      obtain ⟨gx, hgx⟩ : ∃ x, g.next = x := ⟨_, rfl⟩
      obtain ⟨ml, hml⟩ : ∃ x, g.mails.length = x := ⟨_, rfl⟩
      rw [hgv, hgx] at HST
      rw [hgx] at hgb
      have CT2 : Calls Tryz.prog 37 #[.pointer (some ⟨M + 1, 0, none⟩), .string t] wr fun e w' => e = .returned (.agg #[.string t, .int .i64 gv, .int .i64 gx, .slice ax ml cx]) ∧ Below wr.heap.size wr w' := by
        have h9 : atX (lookX (folderK u t) X1) = .agg #[.string t, .int .i64 gv, .int .i64 gx, .slice ax ml cx] := by rw [← hgv, ← hgx, ← hml, ← hgn]; rw [hgn]; rw [← hgn] at hat; rw [hgn] at hat; exact hat
        rw [← h9]
        exact CT
      obtain ⟨fj, hfj⟩ : ∃ x, emE T fs (ns.take j) = x := ⟨_, rfl⟩
      rw [hfj] at HST hv hn hfb
      have HX1 : Hid (DeskAt wr M ⟨a, n, c, va, sd, nx, u, wd, X1⟩ ∧ View u X1 fj ∧ (fj.map (·.name)).Nodup ∧ (∀ f ∈ fj, 1 ≤ f.next ∧ f.next ≤ 999 ∧ f.mails.length ≤ k) ∧ ∀ z ∈ X1, ∀ y, z.v.ownBlock = some y → ∃ z0 ∈ X, z0.v.ownBlock = some y) := ⟨hd, hv, hn, hfb, hap⟩
      obtain ⟨tb, htb⟩ : ∃ x, (lookF t T).isSome = x := ⟨_, rfl⟩
      rw [htb] at HST
      have HTB : Hid ((lookF t T).isSome = tb) := htb
      have hMr : M + 1 < wr.heap.size := World.block_lt_of_cell? _ _ (hd.1 0 _ rfl).1
      clear CT hat hgv hgx hml hfj htb hd hv hn hfb hap hem hgm hgn hg htl tl htm s9
      go_wp2_with fail
      refine CT2.mono ?_
      rintro e w2 ⟨rfl, hb2⟩
      have hM2 : M + 1 < w2.heap.size := by have := hb2.size; omega
      obtain ⟨w3, hw3⟩ : ∃ W, w2.alloc (.cells #[.string t, .int .i64 gv, .int .i64 gx, .slice ax ml cx] 59) = W := ⟨_, rfl⟩
      have A3 : Below w2.heap.size w2 w3 := by rw [← hw3]; exact (Below.refl _ _).alloc (Nat.le_refl _) _
      have X3 : Box w3 w2.heap.size [.string t, .int .i64 gv, .int .i64 gx, .slice ax ml cx] := by rw [← hw3]; exact Box.new rfl
      have K3 : KindAt w3 w2.heap.size 59 := by
        rw [← hw3]
        exact ⟨_, _, Array.getElem?_push_size⟩
      have D3 := (HX1.out.1.later hb2).later A3
      have D4 : DeskAt (w3.setCell ⟨w2.heap.size, 3, none⟩ (.slice none 0 0)) M ⟨a, n, c, va, sd, nx, u, wd, X1⟩ := desk_box D3 K3 (by omega) (by omega) 3 (.slice none 0 0)
      have X4 := X3.set 3 (.slice none 0 0)
      have hKN : (X1.map (·.k)).Nodup := by
        rw [HX1.out.2.1.keys]
        exact nodup_keys HX1.out.2.2.1
      have CP := putX ⟨folderK u t, 0, t, gv, gx, .slice none 0 0, []⟩ t gv gx none 0 0 (w3.setCell ⟨w2.heap.size, 3, none⟩ (.slice none 0 0)) M ⟨a, n, c, va, sd, nx, u, wd, X1⟩ rfl (by omega) (by show u.size ≤ 1048576; omega) D4.head (fun clock => rows_set D4.2.2.2 (World.ownsRow_nil _ _ _ _) hKN (fun x hx _ y hy h9 => by cases h9) clock)
      have B4 : Hid (Below M w1 (w3.setCell ⟨w2.heap.size, 3, none⟩ (.slice none 0 0))) := hbr.out.trans ((hb2.mono (by omega)).trans ((A3.mono (by omega)).setCell (by show M ≤ w2.heap.size; omega) _))
      have KP4 : Hid (Keep M w1 (w3.setCell ⟨w2.heap.size, 3, none⟩ (.slice none 0 0))) := by
        have k2 := hkp.out.next hbr.out.size hb2
        have s2 : w1.heap.size ≤ w2.heap.size := Nat.le_trans hbr.out.size hb2.size
        exact (k2.next s2 A3).setCell _ s2 _
      obtain ⟨p3, pf3⟩ := X3 3 _ rfl
      obtain ⟨q0, _⟩ := X4 0 _ rfl
      obtain ⟨q1, _⟩ := X4 1 _ rfl
      obtain ⟨q2, _⟩ := X4 2 _ rfl
      obtain ⟨q3, _⟩ := X4 3 _ rfl
      clear A3 X3 K3 D3 D4 X4 hKN CT2 hb2
      go_wp2_with fail
      refine CP.mono ?_
      rintro e w6 ⟨rfl, ⟨clock2, hd6⟩, hb6, _, _, _, hkp6⟩
      have hem6 : EmAt w6 M a n c va sd nx u wd (putF ⟨t, gv, gx, []⟩ fj) k X := em_put hd6 HX1.out.2.1 HX1.out.2.2.1 HX1.out.2.2.2.1 ⟨hgb.1, hgb.2.1⟩ HX1.out.2.2.2.2
      have B6 : Hid (Below M w1 w6) := B4.out.trans hb6
      have KP6 : Hid (Keep M w1 w6) := KP4.out.trans B4.out.size hkp6
      have HM6 : Hid (EmAt w6 M a n c va sd nx u wd (putF ⟨t, gv, gx, []⟩ fj) k X) := hem6
      have CH := hasI t w6 O E (by omega) (by rw [HE.out.2.2]; omega) (desk_keep HE1.out KP6.out hMO) tb (by rw [HE.out.2.2]; exact HE.out.2.1.some t tb HTB.out)
      clear CP hd6 hb6 hkp6 hem6 p3 pf3 q0 q1 q2 q3 hw3 B4 KP4 hbr hkp HX1
      go_wp2_with fail
      refine CH.mono ?_
      rintro e w7 ⟨rfl, hb7⟩
      have B7 : Hid (Below M w1 w7) := B6.out.trans (hb7.mono (by
        obtain ⟨_, hz, _⟩ := HM6.out
        have h9 : M + 1 < w6.heap.size := World.block_lt_of_cell? _ _ (hz.1 0 _ rfl).1
        omega))
      have KP7 : Hid (Keep M w1 w7) := KP6.out.next B6.out.size hb7
      have HM7 : Hid (EmAt w7 M a n c va sd nx u wd (putF ⟨t, gv, gx, []⟩ fj) k X) := HM6.out.later hb7
      clear CH hb7 HM6 B6 KP6
      cases tb with
      | true =>
        have HM8 : Hid (EmAt w7 M a n c va sd nx u wd (emE T fs (ns.take (j + 1))) k X) := by
          rw [HST.out]
          exact HM7.out
        go_wp2_with fail
        exact ⟨⟨j + 1, by omega, by go_num, HM8.out, KP7.out, B7.out⟩, by simp [RowKit.intOf]; omega⟩
      | false =>
        obtain ⟨X7, hd7, hv7, hn7, hf7, hap7⟩ := HM7.out
        have CD := dropK t w7 M ⟨a, n, c, va, sd, nx, u, wd, X7⟩ (by omega) (by show u.size ≤ 1048576; omega) hd7 (hv7.some t true (by rw [lookF_put, if_pos rfl]; rfl))
        have HX7 : Hid (View u X7 (putF ⟨t, gv, gx, []⟩ fj) ∧ ((putF ⟨t, gv, gx, []⟩ fj).map (·.name)).Nodup ∧ (∀ f ∈ putF ⟨t, gv, gx, []⟩ fj, 1 ≤ f.next ∧ f.next ≤ 999 ∧ f.mails.length ≤ k) ∧ ∀ z ∈ X7, ∀ y, z.v.ownBlock = some y → ∃ z0 ∈ X, z0.v.ownBlock = some y) := ⟨hv7, hn7, hf7, hap7⟩
        clear hd7 hv7 hn7 hf7 hap7 HM7
        go_wp2_with fail
        refine CD.mono ?_
        rintro e w8 ⟨rfl, hd8, hb8, hk8⟩
        have HM8 : Hid (EmAt w8 M a n c va sd nx u wd (emE T fs (ns.take (j + 1))) k X) := by
          rw [HST.out]
          exact ⟨_, hd8, HX7.out.1.drop, HX7.out.2.1.sublist ((dropF_sub t _).map _), fun f hf => HX7.out.2.2.1 f ((dropF_sub t _).subset hf), fun z hz => HX7.out.2.2.2 z ((dropX_sub _ _).subset hz)⟩
        have B8 : Hid (Below M w1 w8) := B7.out.trans hb8
        have KP8 : Hid (Keep M w1 w8) := KP7.out.trans B7.out.size hk8
        clear CD hd8 hb8 hk8
        go_wp2_with fail
        exact ⟨⟨j + 1, by omega, by go_num, HM8.out, KP8.out, B8.out⟩, by simp [RowKit.intOf]; omega⟩
    · obtain rfl : j = m := by omega
      have hltj : ¬ (j : Int) < (j : Int) := by omega
      have HF : Hid (EmAt wr M a n c va sd nx u wd (emE T fs ns) k X ∧ Below M w wr ∧ Keep M w wr) := by
        refine ⟨?_, (B1.out.mono (by omega)).trans hbr.out, (Keep.of_below B1.out).trans B1.out.size hkp.out⟩
        have h9 := hem.out
        rw [List.take_of_length_le (by rw [HND.out.2.2]; exact Nat.le_refl _)] at h9
        exact h9
      clear hem hkp hbr
      go_wp2_with fail
      go_end0
      exact ⟨rfl, HF.out⟩
end Go.Proofs.YtbpgncgmolpkiaaGreatDoor
namespace Go.Proofs.YtbpgncgmolpkiaaGreatDoor
open Go.ChangeShapes Go.WideShapes Go.ChangeAt Go.RowKit Go.Deep Go.Lib
set_option linter.unusedVariables false
set_option linter.unusedSimpArgs false
set_option maxRecDepth 100000

theorem itoa_19 (x : Int) (h0 : 0 ≤ x) (h1 : x ≤ 10001) : (bs (itoa x)).size ≤ 19 := by
  have h2 := (trim_is (t := itoa x) rfl).2 (by omega)
  have h3 : (bs (itoa x)).size = (itoa x).length := rfl
  have h4 : (itoa x).length ≤ (trimPrefix (itoa x) [45]).length + 1 := by
    unfold trimPrefix
    split
    · rw [List.length_drop]; simp only [List.length_singleton]; omega
    · omega
  omega
theorem metaT_39 {x y : Int} (h0 : 0 ≤ x) (h1 : x ≤ 10000) (h2 : 0 ≤ y) (h3 : y ≤ 10000) : (metaT x y).size ≤ 39 := by
  have a := itoa_19 x h0 (by omega)
  have b := itoa_19 y h2 (by omega)
  have e : (metaT x y).size = (bs (itoa x)).size + 1 + (bs (itoa y)).size := by
    unfold metaT
    rw [ByteArray.size_append, ByteArray.size_append]
    rfl
  omega
/-- The folders of a list, in the order of their names. -/
def gsO (L : List PM) (u : ByteArray) : List FM := (listS L u).filterMap (oldF L u)
theorem filter_names {o : ByteArray → Option FM} : ∀ {ns : List ByteArray}, (∀ x ∈ ns, ∃ g, o x = some g ∧ g.name = x) → (ns.filterMap o).map (·.name) = ns
  | [], _ => rfl
  | x :: ns, h => by
    obtain ⟨g, h1, h2⟩ := h x List.mem_cons_self
    rw [List.filterMap_cons_some h1, List.map_cons, h2, filter_names fun y hy => h y (List.mem_cons_of_mem _ hy)]
theorem name_look {L : List PM} {u n : ByteArray} {S : SM} (h : storeB L = true) (hus : (47 : UInt8) ∉ u.data.toList) (hS : takeAll (nextM L) u S0 L = some S) (hn : n ∈ listS L u) : ∃ g, lookF n S.fs = some g ∧ g.name = n := by
  obtain ⟨S', k1, _, hI⟩ := take_all h hus
  rw [hS] at k1
  cases k1
  obtain ⟨g, hg⟩ := Option.isSome_iff_exists.1 (lookF_iff.2 ((folders_mem h hus hI n).2 hn))
  exact ⟨g, hg, (lookF_mem hg).2⟩
theorem name_is {L : List PM} {u n : ByteArray} {S : SM} (h : storeB L = true) (hus : (47 : UInt8) ∉ u.data.toList) (hS : takeAll (nextM L) u S0 L = some S) (hn : n ∈ listS L u) : shortB n = true := by
  obtain ⟨g, hg, e⟩ := name_look h hus hS hn
  have h9 := name_short h hus hS (lookF_mem hg).1
  rw [e] at h9
  exact h9
theorem list_nodup {L : List PM} {u : ByteArray} (h : storeB L = true) : (listS L u).Nodup := (listS_up (u := u) (store_facts h).1.2.2).imp fun {a b} h e => by rw [e] at h; exact ltK_irrefl _ h
theorem gs_names {L : List PM} {u : ByteArray} (h : storeB L = true) (hus : (47 : UInt8) ∉ u.data.toList) : (gsO L u).map (·.name) = listS L u := by
  obtain ⟨S, hS, _, _⟩ := take_all h hus
  refine filter_names fun x hx => ?_
  rw [old_look hS]
  exact name_look h hus hS hx
theorem gs_look {L : List PM} {u : ByteArray} {S : SM} (h : storeB L = true) (hus : (47 : UInt8) ∉ u.data.toList) (hS : takeAll (nextM L) u S0 L = some S) : ∀ g ∈ gsO L u, lookF g.name S.fs = some g ∧ g.name ∈ listS L u := fun g hg => by
  obtain ⟨n, h1, h2⟩ := List.mem_filterMap.1 hg
  rw [old_look hS] at h2
  have h3 := (lookF_mem h2).2
  rw [h3]
  exact ⟨h2, h1⟩
theorem gs_good {L : List PM} {u : ByteArray} {S : SM} (h : storeB L = true) (hus : (47 : UInt8) ∉ u.data.toList) (hS : takeAll (nextM L) u S0 L = some S) : ∀ g ∈ gsO L u, GoodG u g := fun g hg => by
  obtain ⟨h1, h2⟩ := gs_look h hus hS g hg
  exact ⟨store_fit h hS g (lookF_mem h1).1, word_slash (name_is h hus hS h2), mails_apart h hS h1⟩
theorem gs_len {L : List PM} {u : ByteArray} (h : storeB L = true) (hus : (47 : UInt8) ∉ u.data.toList) : (gsO L u).length = (listS L u).length ∧ (listS L u).length ≤ 60 := by
  constructor
  · have h9 := congrArg List.length (gs_names h hus)
    rw [List.length_map] at h9
    exact h9
  · unfold listS
    rw [List.length_map]
    exact Nat.le_trans (List.length_filter_le _ _) (store_facts h).1.1
/-- What a restored user makes of a list. -/
def ruT (N L : List PM) (u : ByteArray) (b : Bool) : List PM × Int := if b = false then (N, 5) else rsU N u (emL u L N (listS N u)) (gsO L u)
def ruR (N L : List PM) (u : ByteArray) : List PM × Int := if (getM N (userK u)).isSome = false then (N, 15) else ruT N L u (getM L (userK u)).isSome
/-- The same of a desk. -/
def ruM (nx : Int) (u : ByteArray) (S T : SM) (ns : List ByteArray) (gs : List FM) : Int × Int × SM := if S.word.toList = [] then (15, nx, S) else if T.word.toList = [] then (5, nx, S) else rsL u nx ⟨S.aside, S.word, emE T.fs S.fs ns⟩ gs
theorem word_some' {L : List PM} {u : ByteArray} {S : SM} (h : storeB L = true) (hus : (47 : UInt8) ∉ u.data.toList) (hS : takeAll (nextM L) u S0 L = some S) : (getM L (userK u)).isSome = decide (S.word.toList ≠ []) := by
  have hwi := (word_iff h hus hS).1
  by_cases hw : S.word.toList = []
  · rw [hwi.1 hw, decide_eq_false (fun h9 => h9 hw)]
    rfl
  · rw [decide_eq_true hw]
    cases hv : getM L (userK u) with
    | none => exact absurd (hwi.2 hv) hw
    | some v => rfl
theorem em_lies {N L : List PM} {u : ByteArray} {S T : SM} (h : storeB N = true) (h2 : storeB L = true) (hus : (47 : UInt8) ∉ u.data.toList) (hS : takeAll (nextM N) u S0 N = some S) (hT : takeAll (nextM L) u S0 L = some T) (hw : S.word.toList ≠ []) : Lies (emL u L N (listS N u)) (nextM N) u ⟨S.aside, S.word, emE T.fs S.fs (listS N u)⟩ := by
  refine lies_em hus (fun n hn => (look_iff h2 hus hT hn).1) (lies_of h hus hS hw) (list_nodup h) fun n hn => ⟨word_slash (name_is h hus hS hn), ?_⟩
  obtain ⟨g, hg, _⟩ := name_look h hus hS hn
  rw [hg]
  rfl
theorem ruo_fits {N L : List PM} {u : ByteArray} {S T S' : SM} {q nx' : Int} (h : storeB N = true) (h2 : storeB L = true) (hus : (47 : UInt8) ∉ u.data.toList) (hS : takeAll (nextM N) u S0 N = some S) (hT : takeAll (nextM L) u S0 L = some T) (hQ : ruM (nextM N) u S T (listS N u) (gsO L u) = (q, nx', S')) : OpFits N u q nx' S' (ruR N L u) := by
  obtain ⟨hg, nx0, hnm, n1, n2, _, _, _⟩ := store_facts h
  rw [hnm] at n1 n2
  unfold ruM at hQ
  unfold ruR ruT
  rw [word_some' h hus hS, word_some' h2 hus hT]
  by_cases hw : S.word.toList = []
  · rw [if_pos hw] at hQ
    cases hQ
    rw [if_pos (decide_eq_false (fun h9 => h9 hw))]
    exact ⟨fun _ => rfl, fun h9 => by cases h9⟩
  rw [if_neg hw] at hQ
  rw [if_neg (by rw [decide_eq_true hw]; decide)]
  by_cases hw2 : T.word.toList = []
  · rw [if_pos hw2] at hQ
    cases hQ
    rw [if_pos (decide_eq_false (fun h9 => h9 hw2))]
    exact ⟨fun _ => rfl, fun h9 => by cases h9⟩
  rw [if_neg hw2] at hQ
  rw [if_neg (by rw [decide_eq_true hw2]; decide)]
  have hl := em_lies h h2 hus hS hT hw
  have he := (em_len u L (listS N u) N).1
  have h60 := hg.1
  obtain ⟨k1, k2⟩ := ru_fits (N0 := N) hus hl (by omega) (by omega) n2 (emE_all (P := FitF) (fun f hf => ⟨hf.1, hf.2.1, hf.2.2.1, hf.2.2.2.1, hf.2.2.2.2.1, fun m hm => by cases hm⟩) (store_fit h hS)) (gs_good h2 hus hT) hQ
  refine ⟨k1, fun e => ?_⟩
  obtain ⟨j1, j2, j3, Y, j4, j5, j6⟩ := k2 e
  refine ⟨j1, j2, j3, Y, j5.up, j5.pm.symm, by omega, ?_⟩
  rw [j4]
  unfold fitsR
  rw [if_neg (by omega)]
theorem rs_good {N Y : List PM} {u : ByteArray} {g : FM} {L : List PM} (hN : GoodL N) (hL : GoodL L) (n0 : 0 ≤ nextM (emptyR N u g.name)) (hu8 : u.size ≤ 8) (hf8 : g.name.size ≤ 8) (hg0 : 0 ≤ g.next) (hg1 : g.next ≤ 10000) (hsub : ∀ x ∈ g.mails.map (mailP u g.name), x ∈ L) (hup : UpL Y) (h6 : Y.length ≤ 60) (h : rsG N u g.name g = (Y, 0)) : GoodL Y := by
  refine ⟨h6, ?_, hup⟩
  unfold rsG at h
  have hue : UpL (emptyR N u g.name) := hN.2.2.sublist List.filter_sublist
  cases hfr : freshR (emptyR N u g.name) N u g.name g.next with
  | mk R1 q1 =>
  rw [hfr] at h
  unfold rsT at h
  split at h
  · rename_i hq
    cases h
    exact absurd rfl hq
  rename_i hq
  have hq1 : q1 = 0 := by simpa using hq
  subst hq1
  split at h
  · cases h
  have hY : insAll (g.mails.map (mailP u g.name)) R1 = Y := by
    unfold fitsR at h
    split at h
    · cases h
    · cases h; rfl
  intro x hx
  rw [← hY] at hx
  have hu1 := (fresh_ok hue hfr).2
  rcases insAll_mem _ hu1 hx with hx | hx
  · exact hL.2.1 x (hsub x hx)
  · unfold freshR at hfr
    split at hfr
    · cases hfr
    rename_i h99
    unfold fitsR at hfr
    split at hfr
    · cases hfr
    cases hfr
    rcases ins_mem (ins_up hue) hx with rfl | hx
    · have h1 := metaT_39 n0 (by omega) hg0 hg1
      have h2 : (folderK u g.name).size = u.size + g.name.size + 3 := by
        rw [size_of, folderK_data, size_of, size_of]
        simp only [List.length_cons, List.length_append]
        omega
      exact ⟨by show 1 ≤ (folderK u g.name).size; omega, by show (folderK u g.name).size ≤ 30; omega, by show (metaT _ _).size ≤ 90; omega⟩
    · rcases ins_mem hue hx.1 with rfl | hx8
      · have h3 := itoa_19 (nextM (emptyR N u g.name) + 1) (by omega) (by omega)
        exact ⟨by show 1 ≤ vK.size; decide, by show vK.size ≤ 30; decide, by show (bs (itoa _)).size ≤ 90; omega⟩
      · exact hN.2.1 x (List.mem_filter.1 hx8.1).1
theorem em_good {N L : List PM} {u : ByteArray} {ns : List ByteArray} (hN : GoodL N) (hup : UpL (emL u L N ns)) : GoodL (emL u L N ns) := by
  obtain ⟨h1, h2⟩ := em_len u L ns N
  exact ⟨Nat.le_trans h1 hN.1, fun x hx => hN.2.1 x (h2 x hx), hup⟩
theorem ruR_len {N L : List PM} {u : ByteArray} (h : storeB N = true) (h2 : storeB L = true) (hus : (47 : UInt8) ∉ u.data.toList) : (ruR N L u).1.length ≤ 4000 := by
  obtain ⟨S, hS, _, _⟩ := take_all h hus
  obtain ⟨T, hT, _, _⟩ := take_all h2 hus
  obtain ⟨q, nx', S', hq⟩ : ∃ q nx' S', ruM (nextM N) u S T (listS N u) (gsO L u) = (q, nx', S') := ⟨_, _, _, rfl⟩
  have hf := ruo_fits h h2 hus hS hT hq
  have h60 := (store_facts h).1.1
  by_cases e : q = 0
  · obtain ⟨_, _, _, Y, _, _, h4, h5⟩ := hf.2 e
    rw [h5]
    unfold fitsR
    split
    · show N.length ≤ 4000; omega
    · exact h4
  · rw [hf.1 e]
    show N.length ≤ 4000
    omega
end Go.Proofs.YtbpgncgmolpkiaaGreatDoor
namespace Go.Proofs.YtbpgncgmolpkiaaGreatDoor
open Go.ChangeShapes Go.WideShapes Go.ChangeAt Go.RowKit Go.Deep Go.Lib
set_option linter.unusedVariables false
set_option linter.unusedSimpArgs false
set_option maxRecDepth 100000

theorem at_row {w : World} {M : Nat} {D : DK} {u f : ByteArray} {fs : List FM} {g : FM} (hD : DeskAt w M D) (hV : View u D.X fs) (hl : lookF f fs = some g) : ∃ ax cx, atX (lookX (folderK u f) D.X) = .agg #[.string g.name, .int .i64 g.val, .int .i64 g.next, .slice ax g.mails.length cx] ∧ w.ownsRow (M + 2) 62 3 (.slice ax g.mails.length cx) g.mails.length (cellsMl g.mails) ∧ (∀ z ∈ D.X, z.k ≠ folderK u f → ∀ y, z.v.ownBlock = some y → Value.ownBlock (.slice ax g.mails.length cx) ≠ some y) ∧ ∃ x ∈ D.X, x.k = folderK u f ∧ x.v = .slice ax g.mails.length cx := by
  have hlx := hV.look f
  rw [hl] at hlx
  obtain ⟨x, hx1, hx2⟩ := Option.map_eq_some_iff.1 hlx
  subst hx2
  have ho := hD.2.2.2.1 x (look_mem hx1)
  obtain ⟨ax, cx, hv, _, _⟩ := own_src ho
  obtain ⟨A, B, _, _, hxk⟩ := lookX_some hx1
  refine ⟨ax, cx, ?_, ?_, fun z hz hk => ?_, x, look_mem hx1, hxk, hv⟩
  · rw [hx1]
    show valX x = _
    unfold valX
    rw [hv]
  · rw [hv] at ho
    exact ho
  · have h9 := rows_apart hD.2.2.2 hx1 hz hk
    rw [hv] at h9
    exact h9
/-- Where the rows of a desk come from. -/
def FromP (X Z : List FX) (u : ByteArray) (gs : List FM) (y : Nat) : Prop := (∃ z0 ∈ X, z0.v.ownBlock = some y) ∨ ∃ z0 ∈ Z, (∃ g ∈ gs, z0.k = folderK u g.name) ∧ z0.v.ownBlock = some y
def RuAt (w : World) (M : Nat) (a : Option Addr) (n c : Nat) (nx : Int) (u : ByteArray) (S : SM) (k : Nat) (P : Nat → Prop) : Prop :=
  ∃ va X, DeskAt w M ⟨a, n, c, va, S.aside, nx, u, S.word, X⟩ ∧ View u X S.fs ∧ (S.fs.map (·.name)).Nodup ∧ (∀ f ∈ S.fs, 1 ≤ f.next ∧ f.next ≤ 999 ∧ f.mails.length ≤ k) ∧ S.aside.length ≤ k ∧ ∀ z ∈ X, ∀ y, z.v.ownBlock = some y → P y
theorem RuAt.st {w : World} {M : Nat} {a : Option Addr} {n c : Nat} {nx : Int} {u : ByteArray} {S : SM} {k : Nat} {P : Nat → Prop} (h : RuAt w M a n c nx u S k P) : StAt w M a n c nx u S k := by
  obtain ⟨va, X, h1, h2, h3, h4, h5, _⟩ := h
  exact ⟨va, X, h1, h2, h3, h4, h5⟩
theorem RuAt.later {w w' : World} {M : Nat} {a : Option Addr} {n c : Nat} {nx : Int} {u : ByteArray} {S : SM} {k : Nat} {P : Nat → Prop} (h : RuAt w M a n c nx u S k P) (hb : Below w.heap.size w w') : RuAt w' M a n c nx u S k P := by
  obtain ⟨va, X, h1, h2⟩ := h
  exact ⟨va, X, h1.later hb, h2⟩
theorem fs_len {L : List PM} {u : ByteArray} {S : SM} (h : storeB L = true) (hus : (47 : UInt8) ∉ u.data.toList) (hS : takeAll (nextM L) u S0 L = some S) : S.fs.length ≤ 60 := by
  obtain ⟨S', k1, _, hI⟩ := take_all h hus
  rw [hS] at k1
  cases k1
  have hp := (List.perm_ext_iff_of_nodup (names_all (S := S0) List.nodup_nil hS) (list_nodup (u := u) h)).2 (folders_mem h hus hI)
  have h1 := hp.length_eq
  rw [List.length_map] at h1
  have h2 := (gs_len (u := u) h hus).2
  omega
theorem View.len {u : ByteArray} {X : List FX} {fs : List FM} (h : View u X fs) : X.length = fs.length := by
  have h1 := congrArg List.length h.keys
  rw [List.length_map, List.length_map] at h1
  exact h1
set_option maxHeartbeats 8000000 in
theorem restoreUserI (w : World) (M : Nat) (a : Option Addr) (n c : Nat) (nx : Int) (u : ByteArray) (S : SM) (k : Nat) (va : Value) (X : List FX) (hD : DeskAt w M ⟨a, n, c, va, S.aside, nx, u, S.word, X⟩) (hV : View u X S.fs) (hN : (S.fs.map (·.name)).Nodup) (hf : ∀ f ∈ S.fs, 1 ≤ f.next ∧ f.next ≤ 999 ∧ f.mails.length ≤ k) (hk : S.aside.length ≤ k) (hkk : k ≤ 1000) (hX6 : X.length ≤ 60)
    (O : Nat) (a2 : Option Addr) (n2 c2 : Nat) (nx2 : Int) (T : SM) (vb : Value) (Z : List FX) (hE : DeskAt w O ⟨a2, n2, c2, vb, T.aside, nx2, u, T.word, Z⟩) (hW : View u Z T.fs) (hNt : (T.fs.map (·.name)).Nodup) (hft : ∀ f ∈ T.fs, 1 ≤ f.next ∧ f.next ≤ 999 ∧ f.mails.length ≤ k) (hkt : T.aside.length ≤ k) (hZ6 : Z.length ≤ 60) (hMO : M + 1 < O) (hlt : ∀ z ∈ X, ∀ y, z.v.ownBlock = some y → y < O)
    (hus : (47 : UInt8) ∉ u.data.toList) (hu : u.size ≤ 1000) (n0 : 0 ≤ nx) (n1 : nx ≤ 10000) (hG : Gl w) (h8 : 8 ≤ M)
    (ns : List ByteArray) (hns : ∀ R : List ByteArray, R.Perm (S.fs.map (·.name)) → ((R.map (·.data.toList)).mergeSort fun x y => decide (x ≤ y)) = ns.map (·.data.toList)) (hnd : ns.Nodup) (hnf : ∀ x ∈ ns, x.size ≤ 1000 ∧ (lookF x S.fs).isSome = true) (m : Nat) (hm : ns.length = m) (hm6 : m ≤ 60)
    (gs : List FM) (hgs : ∀ R : List ByteArray, R.Perm (T.fs.map (·.name)) → ((R.map (·.data.toList)).mergeSort fun x y => decide (x ≤ y)) = (gs.map (·.name)).map (·.data.toList)) (hgd : (gs.map (·.name)).Nodup) (hgf : ∀ g ∈ gs, GoodG u g ∧ lookF g.name T.fs = some g) (m2 : Nat) (hm2 : gs.length = m2) (hm26 : m2 ≤ 60)
    (NE : List PM) (hl : S.word.toList ≠ [] → Lies NE nx u ⟨S.aside, S.word, emE T.fs S.fs ns⟩) (hN6 : NE.length ≤ 60) (hfe : ∀ f ∈ emE T.fs S.fs ns, FitF f) (q nx' : Int) (S' : SM) (HQ : Hid (ruM nx u S T ns gs = (q, nx', S'))) :
    Calls Tryz.prog 47 #[.pointer (some ⟨M + 1, 0, none⟩), .pointer (some ⟨O + 1, 0, none⟩)] w fun e w' => e = .returned (.int .i64 q) ∧ StAt w' M a n c nx' u S' k ∧ Below M w w' := by
  have hM1 : M + 1 < w.heap.size := World.block_lt_of_cell? _ _ (hD.1 0 _ rfl).1
  have hST : StAt w M a n c nx u S k := ⟨va, X, hD, hV, hN, hf, hk⟩
  have HST : Hid (StAt w M a n c nx u S k) := hST
  have hq9 := HQ.out
  unfold ruM at hq9
  obtain ⟨lq, hlq⟩ : ∃ x, lackM S.word S.fs [] = x := ⟨_, rfl⟩
  have CL := lacksI w M a n c nx u S k hST hu none 0 0 [] rfl (by omega) (fun s hs => by cases hs) (.inl rfl) lq hlq
  by_cases hw : S.word.toList = []
  · rw [if_pos hw] at hq9
    cases hq9
    obtain rfl : 15 = lq := by rw [← hlq]; unfold lackM; rw [if_pos hw]
    clear hD hV hN hf hk hE hW hft hlt hl hus hG HQ hST hlq hns hnd hnf hgs hgd hgf hfe hNt hkt
    go_enter Tryz.func47, Tryz.ntmps47
    go_wp2_with fail
    refine CL.mono ?_
    rintro e w1 ⟨rfl, hb1⟩
    have HF : Hid (StAt w1 M a n c nx u S k ∧ Below M w w1) := ⟨HST.out.later hb1, hb1.mono (by omega)⟩
    clear CL hb1
    go_wp2_with fail
    go_ret
    exact ⟨rfl, HF.out.1, HF.out.2⟩
  rw [if_neg hw] at hq9
  obtain rfl : 0 = lq := by rw [← hlq]; unfold lackM; rw [if_neg hw]; rfl
  have hST2 : StAt w O a2 n2 c2 nx2 u T k := ⟨vb, Z, hE, hW, hNt, hft, hkt⟩
  obtain ⟨l2, hl2⟩ : ∃ x, lackM T.word T.fs [] = x := ⟨_, rfl⟩
  have CL2 := fun W (hb : Below w.heap.size w W) => lacksI W O a2 n2 c2 nx2 u T k (hST2.later hb) hu none 0 0 [] rfl (by omega) (fun s hs => by cases hs) (.inl rfl) l2 hl2
  by_cases hw2 : T.word.toList = []
  · rw [if_pos hw2] at hq9
    cases hq9
    obtain rfl : 15 = l2 := by rw [← hl2]; unfold lackM; rw [if_pos hw2]
    clear hD hV hN hf hk hE hW hft hlt hl hus hG HQ hST hlq hns hnd hnf hgs hgd hgf hfe hNt hkt hST2 hl2
    go_enter Tryz.func47, Tryz.ntmps47
    go_wp2_with fail
    refine CL.mono ?_
    rintro e w1 ⟨rfl, hb1⟩
    have B1 : Hid (Below w.heap.size w w1) := hb1
    have CL3 := CL2 w1 hb1
    clear CL CL2 hb1
    go_wp2_with fail
    refine CL3.mono ?_
    rintro e w2 ⟨rfl, hb2⟩
    have HF : Hid (StAt w2 M a n c nx u S k ∧ Below M w w2) := by
      have h9 := B1.out.trans (hb2.mono B1.out.size)
      exact ⟨HST.out.later h9, h9.mono (by omega)⟩
    clear CL3 hb2
    go_wp2_with fail
    go_ret
    exact ⟨rfl, HF.out.1, HF.out.2⟩
  rw [if_neg hw2] at hq9
  obtain rfl : 0 = l2 := by rw [← hl2]; unfold lackM; rw [if_neg hw2]; rfl
  have CE := fun W (hb : Below w.heap.size w W) => emptyForI W M a n c nx u S.aside S.word S.fs k va X (hD.later hb) hV hN hf hX6 O ⟨a2, n2, c2, vb, T.aside, nx2, u, T.word, Z⟩ rfl T.fs (hE.later hb) hW hMO hu ns hns hnd hnf m hm hm6
  have HE : Hid (DeskAt w O ⟨a2, n2, c2, vb, T.aside, nx2, u, T.word, Z⟩ ∧ View u Z T.fs) := ⟨hE, hW⟩
  have HZL : Hid (leftNames #[] Z = T.fs.map (·.name)) := leftN_view hW
  have HGS : Hid (∀ R : List ByteArray, R.Perm (T.fs.map (·.name)) → ((R.map (·.data.toList)).mergeSort fun x y => decide (x ≤ y)) = (gs.map (·.name)).map (·.data.toList)) := hgs
  have HGD : Hid ((gs.map (·.name)).Nodup ∧ (∀ g ∈ gs, GoodG u g ∧ lookF g.name T.fs = some g) ∧ gs.length = m2) := ⟨hgd, hgf, hm2⟩
  have HFT : Hid (∀ f ∈ T.fs, 1 ≤ f.next ∧ f.next ≤ 999 ∧ f.mails.length ≤ k) := hft
  have HLT : Hid (∀ z ∈ X, ∀ y, z.v.ownBlock = some y → y < O) := hlt
  have HLI : Hid (Lies NE nx u ⟨S.aside, S.word, emE T.fs S.fs ns⟩ ∧ NE.length ≤ 60 ∧ 0 ≤ nx ∧ nx ≤ 10000 ∧ ∀ f ∈ emE T.fs S.fs ns, FitF f) := ⟨hl hw, hN6, n0, n1, hfe⟩
  have HQL : Hid (rsL u nx ⟨S.aside, S.word, emE T.fs S.fs ns⟩ gs = (q, nx', S')) := hq9
  have HUS : Hid ((47 : UInt8) ∉ u.data.toList) := hus
  have HG : Hid (Gl w) := hG
  have HK : Hid (S.aside.length ≤ k) := hk
  clear hD hV hN hf hk hE hW hft hlt hl hus hG HQ hST hlq hns hnd hnf hgs hgd hgf hfe hNt hkt hST2 hl2 hm hm2 hq9 HST hX6
  go_enter Tryz.func47, Tryz.ntmps47
  go_wp2_with fail
  refine CL.mono ?_
  rintro e w1 ⟨rfl, hb1⟩
  have B1 : Hid (Below w.heap.size w w1) := hb1
  have CL3 := CL2 w1 hb1
  clear CL CL2 hb1
  go_wp2_with fail
  refine CL3.mono ?_
  rintro e w2 ⟨rfl, hb2⟩
  have B2 : Hid (Below w.heap.size w w2) := B1.out.trans (hb2.mono B1.out.size)
  have CE2 := CE w2 B2.out
  clear CL3 hb2 CE B1
  go_wp2_with fail
  refine CE2.mono ?_
  rintro e w3 ⟨rfl, hem, hb3, hk3⟩
  have B3 : Hid (Below M w w3) := (B2.out.mono (by omega)).trans hb3
  have hE3 : DeskAt w3 O ⟨a2, n2, c2, vb, T.aside, nx2, u, T.word, Z⟩ := desk_keep (HE.out.1.later B2.out) hk3 hMO
  have HE3 : Hid (DeskAt w3 O ⟨a2, n2, c2, vb, T.aside, nx2, u, T.word, Z⟩) := hE3
  have HM3 : Hid (EmAt w3 M a n c va S.aside nx u S.word (emE T.fs S.fs ns) k X) := hem
  have CN := namesI w3 O _ hE3 hZ6
  have hM3 : M + 1 < w3.heap.size := by have := B3.out.size; omega
  clear CE2 hem hb3 hk3 hE3 B2
  go_wp2_with fail
  refine CN.mono ?_
  rintro e w4 ⟨v4, rfl, ⟨R, hR, ow⟩, hb4⟩
  have hR2 : R.Perm (T.fs.map (·.name)) := by
    have h9 : R.Perm (leftNames #[] Z) := hR
    rw [HZL.out] at h9
    exact h9
  obtain ⟨r1, r2⟩ := cells_sorted R (gs.map (·.name)) (HGS.out R hR2)
  rw [r2, r1, List.length_map, HGD.out.2.2] at ow
  obtain ⟨ab, cb, rfl, _, _⟩ := own_src ow
  have HO4 : Hid (w4.ownsRow w3.heap.size 9 1 (.slice ab m2 cb) m2 (cellsS (gs.map (·.name)))) := ow
  have B4 : Hid (Below M w w4) := B3.out.trans (hb4.mono (by omega))
  have HE4 : Hid (DeskAt w4 O ⟨a2, n2, c2, vb, T.aside, nx2, u, T.word, Z⟩) := HE3.out.later hb4
  have HR4 : Hid (RuAt w4 M a n c nx u ⟨S.aside, S.word, emE T.fs S.fs ns⟩ k (FromP X Z u (gs.take 0))) := by
    obtain ⟨X4, j1, j2, j3, j4, j5⟩ := HM3.out
    exact ⟨va, X4, j1.later hb4, j2, j3, j4, HK.out, fun z hz y hy => .inl (j5 z hz y hy)⟩
  clear CN hR hR2 r1 r2 ow hb4 HE3 HM3 HGS HZL HK B3
  go_wp2_with fail
  go_loopw [23] (fun iv wr => ∃ (j : Nat) (nj : Int) (Sj : SM) (Nj : List PM), j ≤ m2 ∧ iv = .int .i64 (j : Int) ∧ Hid (RuAt wr M a n c nj u Sj k (FromP X Z u (gs.take j))) ∧ Hid (Lies Nj nj u Sj ∧ Nj.length ≤ 60 ∧ 0 ≤ nj ∧ nj ≤ 10000 ∧ ∀ f ∈ Sj.fs, FitF f) ∧ Hid (rsL u nj Sj (gs.drop j) = (q, nx', S')) ∧ Hid (Keep M w4 wr) ∧ Hid (Below M w4 wr)) (fun i _ => m2 - (RowKit.intOf i).toNat)
  case atStart => exact ⟨0, nx, _, NE, by omega, rfl, HR4.out, HLI.out, HQL.out, (fun B hB _ _ => rfl), Below.refl _ _⟩
  case round =>
    obtain ⟨j, nj, Sj, Nj, hj, rfl, hru, hli, hql, hkp, hbr⟩ := hrel
    by_cases hlj : j < m2
    · have hltj : (j : Int) < (m2 : Int) := by omega
      have hjg : j < gs.length := by rw [HGD.out.2.2]; exact hlj
      have hjn : j < (gs.map (·.name)).length := by rw [List.length_map]; exact hjg
      obtain ⟨a9, c9, e9, s9, _⟩ := own_src (own_keep HO4.out hkp.out hM3)
      cases e9
      obtain ⟨b', o', t, rfl, c1, hy⟩ := srcS s9 hjn
      obtain ⟨g, hge⟩ : ∃ g, gs[j] = g := ⟨_, rfl⟩
      have hgm : g ∈ gs := by rw [← hge]; exact List.getElem_mem hjg
      have hgt : g.name = t := by
        have h9 := hy.out
        rw [List.getD_eq_getElem?_getD, List.getElem?_eq_getElem hjn, List.getElem_map, hge] at h9
        exact h9
      obtain ⟨⟨gf, gs1, gap⟩, hlk⟩ := HGD.out.2.1 g hgm
      have htk : gs.take (j + 1) = gs.take j ++ [g] := by rw [List.take_add_one, List.getElem?_eq_getElem hjg, hge]; rfl
      have hdr : gs.drop j = g :: gs.drop (j + 1) := by rw [List.drop_eq_getElem_cons hjg, hge]
      obtain ⟨q1, nx1, S1, hm1⟩ : ∃ q1 nx1 S1, rsM nj u Sj g = (q1, nx1, S1) := ⟨_, _, _, rfl⟩
      have hEr : DeskAt wr O ⟨a2, n2, c2, vb, T.aside, nx2, u, T.word, Z⟩ := desk_keep HE4.out hkp.out hMO
      obtain ⟨ax, cx, hat, hrow, hapart, x, hxZ, hxk, hxv⟩ := at_row hEr HE.out.2 hlk
      have hat2 : atX (lookX (folderK u g.name) Z) = .agg #[.string g.name, .int .i64 g.val, .int .i64 g.next, .slice ax g.mails.length cx] := hat
      have CT := atI t wr O ⟨a2, n2, c2, vb, T.aside, nx2, u, T.word, Z⟩ (by rw [← hgt]; have := gf.2.2.2.2.1; omega) (by show u.size ≤ 1048576; omega) hEr
      have hgb := HFT.out g (lookF_mem hlk).1
      obtain ⟨vj, Xj, d1, d2, d3, d4, d5, d6⟩ := hru.out
      obtain ⟨l1, l2, l3, l4, l5⟩ := hli.out
      have hap : ∀ z ∈ Xj, ∀ y, z.v.ownBlock = some y → Value.ownBlock (.slice ax g.mails.length cx) ≠ some y := fun z hz y hy9 h9 => by
        rcases d6 z hz y hy9 with ⟨z0, hz0, hy0⟩ | ⟨z0, hz0, ⟨g', hg', hk'⟩, hy0⟩
        · have k1 := HLT.out z0 hz0 y hy0
          have k2 := own_base hrow h9
          omega
        · refine hapart z0 hz0 ?_ y hy0 h9
          rw [hk']
          intro e
          have e2 : g'.name = g.name := folderK_inj e
          have hnd := HGD.out.1
          have h7 : g.name ∈ (gs.take j).map (·.name) := List.mem_map.2 ⟨g', hg', e2⟩
          rw [List.map_take] at h7
          exact take_fresh hnd hjn (by rw [hy.out, hgt]) h7
      have CR := fun W (hb : Below wr.heap.size wr W) => restoreI W M a n c nj u Sj k vj Xj (d1.later hb) d2 d3 d4 d5 hkk g g.name g.next g.val ax g.mails.length cx g.mails rfl rfl hgb (own_mono (own_below hrow hb) (by omega)) hap Nj l1 l2 HUS.out hu gs1 gf.2.2.2.2.1 gap l5 gf.2.2.2.2.2 l3 l4 (HG.out.below h8 ((B4.out.trans hbr.out).trans (hb.mono (by have := (B4.out.trans hbr.out).size; omega)))) h8 q1 nx1 S1 hm1
      have HFP : Hid (∀ y, ((∃ z0 ∈ Xj, z0.v.ownBlock = some y) ∨ Value.ownBlock (.slice ax g.mails.length cx) = some y) → FromP X Z u (gs.take (j + 1)) y) := fun y h9 => by
        rw [htk]
        rcases h9 with ⟨z0, hz0, hy0⟩ | h9
        · rcases d6 z0 hz0 y hy0 with h6 | ⟨z1, hz1, ⟨g', hg', hk'⟩, hy1⟩
          · exact .inl h6
          · exact .inr ⟨z1, hz1, ⟨g', List.mem_append_left _ hg', hk'⟩, hy1⟩
        · exact .inr ⟨x, hxZ, ⟨g, List.mem_append_right _ (List.mem_singleton.2 rfl), hxk⟩, by rw [hxv]; exact h9⟩
      have HRS : Hid (RsFits Nj nj u g q1 nx1 S1 (rsG Nj u g.name g) ∧ rsM nj u Sj g = (q1, nx1, S1) ∧ GoodG u g) := ⟨rs_fits l1 l3 l4 HUS.out gs1 rfl gap hm1, hm1, gf, gs1, gap⟩
      have HQ2 : Hid (rsL u nj Sj (g :: gs.drop (j + 1)) = (q, nx', S')) := by
        have h9 := hql.out
        rw [hdr] at h9
        exact h9
      obtain ⟨nm, hnm⟩ : ∃ t, g.name = t := ⟨_, rfl⟩
      obtain ⟨gv, hgv⟩ : ∃ t, g.val = t := ⟨_, rfl⟩
      obtain ⟨gx, hgx⟩ : ∃ t, g.next = t := ⟨_, rfl⟩
      obtain ⟨ml, hml⟩ : ∃ t, g.mails.length = t := ⟨_, rfl⟩
      obtain rfl : nm = t := by rw [← hnm, hgt]
      have CT2 : Calls Tryz.prog 37 #[.pointer (some ⟨O + 1, 0, none⟩), .string nm] wr fun e w' => e = .returned (.agg #[.string nm, .int .i64 gv, .int .i64 gx, .slice ax ml cx]) ∧ Below wr.heap.size wr w' := by
        rw [hnm, hgv, hgx, hml] at hat2
        rw [← hat2]
        exact CT
      rw [hml] at HFP
      rw [hnm, hgv, hgx, hml] at CR
      have hMr : M + 1 < wr.heap.size := by have := (B4.out.trans hbr.out).size; omega
      clear CT hat hat2 hrow hapart hxZ hxk hxv d1 d2 d3 d4 d5 d6 l1 l2 l3 l4 l5 hap hgb hlk gf gs1 gap htk hdr hm1 hEr hgm hge hgt hru hql s9 hgv hgx hml hnm
      go_wp2_with fail
      refine CT2.mono ?_
      rintro e w5 ⟨rfl, hb5⟩
      have CR5 := CR w5 hb5
      have B5 : Hid (Below wr.heap.size wr w5) := hb5
      clear CT2 CR hb5
      go_wp2_with fail
      refine CR5.mono ?_
      rintro e w6 ⟨rfl, hst6, hb6, hk6, hrp6⟩
      have B6 : Hid (Below M w4 w6) := (hbr.out.trans (B5.out.mono (by omega))).trans hb6
      have K6 : Hid (Keep M w4 w6) := by
        have k5 := hkp.out.next hbr.out.size B5.out
        exact k5.trans (Nat.le_trans hbr.out.size B5.out.size) hk6
      have HS6 : Hid (StAt w6 M a n c nx1 u S1 k) := hst6
      have HP6 : Hid (RestPost q1 w6 M a n c nx1 u S1 k Xj (.slice ax ml cx)) := hrp6
      clear CR5 hst6 hb6 hk6 hrp6 B5 hkp hbr
      by_cases hq1 : q1 = 0
      · subst hq1
        have HR6 : Hid (RuAt w6 M a n c nx1 u S1 k (FromP X Z u (gs.take (j + 1)))) := by
          obtain ⟨va6, X6, t1, t2, t3, t4, t5, t6⟩ := HP6.out rfl
          exact ⟨va6, X6, t1, t2, t3, t4, t5, fun z hz y hy9 => HFP.out y (t6 z hz y hy9)⟩
        have HL6 : Hid (Lies (rsG Nj u g.name g).1 nx1 u S1 ∧ (rsG Nj u g.name g).1.length ≤ 60 ∧ 0 ≤ nx1 ∧ nx1 ≤ 10000 ∧ ∀ f ∈ S1.fs, FitF f) := by
          obtain ⟨p1, p2, p3⟩ := HRS.out
          obtain ⟨r1, r2, r3, r4⟩ := p1.2 rfl
          obtain ⟨m1, m2, m3⟩ := rsM_ok p2
          obtain ⟨l1, l2, l3, l4, l5⟩ := hli.out
          refine ⟨r4, r3, by omega, by omega, fun f hf9 => ?_⟩
          rw [m3] at hf9
          obtain ⟨e1, e2, e3, e4, e5, e6⟩ := p3.1
          rcases putF_mem hf9 with hf9 | rfl
          · exact l5 f hf9
          · exact ⟨l3, l4, e3, e4, e5, e6⟩
        have HQ6 : Hid (rsL u nx1 S1 (gs.drop (j + 1)) = (q, nx', S')) := by
          have h9 := HQ2.out
          rw [rsL_ok HRS.out.2.1] at h9
          exact h9
        clear HP6 HS6 HFP HQ2 HRS hli
        go_wp2_with fail
        exact ⟨⟨j + 1, nx1, S1, _, by omega, by go_num, HR6.out, HL6.out, HQ6.out, K6.out, B6.out⟩, by simp [RowKit.intOf]; omega⟩
      · have hq1i : (q1 != 0) = true := by simpa using hq1
        have h9 := HQ2.out
        rw [rsL_bad HRS.out.2.1 hq1] at h9
        cases h9
        have HF : Hid (StAt w6 M a n c nx' u S' k ∧ Below M w w6) := ⟨HS6.out, B4.out.trans B6.out⟩
        clear HP6 HS6 HFP HQ2 HRS hli B6 K6
        go_wp2_with fail
        go_ret
        exact ⟨rfl, HF.out.1, HF.out.2⟩
    · obtain rfl : j = m2 := by omega
      have hltj : ¬ (j : Int) < (j : Int) := by omega
      have h9 := hql.out
      rw [List.drop_of_length_le (by rw [HGD.out.2.2]; exact Nat.le_refl _)] at h9
      cases h9
      have HF : Hid (StAt wr M a n c nx' u S' k ∧ Below M w wr) := ⟨hru.out.st, B4.out.trans hbr.out⟩
      clear hru hkp hbr hli hql
      go_wp2_with fail
      go_ret
      exact ⟨rfl, HF.out.1, HF.out.2⟩
end Go.Proofs.YtbpgncgmolpkiaaGreatDoor
namespace Go.Proofs.YtbpgncgmolpkiaaGreatDoor
open Go.ChangeShapes Go.WideShapes Go.ChangeAt Go.RowKit Go.Deep Go.Lib
set_option linter.unusedVariables false
set_option linter.unusedSimpArgs false
set_option maxRecDepth 100000

theorem emL_take {u : ByteArray} {L N : List PM} {ns : List ByteArray} {j : Nat} {t : ByteArray} (h : j < ns.length) (ht : ns.getD j e0 = t) : emL u L N (ns.take (j + 1)) = stepL u (metaM L u t).isSome (emL u L N (ns.take j)) t := by
  have e : ns[j] = t := by
    rw [List.getD_eq_getElem?_getD, List.getElem?_eq_getElem h] at ht
    exact ht
  unfold emL
  rw [List.take_add_one, List.getElem?_eq_getElem h, e, List.foldl_append]
  rfl
theorem lies_v {N : List PM} {nx : Int} {u : ByteArray} {S : SM} (h : Lies N nx u S) : (vK, bs (itoa nx)) ∈ N := h.pm.mem_iff.2 List.mem_cons_self
theorem lies_u {N : List PM} {nx : Int} {u : ByteArray} {S : SM} (h : Lies N nx u S) : (getM N (userK u)).isSome = true := by
  have h1 : (userK u, S.word) ∈ N := h.pm.mem_iff.2 (List.mem_cons_of_mem _ List.mem_cons_self)
  rw [(getM_mem h.up).2 h1]
  rfl
theorem rsR_is {N L : List PM} {nx : Int} {u : ByteArray} {S : SM} {g : FM} (h : Lies N nx u S) (ho : oldF L u g.name = some g) : rsR N L u g.name = rsG N u g.name g := by
  unfold rsR
  rw [lies_u h, if_neg (by decide), ho]
  rfl
theorem rs_next {N L Y : List PM} {nx : Int} {u : ByteArray} {S : SM} {g : FM} (h : Lies N nx u S) (n0 : 0 ≤ nx) (n1 : nx ≤ 10000) (hg : GoodL N) (hL : GoodL L) (hus : (47 : UInt8) ∉ u.data.toList) (hu8 : u.size ≤ 8) (hf8 : g.name.size ≤ 8) (hgg : GoodG u g) (hsub : ∀ x ∈ g.mails.map (mailP u g.name), x ∈ L) (hr : rsG N u g.name g = (Y, 0)) : ∃ nx' S', Lies Y nx' u S' ∧ 0 ≤ nx' ∧ nx' ≤ 10000 ∧ GoodL Y := by
  obtain ⟨g1, g2, g3⟩ := hgg
  obtain ⟨q1, nx1, S1, hm⟩ : ∃ q1 nx1 S1, rsM nx u S g = (q1, nx1, S1) := ⟨_, _, _, rfl⟩
  have hf := rs_fits h n0 n1 hus g2 rfl g3 hm
  by_cases e : q1 = 0
  · subst e
    obtain ⟨r1, r2, r3, r4⟩ := hf.2 rfl
    obtain ⟨m1, m2, m3⟩ := rsM_ok hm
    rw [hr] at r3 r4
    refine ⟨nx1, S1, r4, by omega, by omega, rs_good hg hL ?_ hu8 hf8 g1.2.2.1 g1.2.2.2.1 hsub r4.up r3 hr⟩
    rw [empty_next h n0 n1 hus g2]
    exact n0
  · have h2 := hf.1 e
    rw [hr] at h2
    cases h2
    exact absurd rfl e
set_option maxHeartbeats 8000000 in
theorem l08RestoreUserS (b o n c : Nat) (N : List PM) (hN : N.length = n) (hc : n ≤ c) (hc9 : c ≤ maxLen) (hst1 : storeB N = true) (b2 : Option Addr) (n2 c2 : Nat) (L : List PM) (hL : L.length = n2) (hst : storeB L = true) (u : ByteArray) (hsu : shortB u = true) (w : World) (h : Src w (some ⟨b, o, none⟩) (cellsP N)) (h2 : Src w b2 (cellsP L)) (R : List PM) (q : Int) (HR : Hid (ruR N L u = (R, q))) :
    Calls Tryz.prog 46 #[.slice (some ⟨b, o, none⟩) n c, .slice b2 n2 c2, .string u] w fun e w' => ∃ a3 n3 c3, e = .returned (.tuple #[.slice a3 n3 c3, .int .i64 q]) ∧ R.length = n3 ∧ Src w' a3 (cellsP R) ∧ Below w.heap.size w w' := by
  obtain ⟨hg, nx0, hnm, n1, n2', _⟩ := store_facts hst1
  rw [hnm] at n1 n2'
  have hn60 := hg.1
  rw [hN] at hn60
  have hus := word_slash hsu
  have zu := short_size' hsu
  obtain ⟨hgl, _⟩ := store_facts hst
  have hl60 := hgl.1
  rw [hL] at hl60
  have HLN : Hid (N.length = n ∧ Src w (some ⟨b, o, none⟩) (cellsP N)) := ⟨hN, h⟩
  have HBAD : Hid (∀ (W : World) (z : Int), Below w.heap.size w W → (N, z) = (R, q) → ∃ a3 n3 c3, Ending.returned (Value.tuple #[.slice (some ⟨b, o, none⟩) n c, .int .i64 z]) = Ending.returned (.tuple #[.slice a3 n3 c3, .int .i64 q]) ∧ R.length = n3 ∧ Src W a3 (cellsP R) ∧ Below w.heap.size w W) := fun W z hW he => by
    cases he
    exact ⟨_, _, _, rfl, HLN.out.1, HLN.out.2.below hW, hW⟩
  have CU := fun W => l07UserS u W (by omega)
  have CG := fun W (hW : Below w.heap.size w W) => l01GetM (some ⟨b, o, none⟩) n c N (userK u) W hN hg (h.below hW)
  have CG2 := fun W (hW : Below w.heap.size w W) => l01GetM b2 n2 c2 L (userK u) W hL hgl (h2.below hW)
  obtain ⟨tv, htv⟩ : ∃ t, (getM N (userK u)).getD e0 = t := ⟨_, rfl⟩
  obtain ⟨tb, htb⟩ : ∃ t, (getM N (userK u)).isSome = t := ⟨_, rfl⟩
  obtain ⟨tv2, htv2⟩ : ∃ t, (getM L (userK u)).getD e0 = t := ⟨_, rfl⟩
  obtain ⟨tb2, htb2⟩ : ∃ t, (getM L (userK u)).isSome = t := ⟨_, rfl⟩
  simp only [htv, htb] at CG
  simp only [htv2, htb2] at CG2
  obtain ⟨S, hS, _, _⟩ := take_all hst1 hus
  obtain ⟨T, hT, _, _⟩ := take_all hst hus
  have hws := word_some' hst1 hus hS
  obtain ⟨KU, hKU⟩ : ∃ t, userK u = t := ⟨_, rfl⟩
  simp only [hKU] at CU CG CG2
  have HR1 := HR.out
  unfold ruR ruT at HR1
  rw [htb, htb2] at HR1
  cases tb with
  | false =>
    rw [if_pos rfl] at HR1
    have HFH : Hid (∀ W, Below w.heap.size w W → ∃ a3 n3 c3, Ending.returned (Value.tuple #[.slice (some ⟨b, o, none⟩) n c, .int .i64 15]) = Ending.returned (.tuple #[.slice a3 n3 c3, .int .i64 q]) ∧ R.length = n3 ∧ Src W a3 (cellsP R) ∧ Below w.heap.size w W) := fun W hW => HBAD.out W 15 hW HR1
    clear hN hL h h2 hg HR HR1 HBAD hst hst1 hsu hus htv htb hKU hgl htv2 htb2 CG2 hS hT hws
    go_enter Tryz.func46, Tryz.ntmps46
    go_wp2_with fail
    refine (CU _).mono ?_
    rintro e w1 ⟨rfl, hw1⟩
    obtain rfl := hw1
    clear CU
    go_wp2_with fail
    refine (CG _ (Below.refl _ _)).mono ?_
    rintro e w2 ⟨rfl, hw2⟩
    obtain rfl := hw2
    have HG := HFH.out w2 (Below.refl _ _)
    have HGH : Hid (∃ a3 n3 c3, Ending.returned (Value.tuple #[.slice (some ⟨b, o, none⟩) n c, .int .i64 15]) = Ending.returned (.tuple #[.slice a3 n3 c3, .int .i64 q]) ∧ R.length = n3 ∧ Src w2 a3 (cellsP R) ∧ Below w2.heap.size w2 w2) := HG
    clear CG HFH HG
    go_wp2_with fail
    exact bodyPost_ret (v := .tuple #[.slice (some ⟨b, o, none⟩) n c, .int .i64 15]) (by simp [results, Tryz.results46, go_sem]) rfl HGH.out
  | true =>
  rw [if_neg (by decide)] at HR1
  have hw : S.word.toList ≠ [] := by
    rw [htb] at hws
    exact of_decide_eq_true hws.symm
  cases tb2 with
  | false =>
    rw [if_pos rfl] at HR1
    have HFH : Hid (∀ W, Below w.heap.size w W → ∃ a3 n3 c3, Ending.returned (Value.tuple #[.slice (some ⟨b, o, none⟩) n c, .int .i64 5]) = Ending.returned (.tuple #[.slice a3 n3 c3, .int .i64 q]) ∧ R.length = n3 ∧ Src W a3 (cellsP R) ∧ Below w.heap.size w W) := fun W hW => HBAD.out W 5 hW HR1
    clear hN hL h h2 hg HR HR1 HBAD hst hst1 hsu hus htv htb hKU hgl htv2 htb2 hS hT hws hw
    go_enter Tryz.func46, Tryz.ntmps46
    go_wp2_with fail
    refine (CU _).mono ?_
    rintro e w1 ⟨rfl, hw1⟩
    obtain rfl := hw1
    go_wp2_with fail
    refine (CG _ (Below.refl _ _)).mono ?_
    rintro e w2 ⟨rfl, hw2⟩
    obtain rfl := hw2
    clear CG
    go_wp2_with fail
    refine (CU _).mono ?_
    rintro e w3 ⟨rfl, hw3⟩
    obtain rfl := hw3
    clear CU
    go_wp2_with fail
    refine (CG2 _ (Below.refl _ _)).mono ?_
    rintro e w4 ⟨rfl, hw4⟩
    obtain rfl := hw4
    have HGH : Hid (∃ a3 n3 c3, Ending.returned (Value.tuple #[.slice (some ⟨b, o, none⟩) n c, .int .i64 5]) = Ending.returned (.tuple #[.slice a3 n3 c3, .int .i64 q]) ∧ R.length = n3 ∧ Src w4 a3 (cellsP R) ∧ Below w4.heap.size w4 w4) := HFH.out w4 (Below.refl _ _)
    clear CG2 HFH
    go_wp2_with fail
    exact bodyPost_ret (v := .tuple #[.slice (some ⟨b, o, none⟩) n c, .int .i64 5]) (by simp [results, Tryz.results46, go_sem]) rfl HGH.out
  | true =>
  rw [if_neg (by decide)] at HR1
  have CLS := fun W (hW : Below w.heap.size w W) => l07ListS (some ⟨b, o, none⟩) n c N u W hN hg (by omega) (h.below hW)
  have CLT := fun W (hW : Below w.heap.size w W) => l07ListS b2 n2 c2 L u W hL hgl (by omega) (h2.below hW)
  obtain ⟨ns, hns⟩ : ∃ t, listS N u = t := ⟨_, rfl⟩
  obtain ⟨m, hm⟩ : ∃ t, ns.length = t := ⟨_, rfl⟩
  obtain ⟨m2, hm2⟩ : ∃ t, (gsO L u).length = t := ⟨_, rfl⟩
  have hgn := gs_names hst hus
  have hgl1 : (listS L u).length = m2 := by rw [← (gs_len hst hus).1]; exact hm2
  have hm6 : m ≤ 60 := by rw [← hm, ← hns]; exact (gs_len hst1 hus).2
  have hm26 : m2 ≤ 60 := by rw [← hgl1]; exact (gs_len hst hus).2
  simp only [hns, hm] at CLS
  simp only [hgl1] at CLT
  rw [hns] at HR1
  have hnok : ∀ x ∈ ns, shortB x = true ∧ (lookF x S.fs).isSome = true := fun x hx => by
    rw [← hns] at hx
    obtain ⟨g, hg9, _⟩ := name_look hst1 hus hS hx
    exact ⟨name_is hst1 hus hS hx, by rw [hg9]; rfl⟩
  have hnd : ns.Nodup := by rw [← hns]; exact list_nodup hst1
  have HLJ : Hid (∀ j, Lies (emL u L N (ns.take j)) (nextM N) u ⟨S.aside, S.word, emE T.fs S.fs (ns.take j)⟩ ∧ GoodL (emL u L N (ns.take j))) := fun j => by
    have hl := lies_em (ns := ns.take j) (T := T.fs) (L := L) hus (fun n hn => (look_iff hst hus hT hn).1) (lies_of hst1 hus hS hw) (hnd.sublist (List.take_sublist j ns)) fun n hn => ⟨word_slash (hnok n (List.take_subset j ns hn)).1, (hnok n (List.take_subset j ns hn)).2⟩
    exact ⟨hl, em_good hg hl.up⟩
  have HNS : Hid (ns.length = m ∧ ∀ x ∈ ns, x.size ≤ 8) := ⟨hm, fun x hx => short_size' (hnok x hx).1⟩
  have HUS : Hid ((47 : UInt8) ∉ u.data.toList ∧ shortB u = true ∧ storeB L = true ∧ L.length = n2 ∧ GoodL L) := ⟨hus, hsu, hst, hL, hgl⟩
  have HS2 : Hid (Src w b2 (cellsP L)) := h2
  have HGS : Hid ((gsO L u).map (·.name) = listS L u ∧ (gsO L u).length = m2 ∧ ∀ g ∈ gsO L u, GoodG u g ∧ oldF L u g.name = some g ∧ shortB g.name = true ∧ ∀ x ∈ g.mails.map (mailP u g.name), x ∈ L) := ⟨hgn, hm2, fun g hg9 => by
    obtain ⟨k1, k2⟩ := gs_look hst hus hT g hg9
    exact ⟨gs_good hst hus hT g hg9, by rw [old_look hT]; exact k1, name_is hst hus hT k2, fun x hx => (store_sub hst hT g (lookF_mem k1).1).subset hx⟩⟩
  have HRU : Hid (rsU N u (emL u L N ns) (gsO L u) = (R, q)) := HR1
  have HNX : Hid (0 ≤ nextM N ∧ nextM N ≤ 10000) := ⟨by omega, n2'⟩
  have HN0 : Hid (emL u L N (ns.take 0) = N) := by
    show _ = _
    rw [List.take_zero]
    rfl
  obtain ⟨LU, hLU⟩ : ∃ t, listS L u = t := ⟨_, rfl⟩
  obtain ⟨GS, hGS⟩ : ∃ t, gsO L u = t := ⟨_, rfl⟩
  simp only [hLU] at CLT
  rw [hLU, hGS] at HGS
  rw [hGS] at HRU
  clear hN hL h h2 hg HR HR1 hst hst1 hsu hus htv htb hKU hgl htv2 htb2 hS hT hws hw hns hm hm2 hgn hgl1 hnok hnd hnm n1 n2' hLU hGS
  go_enter Tryz.func46, Tryz.ntmps46
  go_wp2_with fail
  refine (CU _).mono ?_
  rintro e w1 ⟨rfl, hw1⟩
  obtain rfl := hw1
  go_wp2_with fail
  refine (CG _ (Below.refl _ _)).mono ?_
  rintro e w2 ⟨rfl, hw2⟩
  obtain rfl := hw2
  clear CG
  go_wp2_with fail
  refine (CU _).mono ?_
  rintro e w3 ⟨rfl, hw3⟩
  obtain rfl := hw3
  clear CU
  go_wp2_with fail
  refine (CG2 _ (Below.refl _ _)).mono ?_
  rintro e w4 ⟨rfl, hw4⟩
  obtain rfl := hw4
  clear CG2
  have CLS4 := CLS w4 (Below.refl _ _)
  clear CLS
  go_wp2_with fail
  refine CLS4.mono ?_
  rintro e w5 ⟨v5, rfl, ho5, hb5⟩
  obtain ⟨ab, cb, rfl, hs5, _⟩ := own_src ho5
  have B5 : Hid (Below w4.heap.size w4 w5) := hb5
  have S5 : Hid (Src w5 ab (cellsS ns)) := hs5
  have SN5 : Hid ((emL u L N (ns.take 0)).length = n ∧ Src w5 (some ⟨b, o, none⟩) (cellsP (emL u L N (ns.take 0)))) := by
    show _ ∧ _
    rw [HN0.out]
    exact ⟨HLN.out.1, HLN.out.2.below hb5⟩
  clear CLS4 ho5 hs5 hb5 HN0
  go_wp2_with fail
  go_loopw [12, 14] (fun lv iv wr => ∃ (j n' b' o' c' : Nat), j ≤ m ∧ lv = .slice (some ⟨b', o', none⟩) n' c' ∧ n' ≤ c' ∧ c' ≤ maxLen ∧ iv = .int .i64 (j : Int) ∧ Hid ((emL u L N (ns.take j)).length = n' ∧ Src wr (some ⟨b', o', none⟩) (cellsP (emL u L N (ns.take j)))) ∧ Hid (Below w5.heap.size w5 wr)) (fun _ i _ => m - (RowKit.intOf i).toNat)
  case atStart => exact ⟨0, n, b, o, c, by omega, rfl, hc, hc9, rfl, SN5.out, Below.refl _ _⟩
  case round =>
    obtain ⟨j, n', b', o', c', hj, rfl, hnc, hcm, rfl, hsn, hbr⟩ := hrel
    by_cases hlt : j < m
    · have hltj : (j : Int) < (m : Int) := by omega
      have hjn : j < ns.length := by rw [HNS.out.1]; exact hlt
      obtain ⟨bb, oo, t, rfl, c1, hy⟩ := srcS (S5.out.below hbr.out) hjn
      have htm : t ∈ ns := by rw [← hy.out]; exact mem_getD ns e0 j hjn
      have htz := HNS.out.2 t htm
      obtain ⟨hlj, hgj⟩ := HLJ.out j
      obtain ⟨EJ, hEJ⟩ : ∃ x, emL u L N (ns.take j) = x := ⟨_, rfl⟩
      have hstep := emL_take (u := u) (L := L) (N := N) hjn hy.out
      rw [hEJ] at hlj hgj hsn hstep
      have hn6 : n' ≤ 60 := by rw [← hsn.out.1]; exact hgj.1
      have hv := lies_v hlj
      have CE := l07EmptyX b' o' n' c' hnc hcm EJ hsn.out.1 hgj u t (by omega) (by omega) wr hsn.out.2 ⟨_, hv, pass_not (pass_v u t _)⟩
      have CM := fun W (hW : Below wr.heap.size wr W) => l07MetaS b2 n2 c2 L u t W HUS.out.2.2.2.1 HUS.out.2.2.2.2 (by omega) (by omega) (HS2.out.below (B5.out.trans ((hbr.out.trans (hW.mono hbr.out.size)).mono B5.out.size)))
      obtain ⟨tm, htm2⟩ : ∃ x, (metaM L u t).isSome = x := ⟨_, rfl⟩
      rw [htm2] at hstep
      simp only [htm2] at CM
      obtain ⟨ER, hER⟩ : ∃ x, emptyR EJ u t = x := ⟨_, rfl⟩
      have hvE : (vK, bs (itoa (nextM N))) ∈ ER := by
        rw [← hER]
        exact List.mem_filter.2 ⟨hv, by rw [pass_not (pass_v u t _)]; rfl⟩
      have hvD : 1 ≤ (notK (folderK u t) ER).length := List.length_pos_of_mem (a := (vK, bs (itoa (nextM N)))) (List.mem_filter.2 ⟨hvE, decide_eq_true (folder_not u t).symm⟩)
      have heL : ER.length ≤ 60 := by rw [← hER]; exact Nat.le_trans (List.length_filter_le _ _) hgj.1
      have HST : Hid (emL u L N (ns.take (j + 1)) = if tm = true then ER else notK (folderK u t) ER) := by
        show _ = _
        rw [hstep]
        unfold stepL
        rw [hER]
      simp only [hER] at CE
      have CF := fun W => l07FolderS u t W (by omega) (by omega)
      obtain ⟨KF, hKF⟩ : ∃ x, folderK u t = x := ⟨_, rfl⟩
      rw [hKF] at HST hvD
      simp only [hKF] at CF
      have HVD : Hid (1 ≤ (notK KF ER).length ∧ ER.length ≤ 60) := ⟨hvD, heL⟩
      clear htm hlj hgj hEJ hstep hsn hv htm2 hER hvE hvD heL hKF
      go_wp2_with fail
      refine CE.mono ?_
      rintro e w6 ⟨b6, o6, n6, c6, rfl, j1, j2, j0, j3, hb6⟩
      have B6 : Hid (Below w5.heap.size w5 w6) := hbr.out.trans (hb6.mono hbr.out.size)
      obtain ⟨b7, o7, t7, e7, c7, hy7⟩ := srcS (S5.out.below B6.out) hjn
      obtain rfl : t = t7 := by rw [← hy.out, ← hy7.out]
      cases e7
      have HS6 : Hid (ER.length = n6 ∧ Src w6 (some ⟨b6, o6, none⟩) (cellsP ER)) := ⟨j0, j3⟩
      have CM6 := CM w6 hb6
      have BR6 : Hid (Below wr.heap.size wr w6) := hb6
      clear CE CM j0 j3 hb6
      go_wp2_with fail
      refine CM6.mono ?_
      rintro e w7 ⟨x7, y7, rfl, _, hb7⟩
      have B7 : Hid (Below w5.heap.size w5 w7) := B6.out.trans (hb7.mono B6.out.size)
      have HS7 : Hid (ER.length = n6 ∧ Src w7 (some ⟨b6, o6, none⟩) (cellsP ER)) := ⟨HS6.out.1, HS6.out.2.below hb7⟩
      clear CM6 hb7 HS6 BR6
      cases tm with
      | true =>
        have HS8 : Hid ((emL u L N (ns.take (j + 1))).length = n6 ∧ Src w7 (some ⟨b6, o6, none⟩) (cellsP (emL u L N (ns.take (j + 1))))) := by
          show _ ∧ _
          rw [HST.out, if_pos rfl]
          exact HS7.out
        clear HST HS7
        go_wp2_with fail
        exact ⟨⟨j + 1, n6, b6, o6, c6, by omega, rfl, j1, j2, by go_num, HS8.out, B7.out⟩, by simp [RowKit.intOf]; omega⟩
      | false =>
        obtain ⟨b8, o8, t8, e8, c8, hy8⟩ := srcS (S5.out.below B7.out) hjn
        obtain rfl : t = t8 := by rw [← hy.out, ← hy8.out]
        cases e8
        obtain ⟨mm, hmm⟩ : ∃ x, (notK KF ER).length = x := ⟨_, rfl⟩
        have hm1 : 1 ≤ mm := by rw [← hmm]; exact HVD.out.1
        have CD := l01DropO (some ⟨b6, o6, none⟩) n6 c6 ER KF w7 HS7.out.1 (by have := HVD.out.2; rw [HS7.out.1] at this; omega) HS7.out.2 mm hmm hm1
        have HMM : Hid ((notK KF ER).length = mm) := hmm
        clear hmm
        go_wp2_with fail
        refine (CF _).mono ?_
        rintro e w8 ⟨rfl, hw8⟩
        obtain rfl := hw8
        clear CF
        go_wp2_with fail
        refine CD.mono ?_
        rintro e w9 ⟨g9, cap9, rfl, k1, k2, k3, hb9⟩
        have B9 : Hid (Below w5.heap.size w5 w9) := B7.out.trans (hb9.mono B7.out.size)
        have HS9 : Hid ((emL u L N (ns.take (j + 1))).length = mm ∧ Src w9 (some ⟨g9, 0, none⟩) (cellsP (emL u L N (ns.take (j + 1))))) := by
          show _ ∧ _
          rw [HST.out, if_neg (by decide)]
          exact ⟨HMM.out, k3⟩
        clear CD k3 hb9 HST HS7
        go_wp2_with fail
        exact ⟨⟨j + 1, mm, g9, 0, cap9, by omega, rfl, k1, k2, by go_num, HS9.out, B9.out⟩, by simp [RowKit.intOf]; omega⟩
    · obtain rfl : j = m := by omega
      have hltj : ¬ (j : Int) < (j : Int) := by omega
      have htk : ns.take j = ns := List.take_of_length_le (by rw [HNS.out.1]; exact Nat.le_refl _)
      obtain ⟨hlj, hgj⟩ := HLJ.out j
      rw [htk] at hsn hlj hgj
      have BR : Hid (Below w4.heap.size w4 wr) := B5.out.trans (hbr.out.mono B5.out.size)
      have HI0 : Hid (∃ nx S9, Lies (emL u L N ns) nx u S9 ∧ 0 ≤ nx ∧ nx ≤ 10000 ∧ GoodL (emL u L N ns)) := ⟨nextM N, _, hlj, HNX.out.1, HNX.out.2, hgj⟩
      have CL9 := CLT wr BR.out
      clear htk hlj hgj CLT HLJ hbr
      go_wp2_with fail
      refine CL9.mono ?_
      rintro e w6 ⟨v6, rfl, ho6, hb6⟩
      obtain ⟨ad, cd, rfl, hs6, _⟩ := own_src ho6
      have B6 : Hid (Below w4.heap.size w4 w6) := BR.out.trans (hb6.mono BR.out.size)
      have S6 : Hid (Src w6 ad (cellsS LU)) := hs6
      have SN6 : Hid ((emL u L N ns).length = n' ∧ Src w6 (some ⟨b', o', none⟩) (cellsP (emL u L N ns))) := ⟨hsn.out.1, hsn.out.2.below hb6⟩
      clear CL9 ho6 hs6 hb6 hsn BR B5 S5 SN5
      go_wp2_with fail
      go_loopw [12, 19] (fun lv iv wr => ∃ (k n9 b9 o9 c9 : Nat) (NK : List PM), k ≤ m2 ∧ lv = .slice (some ⟨b9, o9, none⟩) n9 c9 ∧ n9 ≤ c9 ∧ c9 ≤ maxLen ∧ iv = .int .i64 (k : Int) ∧ Hid (NK.length = n9 ∧ Src wr (some ⟨b9, o9, none⟩) (cellsP NK)) ∧ Hid (∃ nx S9, Lies NK nx u S9 ∧ 0 ≤ nx ∧ nx ≤ 10000 ∧ GoodL NK) ∧ Hid (rsU N u NK (GS.drop k) = (R, q)) ∧ Hid (Below w6.heap.size w6 wr)) (fun _ i _ => m2 - (RowKit.intOf i).toNat)
      case atStart => exact ⟨0, n', b', o', c', _, by omega, rfl, hnc, hcm, rfl, SN6.out, HI0.out, HRU.out, Below.refl _ _⟩
      case round =>
        obtain ⟨k, n9, b9, o9, c9, NK, hk, rfl, hnc9, hcm9, rfl, hsn, hli, hru, hbr⟩ := hrel
        by_cases hlt : k < m2
        · have hltk : (k : Int) < (m2 : Int) := by omega
          have hkg : k < GS.length := by rw [HGS.out.2.1]; exact hlt
          have hkn : k < LU.length := by rw [← HGS.out.1, List.length_map]; exact hkg
          obtain ⟨bb, oo, t, rfl, c1, hy⟩ := srcS (S6.out.below hbr.out) hkn
          obtain ⟨g, hge⟩ : ∃ g, GS[k] = g := ⟨_, rfl⟩
          have hgm : g ∈ GS := by rw [← hge]; exact List.getElem_mem hkg
          have hgt : g.name = t := by
            have h9 := hy.out
            rw [← HGS.out.1, List.getD_eq_getElem?_getD, List.getElem?_eq_getElem (by rw [List.length_map]; exact hkg), List.getElem_map, hge] at h9
            exact h9
          obtain ⟨hgg, hgo, hgs, hsub⟩ := HGS.out.2.2 g hgm
          have hdr : GS.drop k = g :: GS.drop (k + 1) := by rw [List.drop_eq_getElem_cons hkg, hge]
          obtain ⟨nx, S9, l1, l2, l3, l4⟩ := hli.out
          obtain ⟨R1, q1, hR1⟩ : ∃ R1 q1, rsG NK u g.name g = (R1, q1) := ⟨_, _, rfl⟩
          have hrr : rsR NK L u g.name = (R1, q1) := by rw [rsR_is l1 hgo]; exact hR1
          rw [hgt] at hrr
          have hsl : (47 : UInt8) ∉ t.data.toList := by rw [← hgt]; exact hgg.2.1
          have hst9 : shortB t = true := by rw [← hgt]; exact hgs
          have CR := l08RestoreS b9 o9 n9 c9 NK hsn.out.1 hnc9 hcm9 l4 b2 n2 c2 L HUS.out.2.2.2.1 HUS.out.2.2.1 u t HUS.out.2.1 hst9 (by rw [lies_next l1 l2 l3]; exact l2) ⟨_, lies_v l1, pass_not (pass_v u t _)⟩ (by rw [lies_next l1 l2 l3, empty_next l1 l2 l3 HUS.out.1 hsl]) wr hsn.out.2 (HS2.out.below (B6.out.trans (hbr.out.mono B6.out.size))) R1 q1 hrr
          have HNX9 : Hid (q1 = 0 → ∃ nx S9, Lies R1 nx u S9 ∧ 0 ≤ nx ∧ nx ≤ 10000 ∧ GoodL R1) := fun e => by
            subst e
            exact rs_next l1 l2 l3 l4 HUS.out.2.2.2.2 HUS.out.1 zu (short_size' hgs) hgg hsub hR1
          have HRS : Hid (rsG NK u g.name g = (R1, q1) ∧ rsU N u NK (g :: GS.drop (k + 1)) = (R, q)) := ⟨hR1, by rw [← hdr]; exact hru.out⟩
          clear hgm hgt hgg hgo hgs hsub hdr l1 l2 l3 l4 hR1 hrr hsl hst9 hge hsn hli hru
          go_wp2_with fail
          refine CR.mono ?_
          rintro e w7 ⟨a7, n7, c7, rfl, k1, k2, hb7, k3⟩
          have B7 : Hid (Below w6.heap.size w6 w7) := hbr.out.trans (hb7.mono hbr.out.size)
          have HS7 : Hid (R1.length = n7 ∧ Src w7 a7 (cellsP R1)) := ⟨k1, k2⟩
          clear CR k1 k2 hb7
          by_cases hq1 : q1 = 0
          · subst hq1
            obtain ⟨⟨g7, rfl⟩, k4, k5⟩ := k3 rfl
            have HRU7 : Hid (rsU N u R1 (GS.drop (k + 1)) = (R, q)) := by
              have h9 := HRS.out.2
              rw [rsU_ok HRS.out.1] at h9
              exact h9
            have HLI7 : Hid (∃ nx S9, Lies R1 nx u S9 ∧ 0 ≤ nx ∧ nx ≤ 10000 ∧ GoodL R1) := HNX9.out rfl
            clear k3 HRS HNX9
            go_wp2_with fail
            exact ⟨⟨k + 1, n7, g7, 0, c7, R1, by omega, rfl, k4, k5, by go_num, HS7.out, HLI7.out, HRU7.out, B7.out⟩, by simp [RowKit.intOf]; omega⟩
          · have hq1i : (q1 != 0) = true := by simpa using hq1
            have h9 := HRS.out.2
            rw [rsU_bad (by rw [HRS.out.1]) hq1] at h9
            have HGH : Hid (∃ a3 n3 c3, Ending.returned (Value.tuple #[.slice (some ⟨b, o, none⟩) n c, .int .i64 q1]) = Ending.returned (.tuple #[.slice a3 n3 c3, .int .i64 q]) ∧ R.length = n3 ∧ Src w7 a3 (cellsP R) ∧ Below w4.heap.size w4 w7) := HBAD.out w7 q1 (B6.out.trans (B7.out.mono B6.out.size)) h9
            clear k3 HRS HNX9 h9 HBAD
            go_wp2_with fail
            exact bodyPost_ret (v := .tuple #[.slice (some ⟨b, o, none⟩) n c, .int .i64 q1]) (by simp [results, Tryz.results46, go_sem]) rfl HGH.out
        · obtain rfl : k = m2 := by omega
          have hltk : ¬ (k : Int) < (k : Int) := by omega
          have h9 := hru.out
          rw [List.drop_of_length_le (by rw [HGS.out.2.1]; exact Nat.le_refl _)] at h9
          have HGH : Hid (∃ a3 n3 c3, Ending.returned (Value.tuple #[.slice (some ⟨b9, o9, none⟩) n9 c9, .int .i64 0]) = Ending.returned (.tuple #[.slice a3 n3 c3, .int .i64 q]) ∧ R.length = n3 ∧ Src wr a3 (cellsP R) ∧ Below w4.heap.size w4 wr) := by
            unfold rsU at h9
            cases h9
            exact ⟨_, _, _, rfl, hsn.out.1, hsn.out.2, B6.out.trans (hbr.out.mono B6.out.size)⟩
          clear hru hli hsn h9 HBAD hbr
          go_wp2_with fail
          exact bodyPost_ret (v := .tuple #[.slice (some ⟨b9, o9, none⟩) n9 c9, .int .i64 0]) (by simp [results, Tryz.results46, go_sem]) rfl (by
            obtain ⟨a3, n3, c3, h1, h2⟩ := HGH.out
            exact ⟨a3, n3, ⟨c3, h1⟩, h2⟩)
end Go.Proofs.YtbpgncgmolpkiaaGreatDoor
namespace Go.Proofs.YtbpgncgmolpkiaaGreatDoor
open Go.ChangeShapes Go.WideShapes Go.ChangeAt Go.RowKit Go.Deep Go.Lib
set_option linter.unusedVariables false
set_option linter.unusedSimpArgs false
set_option maxRecDepth 100000

theorem rask_two {N L : List PM} {Ns : List ByteArray} (h : askM N Ns = 2) : raskM N L Ns = 2 := by
  unfold raskM
  split
  · rfl
  · rw [h, if_pos (by decide)]
theorem rask_ask {N L : List PM} {Ns : List ByteArray} {k : Int} (hl : ¬ 4096 < L.length) (h : askM N Ns = k) : raskM N L Ns = if k ≠ 0 then k else if storeB L = false then 1 else 0 := by
  unfold raskM
  rw [if_neg hl, h]
theorem ask_zero1 {L : List PM} {x : ByteArray} (h : askM L [x] = 0) : storeB L = true ∧ shortB x = true := by
  unfold askM at h
  split at h
  · cases h
  · split at h
    · cases h
    · rename_i h1
      split at h
      · cases h
      · rename_i h2
        refine ⟨by simpa using h1, ?_⟩
        simpa using h2
/-- What restoring a user asks of two desks. -/
structure RuH (N L : List PM) (nx : Int) (x : ByteArray) (S T : SM) : Prop where
  ls : S.fs.length ≤ 60
  lt : T.fs.length ≤ 60
  ns : ∀ R : List ByteArray, R.Perm (S.fs.map (·.name)) → ((R.map (·.data.toList)).mergeSort fun x y => decide (x ≤ y)) = (listS N x).map (·.data.toList)
  nd : (listS N x).Nodup
  nf : ∀ y ∈ listS N x, y.size ≤ 1000 ∧ (lookF y S.fs).isSome = true
  gs : ∀ R : List ByteArray, R.Perm (T.fs.map (·.name)) → ((R.map (·.data.toList)).mergeSort fun x y => decide (x ≤ y)) = ((gsO L x).map (·.name)).map (·.data.toList)
  gd : ((gsO L x).map (·.name)).Nodup
  gf : ∀ g ∈ gsO L x, GoodG x g ∧ lookF g.name T.fs = some g
  nm : (listS N x).length ≤ 60
  gm : (gsO L x).length ≤ 60
  li : S.word.toList ≠ [] → Lies (emL x L N (listS N x)) nx x ⟨S.aside, S.word, emE T.fs S.fs (listS N x)⟩
  le : (emL x L N (listS N x)).length ≤ 60
  fe : ∀ f ∈ emE T.fs S.fs (listS N x), FitF f
  op : ∀ S' q nx', ruM nx x S T (listS N x) (gsO L x) = (q, nx', S') → OpFits N x q nx' S' (ruR N L x)
theorem sort_is {L : List PM} {u : ByteArray} {S : SM} (h : storeB L = true) (hus : (47 : UInt8) ∉ u.data.toList) (hS : takeAll (nextM L) u S0 L = some S) : ∀ R : List ByteArray, R.Perm (S.fs.map (·.name)) → ((R.map (·.data.toList)).mergeSort fun x y => decide (x ≤ y)) = (listS L u).map (·.data.toList) := fun R hR => by
  obtain ⟨S', k1, _, hI⟩ := take_all h hus
  rw [hS] at k1
  cases k1
  exact sort_eq h hus hI (names_all (S := S0) List.nodup_nil hS) hR
theorem ru_facts {N L : List PM} {x : ByteArray} {S T : SM} (h : storeB N = true) (h2 : storeB L = true) (hus : (47 : UInt8) ∉ x.data.toList) (hS : takeAll (nextM N) x S0 N = some S) (hT : takeAll (nextM L) x S0 L = some T) : RuH N L (nextM N) x S T where
  ls := fs_len h hus hS
  lt := fs_len h2 hus hT
  ns := sort_is h hus hS
  nd := list_nodup h
  nf := fun y hy => by
    obtain ⟨g, hg, _⟩ := name_look h hus hS hy
    have h9 := short_size' (name_is h hus hS hy)
    exact ⟨by omega, by rw [hg]; rfl⟩
  gs := by
    rw [gs_names h2 hus]
    exact sort_is h2 hus hT
  gd := by
    rw [gs_names h2 hus]
    exact list_nodup h2
  gf := fun g hg => ⟨gs_good h2 hus hT g hg, (gs_look h2 hus hT g hg).1⟩
  nm := (gs_len h hus).2
  gm := by rw [(gs_len h2 hus).1]; exact (gs_len h2 hus).2
  li := em_lies h h2 hus hS hT
  le := Nat.le_trans (em_len x L (listS N x) N).1 (store_facts h).1.1
  fe := emE_all (P := FitF) (fun f hf => ⟨hf.1, hf.2.1, hf.2.2.1, hf.2.2.2.1, hf.2.2.2.2.1, fun m hm => by cases hm⟩) (store_fit h hS)
  op := fun S' q nx' hQ => ruo_fits h h2 hus hS hT hQ
set_option maxHeartbeats 4000000 in
theorem specRestoreUser (a : Option Addr) (n c : Nat) (N : List PM) (a2 : Option Addr) (n2 c2 : Nat) (L : List PM) (x : ByteArray) (w : World) (hN : N.length = n) (hn : n ≤ 1048576) (hc : n ≤ c) (hc9 : c ≤ maxLen) (hs : ∀ x ∈ N, x.1.size ≤ 1048576 ∧ x.2.size ≤ 1048576) (h : Src w a (cellsP N)) (hL : L.length = n2) (hn2 : n2 ≤ 1048576) (hs2 : ∀ x ∈ L, x.1.size ≤ 1048576 ∧ x.2.size ≤ 1048576) (h2 : Src w a2 (cellsP L)) (hx : x.size ≤ 1048576) (R : List PM) (Q : Int) (HQ : Hid (lawM2 (ruR N L x) (raskM N L [x]) = (R, Q))) :
    Calls Tryz.prog 21 #[.slice a n c, .slice a2 n2 c2, .string x] w fun e w' => ∃ v, e = .returned (.tuple #[v, .int .i64 Q]) ∧ w'.ownsRow w.heap.size 47 2 v R.length (cellsP R) ∧ Below w.heap.size w w' := by
  have HLN : Hid (N.length = n) := hN
  have HS : Hid (Src w a (cellsP N)) := h
  have HLL : Hid (L.length = n2) := hL
  have HS2 : Hid (Src w a2 (cellsP L)) := h2
  have AL : Hid (Below w.heap.size w (w.alloc (.cells #[.string x] 9))) := (Below.refl _ _).alloc (Nat.le_refl _) _
  obtain ⟨q, hq⟩ : ∃ q, raskM N L [x] = q := ⟨_, rfl⟩
  have HQQ : Hid (raskM N L [x] = q) := hq
  obtain ⟨k, hk⟩ : ∃ k, askM N [x] = k := ⟨_, rfl⟩
  have HKK : Hid (askM N [x] = k) := hk
  have HQ1 : Hid (lawM2 (ruR N L x) q = (R, Q)) := by show _ = _; rw [← hq]; exact HQ.out
  have CA := l07AskS a n c N (some ⟨w.heap.size, 0, none⟩) 1 1 [x] (w.alloc (.cells #[.string x] 9)) hN hn hs (HS.out.below AL.out) rfl (by omega) (fun s hs => by rw [List.mem_singleton.1 hs]; exact hx) (src_1S rfl) k hk
  obtain ⟨sb, hsb⟩ : ∃ t, storeB L = t := ⟨_, rfl⟩
  have HSB : Hid (storeB L = sb) := hsb
  have CM := fun W (hW : Below w.heap.size w W) => specMailStoreOK a2 n2 c2 L W hL hn2 hs2 (h2.below hW) sb hsb
  have EM : Hid ((w.alloc (.cells #[] 47)).ownsRow w.heap.size 47 2 (.slice (some ⟨w.heap.size, 0, none⟩) 0 0) ([] : List PM).length (cellsP []) ∧ Below w.heap.size w (w.alloc (.cells #[] 47))) := ⟨own_empty rfl (Nat.le_refl _), (Below.refl _ _).alloc (Nat.le_refl _) _⟩
  have HBAD : Hid (q ≠ 0 → [] = R ∧ q = Q) := fun h9 => by
    have h7 := HQ1.out
    unfold lawM2 at h7
    rw [if_neg h9] at h7
    cases h7
    exact ⟨rfl, rfl⟩
  have HTWO : Hid (askM N [x] = 2 → [] = R ∧ 2 = Q) := fun h9 => by
    have h7 := rask_two (L := L) h9
    rw [HQQ.out] at h7
    have h6 := HBAD.out (by rw [h7]; decide)
    rw [h7] at h6
    exact h6
  clear hN h hs hL h2 hs2 hq HQ hk hsb
  by_cases h1 : 4096 < n
  · have h1i : (4096 : Int) < (n : Int) := by omega
    obtain ⟨rfl, rfl⟩ := HTWO.out (by unfold askM; rw [if_pos (.inl (by rw [HLN.out]; exact h1))])
    go_enter Tryz.func21, Tryz.ntmps21
    go_wp2_with fail
    exact bodyPost_ret (v := .tuple #[.slice (some ⟨w.heap.size, 0, none⟩) 0 0, .int .i64 2]) (by simp [results, Tryz.results21, go_sem]) rfl ⟨_, rfl, EM.out⟩
  have h1i : ¬ (4096 : Int) < (n : Int) := by omega
  by_cases h2 : 65536 < x.size
  · have h2i : (65536 : Int) < (x.size : Int) := by omega
    obtain ⟨rfl, rfl⟩ := HTWO.out (by
      unfold askM
      rw [if_pos (.inr (by show (smallT x && _) = false; rw [show smallT x = false from decide_eq_false (by omega)]; rfl))])
    go_enter Tryz.func21, Tryz.ntmps21
    go_wp2_with fail
    exact bodyPost_ret (v := .tuple #[.slice (some ⟨w.heap.size, 0, none⟩) 0 0, .int .i64 2]) (by simp [results, Tryz.results21, go_sem]) rfl ⟨_, rfl, EM.out⟩
  have h2i : ¬ (65536 : Int) < (x.size : Int) := by omega
  by_cases h4 : 4096 < n2
  · have h4i : (4096 : Int) < (n2 : Int) := by omega
    have h9 : raskM N L [x] = 2 := by unfold raskM; rw [if_pos (by rw [HLL.out]; exact h4)]
    rw [HQQ.out] at h9
    subst h9
    obtain ⟨rfl, rfl⟩ := HBAD.out (by decide)
    go_enter Tryz.func21, Tryz.ntmps21
    go_wp2_with fail
    exact bodyPost_ret (v := .tuple #[.slice (some ⟨w.heap.size, 0, none⟩) 0 0, .int .i64 2]) (by simp [results, Tryz.results21, go_sem]) rfl ⟨_, rfl, EM.out⟩
  have h4i : ¬ (4096 : Int) < (n2 : Int) := by omega
  have hqk : q = if k ≠ 0 then k else if storeB L = false then 1 else 0 := by rw [← HQQ.out]; exact rask_ask (by rw [HLL.out]; exact h4) HKK.out
  by_cases hk0 : k = 0
  case neg =>
    rw [if_pos hk0] at hqk
    subst hqk
    obtain ⟨rfl, rfl⟩ := HBAD.out hk0
    have hqi : (q != 0) = true := by simpa using hk0
    clear CM
    go_enter Tryz.func21, Tryz.ntmps21
    go_wp2_with fail
    refine CA.mono ?_
    rintro e w3 ⟨rfl, hb3⟩
    have B3 : Hid (Below w.heap.size w w3) := AL.out.trans (hb3.mono AL.out.size)
    have EM3 : Hid ((w3.alloc (.cells #[] 47)).ownsRow w.heap.size 47 2 (.slice (some ⟨w3.heap.size, 0, none⟩) 0 0) ([] : List PM).length (cellsP []) ∧ Below w.heap.size w (w3.alloc (.cells #[] 47))) := ⟨own_empty rfl B3.out.size, B3.out.alloc B3.out.size _⟩
    clear hb3 CA
    go_wp2_with fail
    exact bodyPost_ret (v := .tuple #[.slice (some ⟨w3.heap.size, 0, none⟩) 0 0, .int .i64 q]) (by simp [results, Tryz.results21, go_sem]) rfl ⟨_, rfl, EM3.out⟩
  subst hk0
  rw [if_neg (by simp), HSB.out] at hqk
  cases sb with
  | false =>
    rw [if_pos rfl] at hqk
    subst hqk
    obtain ⟨rfl, rfl⟩ := HBAD.out (by decide)
    go_enter Tryz.func21, Tryz.ntmps21
    go_wp2_with fail
    refine CA.mono ?_
    rintro e w3 ⟨rfl, hb3⟩
    have B3 : Hid (Below w.heap.size w w3) := AL.out.trans (hb3.mono AL.out.size)
    have CM3 := CM w3 B3.out
    clear hb3 CA CM
    go_wp2_with fail
    refine CM3.mono ?_
    rintro e w4 ⟨rfl, hb4⟩
    have B4 : Hid (Below w.heap.size w w4) := B3.out.trans (hb4.mono B3.out.size)
    have EM4 : Hid ((w4.alloc (.cells #[] 47)).ownsRow w.heap.size 47 2 (.slice (some ⟨w4.heap.size, 0, none⟩) 0 0) ([] : List PM).length (cellsP []) ∧ Below w.heap.size w (w4.alloc (.cells #[] 47))) := ⟨own_empty rfl B4.out.size, B4.out.alloc B4.out.size _⟩
    clear hb4 CM3
    go_wp2_with fail
    exact bodyPost_ret (v := .tuple #[.slice (some ⟨w4.heap.size, 0, none⟩) 0 0, .int .i64 1]) (by simp [results, Tryz.results21, go_sem]) rfl ⟨_, rfl, EM4.out⟩
  | true =>
  rw [if_neg (by decide)] at hqk
  subst hqk
  obtain ⟨hst, hsx⟩ := ask_zero1 HKK.out
  obtain ⟨hgl, nx0, hnm, n1, _⟩ := store_facts hst
  obtain ⟨b, o, rfl⟩ := store_src hst HS.out
  have HQ2 : Hid (ruR N L x = (R, Q)) := by have h9 := HQ1.out; unfold lawM2 at h9; rw [if_pos rfl] at h9; exact h9
  have CI := fun W (hW : Below w.heap.size w W) => l08RestoreUserS b o n c N HLN.out hc hc9 hst a2 n2 c2 L HLL.out HSB.out x hsx W (HS.out.below hW) (HS2.out.below hW) R Q HQ2.out
  have hln : R.length ≤ 4000 := by
    have h9 := ruR_len hst HSB.out (word_slash hsx)
    rw [HQ2.out] at h9
    exact h9
  clear hst hsx hgl HQ1 HBAD hnm n1 HTWO
  go_enter Tryz.func21, Tryz.ntmps21
  go_wp2_with fail
  refine CA.mono ?_
  rintro e w3 ⟨rfl, hb3⟩
  have B3 : Hid (Below w.heap.size w w3) := AL.out.trans (hb3.mono AL.out.size)
  have CM3 := CM w3 B3.out
  clear hb3 CA CM
  go_wp2_with fail
  refine CM3.mono ?_
  rintro e w4 ⟨rfl, hb4⟩
  have B4 : Hid (Below w.heap.size w w4) := B3.out.trans (hb4.mono B3.out.size)
  have CI4 := CI w4 B4.out
  clear hb4 CM3 CI
  go_wp2_with fail
  refine CI4.mono ?_
  rintro e w5 ⟨a5, n5, c5, rfl, k1, k2, hb5⟩
  have B5 : Hid (Below w.heap.size w w5) := B4.out.trans (hb5.mono B4.out.size)
  have CO := l07OwnS a5 n5 c5 R w5 k1 (by omega) k2
  have HN5 : Hid (R.length = n5) := k1
  clear hb5 CI4 k1 k2
  go_wp2_with fail
  refine CO.mono ?_
  rintro e w6 ⟨v6, rfl, ho6, hb6⟩
  obtain ⟨a6, c6, rfl, _, _⟩ := own_src ho6
  have HF : Hid (w6.ownsRow w.heap.size 47 2 (.slice a6 n5 c6) R.length (cellsP R) ∧ Below w.heap.size w w6) := ⟨by rw [HN5.out]; exact own_mono ho6 B5.out.size, B5.out.trans (hb6.mono B5.out.size)⟩
  clear ho6 hb6 CO
  go_wp2_with fail
  exact bodyPost_ret (v := .tuple #[.slice a6 n5 c6, .int .i64 Q]) (by simp [results, Tryz.results21, go_sem]) rfl ⟨_, rfl, HF.out⟩
set_option maxHeartbeats 4000000 in
theorem implRestoreUser (a : Option Addr) (n c : Nat) (N : List PM) (a2 : Option Addr) (n2 c2 : Nat) (L : List PM) (x : ByteArray) (w : World) (hN : N.length = n) (hn : n ≤ 1048576) (hs : ∀ x ∈ N, x.1.size ≤ 1048576 ∧ x.2.size ≤ 1048576) (h : Src w a (cellsP N)) (hL : L.length = n2) (hn2 : n2 ≤ 1048576) (hs2 : ∀ x ∈ L, x.1.size ≤ 1048576 ∧ x.2.size ≤ 1048576) (h2 : Src w a2 (cellsP L)) (hx : x.size ≤ 1048576) (hG : Gl w) (h8 : 8 ≤ w.heap.size) (R : List PM) (Q : Int) (HQ : Hid (lawM2 (ruR N L x) (raskM N L [x]) = (R, Q))) :
    Calls Tryz.prog 22 #[.slice a n c, .slice a2 n2 c2, .string x] w fun e w' => ∃ v, e = .returned (.tuple #[v, .int .i64 Q]) ∧ w'.ownsRow w.heap.size 47 2 v R.length (cellsP R) ∧ Below w.heap.size w w' := by
  have HLN : Hid (N.length = n) := hN
  have HS : Hid (Src w a (cellsP N)) := h
  have HLL : Hid (L.length = n2) := hL
  have HS2 : Hid (Src w a2 (cellsP L)) := h2
  have HG : Hid (Gl w) := hG
  have AL : Hid (Below w.heap.size w (w.alloc (.cells #[.string x] 9))) := (Below.refl _ _).alloc (Nat.le_refl _) _
  obtain ⟨q, hq⟩ : ∃ q, raskM N L [x] = q := ⟨_, rfl⟩
  have HQQ : Hid (raskM N L [x] = q) := hq
  have HQ1 : Hid (lawM2 (ruR N L x) q = (R, Q)) := by show _ = _; rw [← hq]; exact HQ.out
  have CA := restoreFaultI a n c N a2 n2 c2 L (some ⟨w.heap.size, 0, none⟩) 1 1 [x] (w.alloc (.cells #[.string x] 9)) hN hn hs (HS.out.below AL.out) hL hn2 hs2 (HS2.out.below AL.out) rfl (by omega) (fun s hs => by rw [List.mem_singleton.1 hs]; exact hx) (src_1S rfl) (hG.below h8 AL.out) (by have := AL.out.size; omega) q hq
  clear hN h hs hL h2 hs2 hq HQ hG
  by_cases hq0 : q = 0
  · subst hq0
    obtain ⟨hask, hst2⟩ := rask_zero HQQ.out
    obtain ⟨hst, hsx⟩ := ask_zero1 hask
    have hus := word_slash hsx
    have hu8 := short_size hsx
    obtain ⟨hgl, nx0, hnm, n1, n2', _⟩ := store_facts hst
    have hn60 := hgl.1
    rw [HLN.out] at hn60
    have hm60 := (store_facts hst2).1.1
    rw [HLL.out] at hm60
    have HQ2 : Hid (ruR N L x = (R, Q)) := by have h9 := HQ1.out; unfold lawM2 at h9; rw [if_pos rfl] at h9; exact h9
    have CD := fun W (hW : Below w.heap.size w W) => deskWithI a n c N x W HLN.out (HS.out.below hW) (HG.out.below h8 hW) (by have := hW.size; omega) hst hus (by omega)
    have CD2 := fun W (hW : Below w.heap.size w W) => deskWithI a2 n2 c2 L x W HLL.out (HS2.out.below hW) (HG.out.below h8 hW) (by have := hW.size; omega) hst2 hus (by omega)
    rw [hnm] at n1 n2'
    have HFI : Hid (∀ S T, takeAll (nextM N) x S0 N = some S → takeAll (nextM L) x S0 L = some T → RuH N L (nextM N) x S T) := fun S T k1 k2 => ru_facts hst hst2 hus k1 k2
    have HUS : Hid ((47 : UInt8) ∉ x.data.toList) := hus
    obtain ⟨nx, hnx⟩ : ∃ t, nextM N = t := ⟨_, rfl⟩
    obtain ⟨ny, hny⟩ : ∃ t, nextM L = t := ⟨_, rfl⟩
    simp only [hnx] at CD n1 n2'
    simp only [hny] at CD2
    rw [hnx, hny] at HFI
    clear hst hst2 hsx HQ1 hgl hnm hnx hny hus hask
    go_enter Tryz.func22, Tryz.ntmps22
    go_wp2_with fail
    refine CA.mono ?_
    rintro e w3 ⟨rfl, hb3⟩
    have B3 : Hid (Below w.heap.size w w3) := AL.out.trans (hb3.mono AL.out.size)
    clear hb3 CA
    go_wp2_with fail
    refine (CD _ B3.out).mono ?_
    rintro e w4 ⟨M, S, rfl, hS, hSt, hM, hb4⟩
    have B4 : Hid (Below w.heap.size w w4) := B3.out.trans (hb4.mono B3.out.size)
    have hM2 : w.heap.size ≤ M := by have h9 := B3.out.size; omega
    have HS4 : Hid (takeAll nx x S0 N = some S ∧ StAt w4 M a n c nx x S n) := ⟨hS, hSt⟩
    clear hb4 hS hSt CD hM
    go_wp2_with fail
    refine (CD2 _ B4.out).mono ?_
    rintro e w5 ⟨O, T, rfl, hT, hTt, hO, hb5⟩
    have B5 : Hid (Below w.heap.size w w5) := B4.out.trans (hb5.mono B4.out.size)
    obtain ⟨va, X, hD, hV, hN, hf, hk⟩ := HS4.out.2
    obtain ⟨vb, Z, hE, hW, hNt, hft, hkt⟩ := hTt
    have kk := HFI.out S T HS4.out.1 hT
    have hM4 : M + 1 < w4.heap.size := World.block_lt_of_cell? _ _ (hD.1 0 _ rfl).1
    obtain ⟨q1, nx1, S1, hop⟩ : ∃ q1 nx1 S1, ruM nx x S T (listS N x) (gsO L x) = (q1, nx1, S1) := ⟨_, _, _, rfl⟩
    have HOF : Hid (OpFits N x q1 nx1 S1 (ruR N L x)) := kk.op S1 q1 nx1 hop
    have COP := restoreUserI w5 M a n c nx x S 60 va X (hD.later hb5) hV hN (fun f hf9 => by have := hf f hf9; omega) (by omega) (by omega) (by rw [hV.len]; exact kk.ls) O a2 n2 c2 ny T vb Z hE hW hNt (fun f hf9 => by have := hft f hf9; omega) (by omega) (by rw [hW.len]; exact kk.lt) (by omega) (fun z hz y9 hy9 => Nat.lt_of_lt_of_le (own_lt (hD.2.2.2.1 z hz) hy9) hO) HUS.out (by omega) (by omega) n2' (HG.out.below h8 B5.out) (by omega) (listS N x) kk.ns kk.nd kk.nf _ rfl kk.nm (gsO L x) kk.gs kk.gd kk.gf _ rfl kk.gm (emL x L N (listS N x)) kk.li kk.le kk.fe q1 nx1 S1 hop
    clear hb5 hT CD2 hO hop HFI hD hV hN hf hk hE hW hNt hft hkt kk HS4
    go_wp2_with fail
    refine COP.mono ?_
    rintro e w6 ⟨rfl, hst6, hb6⟩
    have B6 : Hid (Below w.heap.size w w6) := B5.out.trans (hb6.mono hM2)
    have HST6 : Hid (StAt w6 M a n c nx1 x S1 60) := hst6
    clear COP hb6 hst6
    by_cases hq1 : q1 = 0
    · subst hq1
      obtain ⟨k1, k2, k3, Y, k4, k5, k6, k7⟩ := HOF.out.2 rfl
      rw [HQ2.out] at k7
      have CE := doneOk w6 M a n c nx1 x S1 60 HST6.out (by omega) k1 k2 k3 (by omega) (HG.out.below h8 B6.out) (by omega) Y k4 k5 _ rfl k6 N HLN.out hn60 (HS.out.below B6.out) R Q (by show _ = _; rw [k7]; rfl)
      clear k1 k2 k3 k4 k5 k6 k7 HOF
      go_wp2_with fail
      refine CE.mono ?_
      rintro e w7 ⟨v7, rfl, ho7, hb7⟩
      obtain ⟨a7, c7, rfl, _, _⟩ := own_src ho7
      have HF : Hid (w7.ownsRow w.heap.size 47 2 (.slice a7 R.length c7) R.length (cellsP R) ∧ Below w.heap.size w w7) := ⟨own_mono ho7 B6.out.size, B6.out.trans (hb7.mono B6.out.size)⟩
      clear CE ho7 hb7
      go_wp2_with fail
      exact bodyPost_ret (v := .tuple #[.slice a7 R.length c7, .int .i64 Q]) (by simp [results, Tryz.results22, go_sem]) rfl ⟨_, rfl, HF.out⟩
    · have k7 := HOF.out.1 hq1
      rw [HQ2.out] at k7
      obtain ⟨hk1, hk2⟩ : R = N ∧ Q = q1 := by cases k7; exact ⟨rfl, rfl⟩
      have e0c : w6.cell? ⟨M + 1, 0, none⟩ = some (.slice a n c) := by
        obtain ⟨_, _, hD, _⟩ := HST6.out
        exact (hD.1 0 _ rfl).1
      have CE := doneBad q1 hq1 w6 M a n c N HLN.out hn60 e0c (HS.out.below B6.out)
      have HK : Hid (R = N ∧ q1 = Q) := ⟨hk1, hk2.symm⟩
      clear k7 HOF hk1 hk2 e0c
      go_wp2_with fail
      refine CE.mono ?_
      rintro e w7 ⟨v7, rfl, ho7, hb7⟩
      obtain ⟨a7, c7, rfl, _, _⟩ := own_src ho7
      have HF : Hid (w7.ownsRow w.heap.size 47 2 (.slice a7 n c7) R.length (cellsP R) ∧ Below w.heap.size w w7) := ⟨by rw [HK.out.1, HLN.out]; exact own_mono ho7 B6.out.size, B6.out.trans (hb7.mono B6.out.size)⟩
      have HK2 : Hid (q1 = Q) := HK.out.2
      clear CE ho7 hb7
      go_wp2_with fail
      exact bodyPost_ret (v := .tuple #[.slice a7 n c7, .int .i64 q1]) (by simp [results, Tryz.results22, go_sem]) rfl ⟨_, by rw [HK2.out], HF.out⟩
  · obtain ⟨rfl, rfl⟩ : [] = R ∧ q = Q := by
      have h9 := HQ1.out
      unfold lawM2 at h9
      rw [if_neg hq0] at h9
      cases h9
      exact ⟨rfl, rfl⟩
    have hqi : (q != 0) = true := by simpa using hq0
    go_enter Tryz.func22, Tryz.ntmps22
    go_wp2_with fail
    refine CA.mono ?_
    rintro e w3 ⟨rfl, hb3⟩
    have B3 : Hid (Below w.heap.size w w3) := AL.out.trans (hb3.mono AL.out.size)
    clear hb3 CA
    go_wp2_with fail
    exact bodyPost_ret (v := .tuple #[.slice none 0 0, .int .i64 q]) (by simp [results, Tryz.results22, go_sem]) rfl ⟨_, rfl, World.ownsRow_nil _ _ _ _, B3.out⟩
theorem specRestoreUserL (a : Option Addr) (n c : Nat) (N : List PM) (a2 : Option Addr) (n2 c2 : Nat) (L : List PM) (x : ByteArray) (w : World) (hN : N.length = n) (hn : n ≤ 1048576) (hs : ∀ x ∈ N, x.1.size ≤ 1048576 ∧ x.2.size ≤ 1048576) (hL : L.length = n2) (hn2 : n2 ≤ 1048576) (hs2 : ∀ x ∈ L, x.1.size ≤ 1048576 ∧ x.2.size ≤ 1048576) (hcc : n ≤ c ∧ c ≤ maxLen) (hx : x.size ≤ 1048576) (h : Src w a (cellsP N)) (h2 : Src w a2 (cellsP L)) :
    Calls Tryz.prog 21 #[.slice a n c, .slice a2 n2 c2, .string x] w fun e w' => ∃ v R q, e = .returned (.tuple #[v, .int .i64 q]) ∧ lawM2 (ruR N L x) (raskM N L [x]) = (R, q) ∧ w'.ownsRow w.heap.size 47 2 v R.length (cellsP R) ∧ Below w.heap.size w w' :=
  (specRestoreUser a n c N a2 n2 c2 L x w hN hn hcc.1 hcc.2 hs h hL hn2 hs2 h2 hx _ _ rfl).mono fun e w' ⟨v, h1, h2, h3⟩ => ⟨v, _, _, h1, rfl, h2, h3⟩
theorem implRestoreUserL (a : Option Addr) (n c : Nat) (N : List PM) (a2 : Option Addr) (n2 c2 : Nat) (L : List PM) (x : ByteArray) (w : World) (hN : N.length = n) (hn : n ≤ 1048576) (hs : ∀ x ∈ N, x.1.size ≤ 1048576 ∧ x.2.size ≤ 1048576) (hL : L.length = n2) (hn2 : n2 ≤ 1048576) (hs2 : ∀ x ∈ L, x.1.size ≤ 1048576 ∧ x.2.size ≤ 1048576) (hx : x.size ≤ 1048576) (hG : Gl w) (h8 : 8 ≤ w.heap.size) (h : Src w a (cellsP N)) (h2 : Src w a2 (cellsP L)) :
    Calls Tryz.prog 22 #[.slice a n c, .slice a2 n2 c2, .string x] w fun e w' => ∃ v R q, e = .returned (.tuple #[v, .int .i64 q]) ∧ lawM2 (ruR N L x) (raskM N L [x]) = (R, q) ∧ w'.ownsRow w.heap.size 47 2 v R.length (cellsP R) ∧ Below w.heap.size w w' :=
  (implRestoreUser a n c N a2 n2 c2 L x w hN hn hs h hL hn2 hs2 h2 hx hG h8 _ _ rfl).mono fun e w' ⟨v, h1, h2, h3⟩ => ⟨v, _, _, h1, rfl, h2, h3⟩
theorem ruR_small {N L R : List PM} {x : ByteArray} {q : Int} (h : lawM2 (ruR N L x) (raskM N L [x]) = (R, q)) : R.length ≤ 1048576 := by
  unfold lawM2 at h
  split at h
  · rename_i h0
    obtain ⟨z1, z2⟩ := rask_zero h0
    obtain ⟨z3, z4⟩ := ask_zero1 z1
    have h9 := ruR_len z3 z2 (word_slash z4)
    rw [h] at h9
    have h8 : R.length ≤ 4000 := h9
    omega
  · cases h; simp
end Go.Proofs.YtbpgncgmolpkiaaGreatDoor
