/-
  Tkm Tkh in one. By an AI agent.
-/
import Derived.Test.YthgbclipknfmjaaGreatDoorFr07
namespace Go.Proofs.YthgbclipknfmjaaGreatDoor
open Go.ChangeShapes Go.WideShapes Go.ChangeAt Go.RowKit Go.Deep Go.Lib
open Go.ChangeMaps (setBlock)
set_option linter.unusedVariables false
set_option linter.unusedSimpArgs false
set_option maxRecDepth 100000

def hdV (v : ByteArray) : Int := ((v.data.toList.headD 0).toNat : Int)
theorem hdV_at (v : ByteArray) (h : 0 < v.size) : hdV v = (v[0].toNat : Int) := by
  unfold hdV
  rw [head_at v h]
def mailU (f : FM) (n : Nat) (v : ByteArray) : FM := { f with mails := f.mails ++ [((n : Int), hdV v - 48, v.extract 1 v.size)] }
def mailO (f : FM) (d : List UInt8) (v : ByteArray) : Option FM := (decFrom 0 d).bind fun u => if d.length = 3 ∧ 1 ≤ v.size ∧ v.size ≤ 86 ∧ 48 ≤ hdV v ∧ hdV v ≤ 51 ∧ 1 ≤ (u : Int) ∧ (u : Int) < f.next then some (mailU f u v) else none
def mailM (fs : List FM) (folder digits v : ByteArray) : Option FM := (lookF folder fs).bind fun f => mailO f digits.data.toList v
theorem mailO_some {f g : FM} {d : List UInt8} {v : ByteArray} (h : mailO f d v = some g) : ∃ u, decFrom 0 d = some u ∧ d.length = 3 ∧ 1 ≤ v.size ∧ v.size ≤ 86 ∧ 48 ≤ hdV v ∧ hdV v ≤ 51 ∧ 1 ≤ (u : Int) ∧ (u : Int) < f.next ∧ g = mailU f u v := by
  unfold mailO at h
  obtain ⟨u, h1, h2⟩ := Option.bind_eq_some_iff.1 h
  split at h2
  · rename_i h3
    cases h2
    exact ⟨u, h1, h3.1, h3.2.1, h3.2.2.1, h3.2.2.2.1, h3.2.2.2.2.1, h3.2.2.2.2.2.1, h3.2.2.2.2.2.2, rfl⟩
  · cases h2
theorem mailO_none {f : FM} {d : List UInt8} {v : ByteArray} (h : ∀ u, decFrom 0 d = some u → d.length = 3 → 1 ≤ v.size → v.size ≤ 86 → 48 ≤ hdV v → hdV v ≤ 51 → 1 ≤ (u : Int) → (u : Int) < f.next → False) : mailO f d v = none := by
  cases hm : mailO f d v with
  | none => rfl
  | some g =>
    obtain ⟨u, h1, h2, h3, h4, h5, h6, h7, h8, _⟩ := mailO_some hm
    exact (h u h1 h2 h3 h4 h5 h6 h7 h8).elim
theorem src_oneMl {w : World} {i j : Int} {s : ByteArray} {B ty : Nat} (hB : B = w.heap.size) : Src (w.alloc (.cells #[.int .i64 i, .int .i64 j, .string s] ty)) (some ⟨B, 0, none⟩) (cellsMl [(i, j, s)]) := by
  have hb : Box (w.alloc (.cells #[.int .i64 i, .int .i64 j, .string s] ty)) B [.int .i64 i, .int .i64 j, .string s] := Box.new hB
  refine .inr ⟨B, 0, rfl, fun k hk => ?_⟩
  have hk3 : k < 3 := hk
  rw [Nat.zero_add]
  match k, hk3 with
  | 0, _ => exact (hb 0 _ rfl).1
  | 1, _ => exact (hb 1 _ rfl).1
  | 2, _ => exact (hb 2 _ rfl).1
theorem MapIs.grown {w w' : World} {M clock : Nat} {X : List FX} {row : Option Nat} (h : MapIs w M clock X) (hg : w.grownBy w' row) (hne : row ≠ some M) : MapIs w' M clock X :=
  ⟨(hg.block M (Array.getElem?_eq_some_iff.1 h.1).1 (fun e => hne e.symm)).trans h.1, h.2⟩
theorem MapIs.setCell {w : World} {M clock : Nat} {X : List FX} (h : MapIs w M clock X) (a : Addr) (v : Value) (hne : M ≠ a.block) : MapIs (w.setCell a v) M clock X :=
  ⟨(Below.heap_setCell w a v M hne).trans h.1, h.2⟩
theorem box_far {w : World} {B : Nat} {vs : List Value} (h : Box w B vs) (a : Addr) (v : Value) (hne : B ≠ a.block) : Box (w.setCell a v) B vs := fun i u hu => by
  obtain ⟨h1, h2⟩ := h i u hu
  have h3 := Below.heap_setCell w a v B hne
  exact ⟨(World.cell?_of_block (a := ⟨B, i, none⟩) h3).trans h1, (World.frozen?_of_block (a := ⟨B, i, none⟩) h3).trans h2⟩
theorem rows_set' {w : World} {M : Nat} {y : FX} {X : List FX} (hr : ∀ x ∈ X, x.k ≠ y.k → w.ownsRow (M + 2) 37 3 x.v x.mails.length (cellsMl x.mails)) (hp : X.Pairwise (fun x z => ∀ g, x.v.ownBlock = some g → z.v.ownBlock ≠ some g)) (hy : w.ownsRow (M + 2) 37 3 y.v y.mails.length (cellsMl y.mails)) (hN : (X.map (·.k)).Nodup) (hd : ∀ x ∈ X, x.k ≠ y.k → ∀ g, x.v.ownBlock = some g → y.v.ownBlock ≠ some g) (clock : Nat) : Rows w M (setX y clock X) :=
  ⟨fun z hz => by
    by_cases hk : z.k = y.k
    · rcases setX_keyed hN hz hk with ⟨hv, hm⟩
      rw [hv, hm]; exact hy
    · rcases setX_mem hz with hz | ⟨_, _, h9⟩
      · exact hr z hz hk
      · exact absurd h9 hk, pair_set hp hN hd⟩
set_option maxHeartbeats 4000000 in
theorem takeMailI (folder digits v : ByteArray) (w : World) (M : Nat) (D : DK) (fs : List FM) (hD : DeskAt w M D) (hV : View D.user D.X fs) (hF : FsOK fs) (hg : Gl w) (h8 : 8 ≤ M) (hn : folder.size ≤ 1000) (hds : digits.size ≤ 1000) (hv : v.size ≤ 90) (hu : D.user.size ≤ 1000) (bb : Bool) (HB : Hid ((mailM fs folder digits v).isSome = bb)) :
    Calls Tryz.prog 147 #[.pointer (some ⟨M + 1, 0, none⟩), .string folder, .string digits, .string v] w fun e w' => e = .returned (.bool bb) ∧ Taken w' M D fs (mailM fs folder digits v) ∧ Below M w w' := by
  have HD : Hid (DeskAt w M D) := hD
  have HV : Hid (View D.user D.X fs ∧ FsOK fs) := ⟨hV, hF⟩
  have HG : Hid (Gl w) := hg
  have hM1 : M + 1 < w.heap.size := World.block_lt_of_cell? _ _ (hD.1 0 _ rfl).1
  have HNO : ∀ (o : Option FM) (W : World), o = none → Taken W M D fs o := fun o W h9 f h7 => by rw [h9] at h7; cases h7
  cases hl : lookF folder fs with
  | none =>
    have hmn : mailM fs folder digits v = none := by unfold mailM; rw [hl]; rfl
    have HZ : Hid (false = bb) := by show _ = _; rw [← HB.out, hmn]; rfl
    have HT : Hid (mailM fs folder digits v = none) := hmn
    have CH := hasI folder w M D (by omega) (by omega) hD false (hV.some folder false (by rw [hl]; rfl))
    clear hl hD hV hF hg HB hmn
    go_enter Tryz.func147, Tryz.ntmps147
    go_wp2_with fail
    refine CH.mono ?_
    rintro e w1 ⟨rfl, hb1⟩
    have B1 : Hid (Below M w w1) := hb1.mono (by omega)
    clear hb1
    go_wp2_with fail
    go_ret
    exact ⟨ret_bool HZ.out, HNO _ _ HT.out, B1.out⟩
  | some f =>
    have HM : Hid (mailM fs folder digits v = mailO f digits.data.toList v) := by show _ = _; unfold mailM; rw [hl]; rfl
    rw [HM.out] at HB ⊢
    have CH := hasI folder w M D (by omega) (by omega) hD true (hV.some folder true (by rw [hl]; rfl))
    have hmem := lookF_mem hl
    have hnx := hF.2 f hmem.1
    obtain ⟨x, hx, hxf⟩ : ∃ x, lookX (folderK D.user folder) D.X = some x ∧ fmX x = f := by
      have h9 := hV.look folder
      rw [hl] at h9
      cases hx : lookX (folderK D.user folder) D.X with
      | none => rw [hx] at h9; cases h9
      | some x => rw [hx] at h9; exact ⟨x, rfl, by simpa using h9⟩
    have hfn : f.name = folder := hmem.2
    have hown := hD.2.2.2.1 x (look_mem hx)
    obtain ⟨ax, cx, hxv, _, hxl⟩ := own_src hown
    have hat : atX (lookX (folderK D.user folder) D.X) = .agg #[.string folder, .int .i64 f.val, .int .i64 f.next, .slice ax x.mails.length cx] := by
      rw [hx]
      show valX x = _
      unfold valX
      rw [hxv, ← hxf, ← hfn, ← hxf]
    have CAT : ∀ W, DeskAt W M D → Calls Tryz.prog 38 #[.pointer (some ⟨M + 1, 0, none⟩), .string folder] W fun e w' => e = .returned (.agg #[.string folder, .int .i64 f.val, .int .i64 f.next, .slice ax x.mails.length cx]) ∧ Below W.heap.size W w' := fun W h9 => by
      have := atI folder W M D (by omega) (by omega) h9
      rw [hat] at this
      exact this
    obtain ⟨ml, hml⟩ : ∃ k, x.mails.length = k := ⟨_, rfl⟩
    have hmll : ml ≤ 1000 := by
      have h9 := hnx.2.2
      rw [← hxf] at h9
      have h7 : x.mails.length ≤ 1000 := h9
      omega
    obtain ⟨fv, hfv⟩ : ∃ z, f.val = z := ⟨_, rfl⟩
    obtain ⟨fx, hfx⟩ : ∃ z, f.next = z := ⟨_, rfl⟩
    have hfx1 : 1 ≤ fx ∧ fx ≤ 999 := by rw [← hfx]; exact ⟨hnx.1, hnx.2.1⟩
    rw [hml, hfv, hfx] at CAT
    rw [hxv, hml] at hown
    have HO : Hid (w.ownsRow (M + 2) 37 3 (.slice ax ml cx) ml (cellsMl x.mails)) := hown
    have HXX : Hid (lookX (folderK D.user folder) D.X = some x ∧ fmX x = f ∧ x.v = .slice ax ml cx ∧ f.name = folder) := ⟨hx, hxf, by rw [hxv, hml], hfn⟩
    have HFV : Hid (f.val = fv ∧ f.next = fx) := ⟨hfv, hfx⟩
    clear hD hV hF hg hl hmem hnx hown hat hxl hx hxf hxv hfn hml hfv hfx
    by_cases hv1 : v.size < 1
    · have HMN : Hid (mailO f digits.data.toList v = none) := mailO_none fun u _ _ h3 _ _ _ _ _ => by omega
      have HZ : Hid (false = bb) := by show _ = _; rw [← HB.out, HMN.out]; rfl
      have hv1i : (v.size : Int) < 1 := by omega
      go_enter Tryz.func147, Tryz.ntmps147
      go_wp2_with fail
      refine CH.mono ?_
      rintro e w1 ⟨rfl, hb1⟩
      have B1 : Hid (Below M w w1) := hb1.mono (by omega)
      clear hb1
      go_wp2_with fail
      go_ret
      exact ⟨ret_bool HZ.out, HNO _ _ HMN.out, B1.out⟩
    by_cases hv2 : 86 < v.size
    · have HMN : Hid (mailO f digits.data.toList v = none) := mailO_none fun u _ _ _ h4 _ _ _ _ => by omega
      have HZ : Hid (false = bb) := by show _ = _; rw [← HB.out, HMN.out]; rfl
      have hv1i : ¬ (v.size : Int) < 1 := by omega
      have hv2i : (86 : Int) < (v.size : Int) := by omega
      go_enter Tryz.func147, Tryz.ntmps147
      go_wp2_with fail
      refine CH.mono ?_
      rintro e w1 ⟨rfl, hb1⟩
      have B1 : Hid (Below M w w1) := hb1.mono (by omega)
      clear hb1
      go_wp2_with fail
      go_ret
      exact ⟨ret_bool HZ.out, HNO _ _ HMN.out, B1.out⟩
    have hv1i : ¬ (v.size : Int) < 1 := by omega
    have hv2i : ¬ (86 : Int) < (v.size : Int) := by omega
    have hv0 : 0 < v.size := by omega
    have hv0i : (0 : Int) < (v.size : Int) := by omega
    have hv3i : (1 : Int) ≤ (v.size : Int) := by omega
    have hw64 := w64b v[0]
    have hcl := (v[0]).toNat_lt
    obtain ⟨q, hq⟩ : ∃ q : Int, (v[0].toNat : Int) = q := ⟨_, rfl⟩
    have HQ : Hid (hdV v = q) := by show _ = _; rw [hdV_at v hv0, hq]
    have hq0 : 0 ≤ q ∧ q < 256 := by omega
    rw [hq] at hw64
    go_enter Tryz.func147, Tryz.ntmps147
    go_wp2_with fail
    refine CH.mono ?_
    rintro e w1 ⟨rfl, hb1⟩
    have B1 : Hid (Below w.heap.size w w1) := hb1
    have D1 : Hid (DeskAt w1 M D) := HD.out.later hb1
    clear hb1 CH
    go_wp2_with fail
    refine (CAT _ D1.out).mono ?_
    rintro e w2 ⟨rfl, hb2⟩
    have B2 : Hid (Below w.heap.size w w2) := B1.out.trans (hb2.mono B1.out.size)
    clear hb2 B1 D1 CAT
    have X2 : Box (w2.alloc (.cells #[.string folder, .int .i64 fv, .int .i64 fx, .slice ax ml cx] 28)) w2.heap.size [.string folder, .int .i64 fv, .int .i64 fx, .slice ax ml cx] := Box.new rfl
    have A2 : Below w.heap.size w (w2.alloc (.cells #[.string folder, .int .i64 fv, .int .i64 fx, .slice ax ml cx] 28)) := B2.out.alloc B2.out.size _
    obtain ⟨W2, hW2⟩ : ∃ W, w2.alloc (.cells #[.string folder, .int .i64 fv, .int .i64 fx, .slice ax ml cx] 28) = W := ⟨_, rfl⟩
    rw [hW2] at X2 A2
    have SZ2 : Hid (w2.heap.size + 1 = W2.heap.size ∧ w.heap.size ≤ w2.heap.size) := ⟨by rw [← hW2]; simp, B2.out.size⟩
    go_upto_region 4 with fail
    try rw [hW2]
    clear hW2
    have HA2 : Hid (Below w.heap.size w W2) := A2
    have HX2 : Hid (Box W2 w2.heap.size [.string folder, .int .i64 fv, .int .i64 fx, .slice ax ml cx]) := X2
    clear A2 X2 B2
    go_wp2_with fail
    refine (atoiI digits _ (by omega) (HG.out.below h8 (HA2.out.mono (by omega)))).mono ?_
    rintro e w3 ⟨n, er, rfl, hat, hb3⟩
    have B3 : Hid (Below w.heap.size w w3) := HA2.out.trans (hb3.mono HA2.out.size)
    have X3 : Hid (Box w3 w2.heap.size [.string folder, .int .i64 fv, .int .i64 fx, .slice ax ml cx]) := HX2.out.below hb3
    have SZ3 : Hid (w2.heap.size < w3.heap.size) := by have h9 := hb3.size; have h7 := SZ2.out.1; show _ < _; omega
    have HAT : Hid (∀ u, atoiAll digits.data.toList = .ok u → n = u) := hat
    clear hb3 hat HA2 HX2
    obtain ⟨e2, _⟩ := X3.out 2 _ rfl
    by_cases hn1 : n < 1
    · have HMN : Hid (mailO f digits.data.toList v = none) := mailO_none fun u h1 h2 _ _ _ _ h7 _ => by have := HAT.out _ (atoi3 h2 h1); omega
      have HZ : Hid (false = bb) := by show _ = _; rw [← HB.out, HMN.out]; rfl
      go_wp2_with fail
      go_ret
      exact ⟨ret_bool HZ.out, HNO _ _ HMN.out, B3.out.mono (by omega)⟩
    by_cases hn2 : fx ≤ n
    · have HMN : Hid (mailO f digits.data.toList v = none) := mailO_none fun u h1 h2 _ _ _ _ _ h9 => by have := HAT.out _ (atoi3 h2 h1); have := HFV.out.2; omega
      have HZ : Hid (false = bb) := by show _ = _; rw [← HB.out, HMN.out]; rfl
      go_wp2_with fail
      go_ret
      exact ⟨ret_bool HZ.out, HNO _ _ HMN.out, B3.out.mono (by omega)⟩
    have hnf : n < fx := by omega
    obtain ⟨un, rfl⟩ : ∃ un : Nat, n = un := ⟨n.toNat, by omega⟩
    have CU := uidTextI un (by omega) w3 (HG.out.below h8 (B3.out.mono (by omega)))
    obtain ⟨T, hT⟩ : ∃ T, bs (d3 un) = T := ⟨_, rfl⟩
    rw [hT] at CU
    by_cases hT2 : T = digits
    case neg =>
      have HMN : Hid (mailO f digits.data.toList v = none) := mailO_none fun u h1 h2 _ _ _ _ _ _ => by
        have h9 := HAT.out _ (atoi3 h2 h1)
        have h7 := (d3_back h2 h1).2
        obtain rfl : un = u := by omega
        exact hT2 (by rw [← hT, ← h7]; rfl)
      have HZ : Hid (false = bb) := by show _ = _; rw [← HB.out, HMN.out]; rfl
      have hTi : (T.toList == digits.toList) = false := beq_eq_false_iff_ne.2 (fun h9 => hT2 (toList_inj h9))
      have hTj : ¬ T.toList = digits.toList := fun h9 => hT2 (toList_inj h9)
      clear hT
      go_wp2_with fail
      refine CU.mono ?_
      rintro e w4 ⟨rfl, hb4⟩
      have B4 : Hid (Below w.heap.size w w4) := B3.out.trans (hb4.mono B3.out.size)
      clear hb4
      go_wp2_with fail
      go_ret
      exact ⟨ret_bool HZ.out, HNO _ _ HMN.out, B4.out.mono (by omega)⟩
    have HT2 : Hid (bs (d3 un) = digits) := hT.trans hT2
    rw [hT2] at CU
    clear hT hT2
    obtain ⟨b5, hb5⟩ : ∃ b, (decide (0 ≤ q - 48) && decide (q - 48 ≤ 3)) = b := ⟨_, rfl⟩
    go_wp2_with fail
    refine CU.mono ?_
    rintro e w4 ⟨rfl, hb4⟩
    have B4 : Hid (Below w.heap.size w w4) := B3.out.trans (hb4.mono B3.out.size)
    have X4 : Hid (Box w4 w2.heap.size [.string folder, .int .i64 fv, .int .i64 fx, .slice ax ml cx]) := X3.out.below hb4
    have SZ4 : Hid (w2.heap.size < w4.heap.size) := by have h9 := hb4.size; have h7 := SZ3.out; show _ < _; omega
    clear hb4 X3 B3 e2 CU
    have eqd : (digits.toList == digits.toList) = true := by simp
    go_wp2_with fail
    refine (flagsIs b5 _ _ hb5).mono ?_
    rintro e w5 ⟨rfl, hw5⟩
    obtain rfl := hw5
    cases b5 with
    | false =>
      have HMN : Hid (mailO f digits.data.toList v = none) := mailO_none fun u _ _ _ _ h5 h6 _ _ => by
        rw [HQ.out] at h5 h6
        rw [decide_eq_true (by omega), decide_eq_true (by omega)] at hb5
        cases hb5
      have HZ : Hid (false = bb) := by show _ = _; rw [← HB.out, HMN.out]; rfl
      go_wp2_with fail
      go_ret
      exact ⟨ret_bool HZ.out, HNO _ _ HMN.out, B4.out.mono (by omega)⟩
    | true =>
      have hq5 : 48 ≤ q ∧ q ≤ 51 := by
        simp only [Bool.and_eq_true, decide_eq_true_eq] at hb5
        omega
      obtain ⟨tx, htx⟩ : ∃ t, v.extract 1 v.size = t := ⟨_, rfl⟩
      have HMS : Hid (mailO f digits.data.toList v = some { f with mails := f.mails ++ [((un : Int), q - 48, tx)] }) := by
        show _ = _
        have h9 : digits.data.toList = d3 un := by rw [← HT2.out]; rfl
        obtain ⟨k1, k2⟩ := d3_is un (by omega)
        unfold mailO
        rw [h9, k2]
        simp only [Option.bind_some]
        rw [if_pos ⟨k1, by omega, by omega, by rw [HQ.out]; omega, by rw [HQ.out]; omega, by omega, by rw [HFV.out.2]; omega⟩]
        unfold mailU
        rw [HQ.out, htx]
      have HZ : Hid (true = bb) := by show _ = _; rw [← HB.out, HMS.out]; rfl
      have hcut : ∀ W : World, (Instr.slice 9 (.string v) (some (.int .i64 1)) none none).run Tryz.prog W = .ok (.string tx) W := fun W => by
        rw [← htx]
        have := run_slice_string_l (P := Tryz.prog) (w := W) (t := 9) (s := v) Tryz.underlying9 .i64 1 (by omega) hv3i
        exact this
      have HO4 : Hid (w5.ownsRow (M + 2) 37 3 (.slice ax ml cx) ml (cellsMl x.mails)) := own_below HO.out B4.out
      have D4 : Hid (DeskAt w5 M D) := HD.out.later B4.out
      obtain ⟨e3, _⟩ := X4.out 3 _ rfl
      clear htx hb5 HQ hq HAT HO
      go_upto_region 8 with fail
      refine wp_region_noPanic ?_
      refine wp_region_held_drew (S := fun w' => True) (by kernel_rfl) trivial (fun hHeld => ?_)
      refine tkA (i := 0) (v := .pointer (some ⟨w2.heap.size, 3, none⟩)) ?_ hHeld ?_
      · intro w9 hSw
        go_simp
      simp only [Act.put, List.setIfInBounds_toArray, List.set_cons_zero, List.set_cons_succ]
      refine tkA (i := 2) (v := .int .i64 (un : Int)) ?_ hHeld ?_
      · intro w9 hSw
        go_simp
      simp only [Act.put, List.setIfInBounds_toArray, List.set_cons_zero, List.set_cons_succ]
      refine tkA (i := 3) (v := .int .i64 (q - 48)) ?_ hHeld ?_
      · intro w9 hSw
        go_simp
      simp only [Act.put, List.setIfInBounds_toArray, List.set_cons_zero, List.set_cons_succ]
      refine tkA (i := 4) (v := .string v) ?_ hHeld ?_
      · intro w9 hSw
        go_simp
      simp only [Act.put, List.setIfInBounds_toArray, List.set_cons_zero, List.set_cons_succ]
      refine tkA (i := 5) (v := .string tx) ?_ hHeld ?_
      · intro w9 hSw
        have h9 := hcut w9
        go_simp
      simp only [Act.put, List.setIfInBounds_toArray, List.set_cons_zero, List.set_cons_succ]
      refine tkA (i := 6) (v := .agg #[.int .i64 (un : Int), .int .i64 (q - 48), .string tx]) ?_ hHeld ?_
      · intro w9 hSw
        go_simp
      simp only [Act.put, List.setIfInBounds_toArray, List.set_cons_zero, List.set_cons_succ]
      refine wpAnyH_ready (rs := [1, 7]) (by kernel_rfl) (by simp) ?_
      refine AllReadyH.cons rfl (fun K hK => ?_) (AllReadyH.cons rfl (fun K hK => ?_) AllReadyH.nil)
      · skip
        go_simp
        refine hK _ _ trivial (fun hHeld => ?_)
        clear hK K
        refine wpAnyH_ready (rs := [7]) (by kernel_rfl) (by simp) ?_
        refine AllReadyH.cons rfl (fun K hK => ?_) AllReadyH.nil
        go_simp
        have e3' : (w5.alloc (.cells #[.int .i64 (un : Int), .int .i64 (q - 48), .string tx] 37)).cell? ⟨w2.heap.size, 3, none⟩ = some (.slice ax ml cx) := cell_later ((Below.refl _ _).alloc (Nat.le_refl _) _) e3
        refine hK _ _ trivial (fun hHeld => ?_)
        clear hK K
        refine wpAnyH_ready (rs := [8]) (by kernel_rfl) (by simp) ?_
        refine AllReadyH.cons rfl (fun K hK => ?_) AllReadyH.nil
        refine step_append_src rfl (.tmp 59) (.tmp 65) 26 rfl (M + 2) 37 (.agg #[.int .i64 0, .int .i64 0, .string ⟨#[]⟩]) 3 32 Tryz.underlying26 infoMl rfl (by decide) (by decide) (.slice ax ml cx) ml (cellsMl x.mails) (by rfl) (HO4.out.alloc _) ⟨w5.heap.size, 0, none⟩ 1 1 (cellsMl [((un : Int), q - 48, tx)]) (by rfl) (by rfl) (src_oneMl rfl) (cellsMl_one _) (by omega) (by omega) (by show M + 2 ≤ (w5.alloc _).heap.size; have h9 := SZ4.out; have h7 := SZ2.out.2; simp; omega) ?_
        intro v6 w6 hown6 hgrow6 hloc6
        obtain ⟨a6, c6, rfl, _, hl6⟩ := own_src hown6
        have AL5 : Below w5.heap.size w5 (w5.alloc (.cells #[.int .i64 (un : Int), .int .i64 (q - 48), .string tx] 37)) := (Below.refl _ _).alloc (Nat.le_refl _) _
        have D5 := D4.out.later AL5
        have hrow : ∀ g, Value.ownBlock (.slice ax ml cx) = some g → M + 2 ≤ g ∧ g < w2.heap.size := fun g h9 => ⟨(HO4.out.lt g h9).1, by
          have h7 := (HD.out.2.2.2.1 x (look_mem HXX.out.1))
          rw [HXX.out.2.2.1] at h7
          have h6 := (h7.lt g h9).2
          have h5 := SZ2.out.2
          omega⟩
        have B6 : Hid (Below M w w6) := ((B4.out.trans (AL5.mono B4.out.size)).mono (by omega)).drew.grown hgrow6 (by have h9 := hgrow6.size; have h7 := SZ4.out; have h5 := SZ2.out.2; show M ≤ (w5.alloc _).heap.size; simp; omega) (fun g h9 => by have := (hrow g h9).1; omega)
        have X6 : Hid (Box w6 w2.heap.size [.string folder, .int .i64 fv, .int .i64 fx, .slice ax ml cx]) := Box.grown (w := (w5.alloc (.cells #[.int .i64 (un : Int), .int .i64 (q - 48), .string tx] 37)).drew) (X4.out.below AL5.drew) hgrow6 (fun h9 => by have := (hrow _ h9).2; omega)
        have K6 : Hid (DeskH w6 M D) := by
          obtain ⟨k1, ⟨cl, k2⟩, k3, _⟩ := D5
          exact ⟨Box.grown (w := (w5.alloc (.cells #[.int .i64 (un : Int), .int .i64 (q - 48), .string tx] 37)).drew) k1 hgrow6 (fun h9 => by have := (hrow _ h9).1; omega), ⟨cl, MapIs.grown (w := (w5.alloc (.cells #[.int .i64 (un : Int), .int .i64 (q - 48), .string tx] 37)).drew) k2 hgrow6 (fun h9 => by have := (hrow _ h9).1; omega)⟩, own_grown (w := (w5.alloc (.cells #[.int .i64 (un : Int), .int .i64 (q - 48), .string tx] 37)).drew) k3 hgrow6 (fun g h9 h7 => own_ne k3 (HO4.out.alloc _) (by decide) g h9 h7)⟩
        have R6 : Hid (∀ z ∈ D.X, z.k ≠ folderK D.user folder → w6.ownsRow (M + 2) 37 3 z.v z.mails.length (cellsMl z.mails) ∧ ∀ g, z.v.ownBlock = some g → Value.ownBlock (.slice a6 (ml + 1) c6) ≠ some g) := fun z hz hzk => by
          have k4 := D5.2.2.2
          have kd : ∀ g, z.v.ownBlock = some g → Value.ownBlock (.slice ax ml cx) ≠ some g := fun g h9 => by
            have := rows_apart k4 HXX.out.1 hz hzk g h9
            rwa [HXX.out.2.2.1] at this
          refine ⟨own_grown (w := (w5.alloc (.cells #[.int .i64 (un : Int), .int .i64 (q - 48), .string tx] 37)).drew) (k4.1 z hz) hgrow6 kd, fun g h9 h7 => ?_⟩
          rcases hloc6 with h5 | h5
          · rw [h5] at h7; exact kd g h9 h7
          · have h6 := h5 g h7
            have h4 := ((k4.1 z hz).lt g h9).2
            have h3 : (w5.alloc (.cells #[.int .i64 (un : Int), .int .i64 (q - 48), .string tx] 37)).drew.heap.size ≤ g := h6
            have h2 : (w5.alloc (.cells #[.int .i64 (un : Int), .int .i64 (q - 48), .string tx] 37)).drew.heap.size = (w5.alloc (.cells #[.int .i64 (un : Int), .int .i64 (q - 48), .string tx] 37)).heap.size := rfl
            omega
        have O6 : Hid (w6.ownsRow (M + 2) 37 3 (.slice a6 (ml + 1) c6) (ml + 1) (cellsMl (x.mails ++ [((un : Int), q - 48, tx)]))) := by
          show w6.ownsRow _ _ _ _ _ _
          rw [cellsMl_append]
          exact hown6
        have L6 : Hid (∀ g, Value.ownBlock (.slice a6 (ml + 1) c6) = some g → g ≠ w2.heap.size) := fun g h9 h7 => by
          rcases hloc6 with h5 | h5
          · rw [h5] at h9; have := (hrow g h9).2; omega
          · have h6 := h5 g h9
            have h3 : (w5.alloc (.cells #[.int .i64 (un : Int), .int .i64 (q - 48), .string tx] 37)).drew.heap.size ≤ g := h6
            have h2 : (w5.alloc (.cells #[.int .i64 (un : Int), .int .i64 (q - 48), .string tx] 37)).drew.heap.size = w5.heap.size + 1 := by show (w5.alloc _).heap.size = _; simp
            have h4 := SZ4.out
            omega
        have SZ6 : Hid (w2.heap.size < w6.heap.size) := World.block_lt_of_cell? _ _ (X6.out 0 _ rfl).1
        obtain ⟨e6, f6⟩ := X6.out 3 _ rfl
        clear hown6 hgrow6 hloc6 hl6 D5 hrow AL5
        refine hK _ _ trivial (fun hHeld => ?_)
        clear hK K
        refine tkA (i := 9) (v := .pointer (some ⟨w2.heap.size, 3, none⟩)) ?_ hHeld ?_
        · intro w9 hSw
          go_simp
        simp only [Act.put, List.setIfInBounds_toArray, List.set_cons_zero, List.set_cons_succ]
        refine wpAnyH_ready (rs := [10]) (by kernel_rfl) (by simp) ?_
        refine AllReadyH.cons rfl (fun K hK => ?_) AllReadyH.nil
        go_simp
        refine hK _ _ trivial (fun hHeld => ?_)
        clear hK K
        refine wpAnyH_done (by kernel_rfl) ?_ _
        refine NoPanic.normal ?_
        clear hHeld
        have X7 : Box (w6.setCell ⟨w2.heap.size, 3, none⟩ (.slice a6 (ml + 1) c6)) w2.heap.size [.string folder, .int .i64 fv, .int .i64 fx, .slice a6 (ml + 1) c6] := X6.out.set 3 _
        have hold : ∀ z ∈ D.X, z.v.ownBlock ≠ some w2.heap.size := fun z hz h9 => by
          have h7 := ((HD.out.2.2.2.1 z hz).lt _ h9).2
          have h5 := SZ2.out.2
          omega
        have hasd : D.va.ownBlock ≠ some w2.heap.size := fun h9 => by
          have h7 := (HD.out.2.2.1.lt _ h9).2
          have h5 := SZ2.out.2
          omega
        have K7 : Hid (DeskH (w6.setCell ⟨w2.heap.size, 3, none⟩ (.slice a6 (ml + 1) c6)) M D) := by
          obtain ⟨k1, ⟨cl, k2⟩, k3⟩ := K6.out
          have h5 := SZ2.out.2
          exact ⟨box_far k1 _ _ (by show M + 1 ≠ w2.heap.size; omega), ⟨cl, k2.setCell _ _ (by show M ≠ w2.heap.size; omega)⟩, own_setOther k3 hasd _⟩
        have R7 : Hid (∀ clock, Rows (w6.setCell ⟨w2.heap.size, 3, none⟩ (.slice a6 (ml + 1) c6)) M (setX ⟨folderK D.user folder, 0, folder, fv, fx, .slice a6 (ml + 1) c6, x.mails ++ [((un : Int), q - 48, tx)]⟩ clock D.X)) := fun clock => by
          have hx9 : x.mails.length = ml := by have h9 := HO4.out.1; rw [cellsMl_length] at h9; omega
          refine rows_set' (fun z hz hzk => own_setOther (R6.out z hz hzk).1 (hold z hz) _) HD.out.2.2.2.2 ?_ (HV.out.1.nodup HV.out.2) (fun z hz hzk => (R6.out z hz hzk).2) clock
          rw [List.length_append, List.length_singleton, hx9]
          exact own_setOther O6.out (fun h9 => L6.out _ h9 rfl) _
        have B7 : Hid (Below M w (w6.setCell ⟨w2.heap.size, 3, none⟩ (.slice a6 (ml + 1) c6))) := B6.out.setCell (by have h5 := SZ2.out.2; show M ≤ w2.heap.size; omega) _
        have HTK : Hid (fmX ⟨folderK D.user folder, 0, folder, fv, fx, .slice a6 (ml + 1) c6, x.mails ++ [((un : Int), q - 48, tx)]⟩ = { f with mails := f.mails ++ [((un : Int), q - 48, tx)] }) := by
          show FM.mk folder fv fx (x.mails ++ [((un : Int), q - 48, tx)]) = FM.mk f.name f.val f.next (f.mails ++ [((un : Int), q - 48, tx)])
          have h9 : x.mails = f.mails := by rw [← HXX.out.2.1]
          rw [HXX.out.2.2.2, HFV.out.1, HFV.out.2, h9]
        obtain ⟨g0, _⟩ := X7 0 _ rfl
        obtain ⟨g1, _⟩ := X7 1 _ rfl
        obtain ⟨g2, _⟩ := X7 2 _ rfl
        obtain ⟨g3, _⟩ := X7 3 _ rfl
        clear X7 hold hasd e3 e3' e6 f6
        go_wp2_with fail
        refine (putI ⟨folderK D.user folder, 0, folder, fv, fx, .slice a6 (ml + 1) c6, x.mails ++ [((un : Int), q - 48, tx)]⟩ folder fv fx a6 (ml + 1) c6 _ M D rfl (by omega) (by omega) K7.out R7.out).mono ?_
        rintro e w8 ⟨rfl, hd8, hb8⟩
        have B8 : Hid (Below M w w8) := B7.out.trans hb8
        have HT8 : Hid (Taken w8 M D fs (mailO f digits.data.toList v)) := fun g h9 => by
          obtain ⟨clock, hd⟩ := hd8
          rw [HMS.out] at h9
          cases h9
          refine ⟨_, hd, ?_⟩
          rw [← HTK.out]
          exact HV.out.1.put (y := ⟨folderK D.user folder, 0, folder, fv, fx, .slice a6 (ml + 1) c6, x.mails ++ [((un : Int), q - 48, tx)]⟩) rfl clock
        clear hd8 hb8 g0 g1 g2 g3
        go_wp2_with fail
        go_ret
        exact ⟨ret_bool HZ.out, HT8.out, B8.out⟩
      · skip
        go_simp
        have e3' : (w5.alloc (.cells #[.int .i64 (un : Int), .int .i64 (q - 48), .string tx] 37)).cell? ⟨w2.heap.size, 3, none⟩ = some (.slice ax ml cx) := cell_later ((Below.refl _ _).alloc (Nat.le_refl _) _) e3
        refine hK _ _ trivial (fun hHeld => ?_)
        clear hK K
        refine wpAnyH_ready (rs := [1]) (by kernel_rfl) (by simp) ?_
        refine AllReadyH.cons rfl (fun K hK => ?_) AllReadyH.nil
        go_simp
        refine hK _ _ trivial (fun hHeld => ?_)
        clear hK K
        refine wpAnyH_ready (rs := [8]) (by kernel_rfl) (by simp) ?_
        refine AllReadyH.cons rfl (fun K hK => ?_) AllReadyH.nil
        refine step_append_src rfl (.tmp 59) (.tmp 65) 26 rfl (M + 2) 37 (.agg #[.int .i64 0, .int .i64 0, .string ⟨#[]⟩]) 3 32 Tryz.underlying26 infoMl rfl (by decide) (by decide) (.slice ax ml cx) ml (cellsMl x.mails) (by rfl) (HO4.out.alloc _) ⟨w5.heap.size, 0, none⟩ 1 1 (cellsMl [((un : Int), q - 48, tx)]) (by rfl) (by rfl) (src_oneMl rfl) (cellsMl_one _) (by omega) (by omega) (by show M + 2 ≤ (w5.alloc _).heap.size; have h9 := SZ4.out; have h7 := SZ2.out.2; simp; omega) ?_
        intro v6 w6 hown6 hgrow6 hloc6
        obtain ⟨a6, c6, rfl, _, hl6⟩ := own_src hown6
        have AL5 : Below w5.heap.size w5 (w5.alloc (.cells #[.int .i64 (un : Int), .int .i64 (q - 48), .string tx] 37)) := (Below.refl _ _).alloc (Nat.le_refl _) _
        have D5 := D4.out.later AL5
        have hrow : ∀ g, Value.ownBlock (.slice ax ml cx) = some g → M + 2 ≤ g ∧ g < w2.heap.size := fun g h9 => ⟨(HO4.out.lt g h9).1, by
          have h7 := (HD.out.2.2.2.1 x (look_mem HXX.out.1))
          rw [HXX.out.2.2.1] at h7
          have h6 := (h7.lt g h9).2
          have h5 := SZ2.out.2
          omega⟩
        have B6 : Hid (Below M w w6) := ((B4.out.trans (AL5.mono B4.out.size)).mono (by omega)).drew.grown hgrow6 (by have h9 := hgrow6.size; have h7 := SZ4.out; have h5 := SZ2.out.2; show M ≤ (w5.alloc _).heap.size; simp; omega) (fun g h9 => by have := (hrow g h9).1; omega)
        have X6 : Hid (Box w6 w2.heap.size [.string folder, .int .i64 fv, .int .i64 fx, .slice ax ml cx]) := Box.grown (w := (w5.alloc (.cells #[.int .i64 (un : Int), .int .i64 (q - 48), .string tx] 37)).drew) (X4.out.below AL5.drew) hgrow6 (fun h9 => by have := (hrow _ h9).2; omega)
        have K6 : Hid (DeskH w6 M D) := by
          obtain ⟨k1, ⟨cl, k2⟩, k3, _⟩ := D5
          exact ⟨Box.grown (w := (w5.alloc (.cells #[.int .i64 (un : Int), .int .i64 (q - 48), .string tx] 37)).drew) k1 hgrow6 (fun h9 => by have := (hrow _ h9).1; omega), ⟨cl, MapIs.grown (w := (w5.alloc (.cells #[.int .i64 (un : Int), .int .i64 (q - 48), .string tx] 37)).drew) k2 hgrow6 (fun h9 => by have := (hrow _ h9).1; omega)⟩, own_grown (w := (w5.alloc (.cells #[.int .i64 (un : Int), .int .i64 (q - 48), .string tx] 37)).drew) k3 hgrow6 (fun g h9 h7 => own_ne k3 (HO4.out.alloc _) (by decide) g h9 h7)⟩
        have R6 : Hid (∀ z ∈ D.X, z.k ≠ folderK D.user folder → w6.ownsRow (M + 2) 37 3 z.v z.mails.length (cellsMl z.mails) ∧ ∀ g, z.v.ownBlock = some g → Value.ownBlock (.slice a6 (ml + 1) c6) ≠ some g) := fun z hz hzk => by
          have k4 := D5.2.2.2
          have kd : ∀ g, z.v.ownBlock = some g → Value.ownBlock (.slice ax ml cx) ≠ some g := fun g h9 => by
            have := rows_apart k4 HXX.out.1 hz hzk g h9
            rwa [HXX.out.2.2.1] at this
          refine ⟨own_grown (w := (w5.alloc (.cells #[.int .i64 (un : Int), .int .i64 (q - 48), .string tx] 37)).drew) (k4.1 z hz) hgrow6 kd, fun g h9 h7 => ?_⟩
          rcases hloc6 with h5 | h5
          · rw [h5] at h7; exact kd g h9 h7
          · have h6 := h5 g h7
            have h4 := ((k4.1 z hz).lt g h9).2
            have h3 : (w5.alloc (.cells #[.int .i64 (un : Int), .int .i64 (q - 48), .string tx] 37)).drew.heap.size ≤ g := h6
            have h2 : (w5.alloc (.cells #[.int .i64 (un : Int), .int .i64 (q - 48), .string tx] 37)).drew.heap.size = (w5.alloc (.cells #[.int .i64 (un : Int), .int .i64 (q - 48), .string tx] 37)).heap.size := rfl
            omega
        have O6 : Hid (w6.ownsRow (M + 2) 37 3 (.slice a6 (ml + 1) c6) (ml + 1) (cellsMl (x.mails ++ [((un : Int), q - 48, tx)]))) := by
          show w6.ownsRow _ _ _ _ _ _
          rw [cellsMl_append]
          exact hown6
        have L6 : Hid (∀ g, Value.ownBlock (.slice a6 (ml + 1) c6) = some g → g ≠ w2.heap.size) := fun g h9 h7 => by
          rcases hloc6 with h5 | h5
          · rw [h5] at h9; have := (hrow g h9).2; omega
          · have h6 := h5 g h9
            have h3 : (w5.alloc (.cells #[.int .i64 (un : Int), .int .i64 (q - 48), .string tx] 37)).drew.heap.size ≤ g := h6
            have h2 : (w5.alloc (.cells #[.int .i64 (un : Int), .int .i64 (q - 48), .string tx] 37)).drew.heap.size = w5.heap.size + 1 := by show (w5.alloc _).heap.size = _; simp
            have h4 := SZ4.out
            omega
        have SZ6 : Hid (w2.heap.size < w6.heap.size) := World.block_lt_of_cell? _ _ (X6.out 0 _ rfl).1
        obtain ⟨e6, f6⟩ := X6.out 3 _ rfl
        clear hown6 hgrow6 hloc6 hl6 D5 hrow AL5
        refine hK _ _ trivial (fun hHeld => ?_)
        clear hK K
        refine tkA (i := 9) (v := .pointer (some ⟨w2.heap.size, 3, none⟩)) ?_ hHeld ?_
        · intro w9 hSw
          go_simp
        simp only [Act.put, List.setIfInBounds_toArray, List.set_cons_zero, List.set_cons_succ]
        refine wpAnyH_ready (rs := [10]) (by kernel_rfl) (by simp) ?_
        refine AllReadyH.cons rfl (fun K hK => ?_) AllReadyH.nil
        go_simp
        refine hK _ _ trivial (fun hHeld => ?_)
        clear hK K
        refine wpAnyH_done (by kernel_rfl) ?_ _
        refine NoPanic.normal ?_
        clear hHeld
        have X7 : Box (w6.setCell ⟨w2.heap.size, 3, none⟩ (.slice a6 (ml + 1) c6)) w2.heap.size [.string folder, .int .i64 fv, .int .i64 fx, .slice a6 (ml + 1) c6] := X6.out.set 3 _
        have hold : ∀ z ∈ D.X, z.v.ownBlock ≠ some w2.heap.size := fun z hz h9 => by
          have h7 := ((HD.out.2.2.2.1 z hz).lt _ h9).2
          have h5 := SZ2.out.2
          omega
        have hasd : D.va.ownBlock ≠ some w2.heap.size := fun h9 => by
          have h7 := (HD.out.2.2.1.lt _ h9).2
          have h5 := SZ2.out.2
          omega
        have K7 : Hid (DeskH (w6.setCell ⟨w2.heap.size, 3, none⟩ (.slice a6 (ml + 1) c6)) M D) := by
          obtain ⟨k1, ⟨cl, k2⟩, k3⟩ := K6.out
          have h5 := SZ2.out.2
          exact ⟨box_far k1 _ _ (by show M + 1 ≠ w2.heap.size; omega), ⟨cl, k2.setCell _ _ (by show M ≠ w2.heap.size; omega)⟩, own_setOther k3 hasd _⟩
        have R7 : Hid (∀ clock, Rows (w6.setCell ⟨w2.heap.size, 3, none⟩ (.slice a6 (ml + 1) c6)) M (setX ⟨folderK D.user folder, 0, folder, fv, fx, .slice a6 (ml + 1) c6, x.mails ++ [((un : Int), q - 48, tx)]⟩ clock D.X)) := fun clock => by
          have hx9 : x.mails.length = ml := by have h9 := HO4.out.1; rw [cellsMl_length] at h9; omega
          refine rows_set' (fun z hz hzk => own_setOther (R6.out z hz hzk).1 (hold z hz) _) HD.out.2.2.2.2 ?_ (HV.out.1.nodup HV.out.2) (fun z hz hzk => (R6.out z hz hzk).2) clock
          rw [List.length_append, List.length_singleton, hx9]
          exact own_setOther O6.out (fun h9 => L6.out _ h9 rfl) _
        have B7 : Hid (Below M w (w6.setCell ⟨w2.heap.size, 3, none⟩ (.slice a6 (ml + 1) c6))) := B6.out.setCell (by have h5 := SZ2.out.2; show M ≤ w2.heap.size; omega) _
        have HTK : Hid (fmX ⟨folderK D.user folder, 0, folder, fv, fx, .slice a6 (ml + 1) c6, x.mails ++ [((un : Int), q - 48, tx)]⟩ = { f with mails := f.mails ++ [((un : Int), q - 48, tx)] }) := by
          show FM.mk folder fv fx (x.mails ++ [((un : Int), q - 48, tx)]) = FM.mk f.name f.val f.next (f.mails ++ [((un : Int), q - 48, tx)])
          have h9 : x.mails = f.mails := by rw [← HXX.out.2.1]
          rw [HXX.out.2.2.2, HFV.out.1, HFV.out.2, h9]
        obtain ⟨g0, _⟩ := X7 0 _ rfl
        obtain ⟨g1, _⟩ := X7 1 _ rfl
        obtain ⟨g2, _⟩ := X7 2 _ rfl
        obtain ⟨g3, _⟩ := X7 3 _ rfl
        clear X7 hold hasd e3 e3' e6 f6
        go_wp2_with fail
        refine (putI ⟨folderK D.user folder, 0, folder, fv, fx, .slice a6 (ml + 1) c6, x.mails ++ [((un : Int), q - 48, tx)]⟩ folder fv fx a6 (ml + 1) c6 _ M D rfl (by omega) (by omega) K7.out R7.out).mono ?_
        rintro e w8 ⟨rfl, hd8, hb8⟩
        have B8 : Hid (Below M w w8) := B7.out.trans hb8
        have HT8 : Hid (Taken w8 M D fs (mailO f digits.data.toList v)) := fun g h9 => by
          obtain ⟨clock, hd⟩ := hd8
          rw [HMS.out] at h9
          cases h9
          refine ⟨_, hd, ?_⟩
          rw [← HTK.out]
          exact HV.out.1.put (y := ⟨folderK D.user folder, 0, folder, fv, fx, .slice a6 (ml + 1) c6, x.mails ++ [((un : Int), q - 48, tx)]⟩) rfl clock
        clear hd8 hb8 g0 g1 g2 g3
        go_wp2_with fail
        go_ret
        exact ⟨ret_bool HZ.out, HT8.out, B8.out⟩
/-- What lies aside, the word, the folders. -/
structure SM where
  (aside : List PM) (word : ByteArray) (fs : List FM)
def asideM (S : SM) (p : PM) : Option SM := some { S with aside := S.aside ++ [p] }
def userM (u : ByteArray) (S : SM) (v : ByteArray) : Option SM := if (shortB u && shortB v) = true then some { S with word := v } else none
def putM (S : SM) (o : Option FM) : Option SM := o.map fun f => { S with fs := putF f S.fs }
def takeP (nx : Int) (u : ByteArray) (S : SM) (p : PM) : List (List UInt8) → Option SM
  | [a, b] => if bs b = u ∧ a = [117] then userM u S p.2 else asideM S p
  | [a, b, c] => if bs b = u ∧ a = [102] then putM S (folderM nx (bs c) p.2) else asideM S p
  | [a, b, c, d] => if bs b = u ∧ a = [109] then putM S (mailM S.fs (bs c) (bs d) p.2) else asideM S p
  | _ => asideM S p
def takeM (nx : Int) (u : ByteArray) (S : SM) (p : PM) : Option SM := takeP nx u S p (splitL 47 p.1.data.toList)
/-- A desk as it is told. -/
def StAt (w : World) (M : Nat) (a : Option Addr) (n c : Nat) (nx : Int) (u : ByteArray) (S : SM) (k : Nat) : Prop :=
  ∃ va X, DeskAt w M ⟨a, n, c, va, S.aside, nx, u, S.word, X⟩ ∧ View u X S.fs ∧ (S.fs.map (·.name)).Nodup ∧ (∀ f ∈ S.fs, 1 ≤ f.next ∧ f.next ≤ 999 ∧ f.mails.length ≤ k) ∧ S.aside.length ≤ k
theorem StAt.later {w w' : World} {M : Nat} {a : Option Addr} {n c : Nat} {nx : Int} {u : ByteArray} {S : SM} {k : Nat} (h : StAt w M a n c nx u S k) (hb : Below w.heap.size w w') : StAt w' M a n c nx u S k := by
  obtain ⟨va, X, h1, h2⟩ := h
  exact ⟨va, X, h1.later hb, h2⟩
theorem putF_mem {g f : FM} : ∀ {fs : List FM}, f ∈ putF g fs → f ∈ fs ∨ f = g
  | [], h => by
    simp only [putF, List.mem_singleton] at h
    exact .inr h
  | x :: fs, h => by
    unfold putF at h
    by_cases e : x.name = g.name
    · rw [if_pos e] at h
      rcases List.mem_cons.1 h with rfl | h
      · exact .inr rfl
      · exact .inl (List.mem_cons_of_mem _ h)
    · rw [if_neg e] at h
      rcases List.mem_cons.1 h with rfl | h
      · exact .inl List.mem_cons_self
      · rcases putF_mem h with h | h
        · exact .inl (List.mem_cons_of_mem _ h)
        · exact .inr h
theorem putF_names {g : FM} : ∀ {fs : List FM}, (fs.map (·.name)).Nodup → ((putF g fs).map (·.name)).Nodup
  | [], _ => by simp [putF]
  | x :: fs, h => by
    rw [List.map_cons, List.nodup_cons] at h
    unfold putF
    by_cases e : x.name = g.name
    · rw [if_pos e, List.map_cons, List.nodup_cons, ← e]
      exact h
    · rw [if_neg e, List.map_cons, List.nodup_cons]
      refine ⟨fun h9 => ?_, putF_names h.2⟩
      obtain ⟨z, hz, hz2⟩ := List.mem_map.1 h9
      rcases putF_mem hz with hz | rfl
      · exact h.1 (List.mem_map.2 ⟨z, hz, hz2⟩)
      · exact e hz2.symm
theorem folderM_facts {nx : Int} {name v : ByteArray} {f : FM} (h : folderM nx name v = some f) : 1 ≤ f.next ∧ f.next ≤ 999 ∧ f.mails.length = 0 := by
  unfold folderM folderN at h
  split at h
  · split at h
    · rename_i h9
      cases h
      exact ⟨h9.2.2.2.1, h9.2.2.2.2, rfl⟩
    · cases h
  · cases h
theorem mailM_facts {fs : List FM} {folder digits v : ByteArray} {g : FM} {k : Nat} (hf : ∀ f ∈ fs, 1 ≤ f.next ∧ f.next ≤ 999 ∧ f.mails.length ≤ k) (h : mailM fs folder digits v = some g) : 1 ≤ g.next ∧ g.next ≤ 999 ∧ g.mails.length ≤ k + 1 := by
  unfold mailM at h
  obtain ⟨f, h1, h2⟩ := Option.bind_eq_some_iff.1 h
  obtain ⟨u, _, _, _, _, _, _, _, _, rfl⟩ := mailO_some h2
  have := hf f (lookF_mem h1).1
  refine ⟨this.1, this.2.1, ?_⟩
  show (f.mails ++ [_]).length ≤ k + 1
  rw [List.length_append, List.length_singleton]
  omega
theorem st_put {w : World} {M : Nat} {D : DK} {S : SM} {k : Nat} {o : Option FM} (hT : Taken w M D S.fs o) (ha : D.aside = S.aside) (hw : D.word = S.word) (hn : (S.fs.map (·.name)).Nodup) (hf : ∀ f ∈ S.fs, 1 ≤ f.next ∧ f.next ≤ 999 ∧ f.mails.length ≤ k) (hk : S.aside.length ≤ k) (ho : ∀ f, o = some f → 1 ≤ f.next ∧ f.next ≤ 999 ∧ f.mails.length ≤ k + 1) :
    ∀ S', putM S o = some S' → StAt w M D.a D.n D.c D.next D.user S' (k + 1) := by
  intro S' h
  unfold putM at h
  obtain ⟨f, rfl, rfl⟩ := Option.map_eq_some_iff.1 h
  obtain ⟨X', h1, h2⟩ := hT f rfl
  refine ⟨D.va, X', ?_, h2, putF_names hn, fun g hg => ?_, by show S.aside.length ≤ k + 1; omega⟩
  · obtain ⟨a, n, c, va, sd, nx, u, wd, X⟩ := D
    simp only at ha hw
    subst ha hw
    exact h1
  · rcases putF_mem hg with hg | rfl
    · have := hf g hg; omega
    · exact ho _ rfl
theorem src_oneP {w : World} {x y : ByteArray} {B ty : Nat} (hB : B = w.heap.size) : Src (w.alloc (.cells #[.string x, .string y] ty)) (some ⟨B, 0, none⟩) (cellsP [(x, y)]) := by
  have hb : Box (w.alloc (.cells #[.string x, .string y] ty)) B [.string x, .string y] := Box.new hB
  refine .inr ⟨B, 0, rfl, fun k hk => ?_⟩
  have hk3 : k < 2 := hk
  rw [Nat.zero_add]
  match k, hk3 with
  | 0, _ => exact (hb 0 _ rfl).1
  | 1, _ => exact (hb 1 _ rfl).1
theorem splitI (s : ByteArray) (w : World) (hs : s.size ≤ 1048576) (hg : Gl w) : Calls Tryz.prog 145 #[.string s, .string ⟨#[47]⟩] w fun e w' => e = .returned (.slice (some ⟨w.heap.size, 0, none⟩) (splitL 47 s.data.toList).length (splitL 47 s.data.toList).length) ∧ Src w' (some ⟨w.heap.size, 0, none⟩) (cellsS ((splitL 47 s.data.toList).map bs)) ∧ Below w.heap.size w w' := by
  obtain ⟨m, hm⟩ := hg.2.2.1
  refine (Tryz.strings_Split s ⟨#[47]⟩ m w (by omega) hm (by decide)).mono ?_
  rintro e w' ⟨rfl, rfl⟩
  have h1 : splitB ⟨#[47]⟩ 0 (countB s ⟨#[47]⟩) s = (splitL 47 s.data.toList).map bs := splitB_eq 47 s
  have h2 : countB s ⟨#[47]⟩ + 1 = ((splitL 47 s.data.toList).map bs).length := countB_eq 47 s
  rw [List.length_map] at h2
  rw [h1, h2]
  refine ⟨rfl, ?_, (Below.refl _ _).alloc (Nat.le_refl _) _⟩
  have hb : Box (w.alloc (.cells (((splitL 47 s.data.toList).map bs).map Value.string).toArray 9)) w.heap.size (((splitL 47 s.data.toList).map bs).map Value.string) := Box.new rfl
  refine .inr ⟨w.heap.size, 0, rfl, fun j hj => ?_⟩
  rw [Nat.zero_add]
  exact (hb j _ (by
    show (cellsS ((splitL 47 s.data.toList).map bs))[j]? = some ((cellsS ((splitL 47 s.data.toList).map bs)).getD j undef)
    rw [List.getD_eq_getElem?_getD, List.getElem?_eq_getElem hj]
    rfl)).1
end Go.Proofs.YthgbclipknfmjaaGreatDoor
