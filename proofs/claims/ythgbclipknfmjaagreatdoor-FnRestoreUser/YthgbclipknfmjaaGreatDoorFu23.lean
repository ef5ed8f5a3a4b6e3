/-
  Fot Kep Emi Rui in one. By an AI agent.
-/
import Derived.Test.YthgbclipknfmjaaGreatDoorFu18
import Derived.Test.YthgbclipknfmjaaGreatDoorFu21
import Derived.Test.YthgbclipknfmjaaGreatDoorFu20
namespace Go.Proofs.YthgbclipknfmjaaGreatDoor
open Go.ChangeShapes Go.WideShapes Go.ChangeAt Go.RowKit Go.Deep Go.Lib
set_option linter.unusedVariables false
set_option linter.unusedSimpArgs false
set_option maxRecDepth 100000

set_option maxHeartbeats 4000000 in
theorem implFolderAt (a : Option Addr) (n c : Nat) (L : List PM) (x y : ByteArray) (w : World) (hL : L.length = n) (hn : n ≤ 1048576) (hs : ∀ x ∈ L, x.1.size ≤ 1048576 ∧ x.2.size ≤ 1048576) (h : Src w a (cellsP L)) (hx : x.size ≤ 1048576) (hy : y.size ≤ 1048576) (hG : Gl w) (h8 : 8 ≤ w.heap.size) :
    Calls Tryz.prog 10 #[.slice a n c, .string x, .string y] w fun e w' => ∃ nm va nx a' n' c' R q, e = .returned (.tuple #[.agg #[.string nm, .int .i64 va, .int .i64 nx, .slice a' n' c'], .int .i64 q]) ∧ faM L x y = ((nm, va, nx, R), q) ∧ R.length = n' ∧ w'.ownsRow w.heap.size 37 3 (.slice a' n' c') n' (cellsMl R) ∧ Below w.heap.size w w' := by
  have HLN : Hid (L.length = n) := hL
  have HS : Hid (Src w a (cellsP L)) := h
  have AL : Hid (Below w.heap.size w (w.alloc (.cells #[.string ⟨#[]⟩, .int .i64 0, .int .i64 0, .slice none 0 0] 28))) := (Below.refl _ _).alloc (Nat.le_refl _) _
  have AN : Hid (Below w.heap.size w ((w.alloc (.cells #[.string ⟨#[]⟩, .int .i64 0, .int .i64 0, .slice none 0 0] 28)).alloc (.cells #[.string x, .string y] 9))) := AL.out.alloc (by simp) _
  have XN : Hid (Box ((w.alloc (.cells #[.string ⟨#[]⟩, .int .i64 0, .int .i64 0, .slice none 0 0] 28)).alloc (.cells #[.string x, .string y] 9)) w.heap.size [.string ⟨#[]⟩, .int .i64 0, .int .i64 0, .slice none 0 0]) := (Box.new rfl).old _
  have ZN : Hid (w.heap.size < ((w.alloc (.cells #[.string ⟨#[]⟩, .int .i64 0, .int .i64 0, .slice none 0 0] 28)).alloc (.cells #[.string x, .string y] 9)).heap.size) := by show w.heap.size < ((w.alloc (.cells #[.string ⟨#[]⟩, .int .i64 0, .int .i64 0, .slice none 0 0] 28)).alloc (.cells #[.string x, .string y] 9)).heap.size; simp; omega
  obtain ⟨q, hq⟩ : ∃ q, askM L [x, y] = q := ⟨_, rfl⟩
  have HQQ : Hid (askM L [x, y] = q) := hq
  have CA := mailFaultI a n c L (some ⟨w.heap.size + 1, 0, none⟩) 2 2 [x, y] ((w.alloc (.cells #[.string ⟨#[]⟩, .int .i64 0, .int .i64 0, .slice none 0 0] 28)).alloc (.cells #[.string x, .string y] 9)) hL hn hs (HS.out.below AN.out) rfl (by omega) (fun s hs => by
    rcases List.mem_cons.1 hs with rfl | hs
    · exact hx
    · rw [List.mem_singleton.1 hs]; exact hy) (src_2S (by simp)) (hG.below h8 AN.out) (by have := AN.out.size; omega) q hq
  have HG : Hid (Gl w) := hG
  clear hL h hs hq hG
  by_cases hq0 : q = 0
  case neg =>
    have hqi : (q != 0) = true := by simpa using hq0
    have HE : Hid (faM L x y = ((⟨#[]⟩, 0, 0, []), q)) := fa_ask HQQ.out hq0
    clear hq0
    go_enter Tryz.func10, Tryz.ntmps10
    go_wp2_with fail
    refine CA.mono ?_
    rintro e w3 ⟨rfl, hb3⟩
    have B3 : Hid (Below w.heap.size w w3) := AN.out.trans (hb3.mono AN.out.size)
    have X3 : Hid (Box w3 w.heap.size [.string ⟨#[]⟩, .int .i64 0, .int .i64 0, .slice none 0 0]) := Box.below XN.out hb3
    have Z3 : Hid (w.heap.size < w3.heap.size) := Nat.lt_of_lt_of_le ZN.out hb3.size
    clear hb3 CA

    obtain ⟨p0, pf0⟩ := (X3.out) 0 _ rfl
    obtain ⟨p1, pf1⟩ := ((X3.out).set 0 (.string ⟨#[]⟩)) 1 _ rfl
    obtain ⟨p2, pf2⟩ := (((X3.out).set 0 (.string ⟨#[]⟩)).set 1 (.int .i64 0)) 2 _ rfl
    obtain ⟨p3, pf3⟩ := ((((X3.out).set 0 (.string ⟨#[]⟩)).set 1 (.int .i64 0)).set 2 (.int .i64 0)) 3 _ rfl
    have X8 := ((((X3.out).set 0 (.string ⟨#[]⟩)).set 1 (.int .i64 0)).set 2 (.int .i64 0)).set 3 (.slice none 0 0)
    obtain ⟨r0, _⟩ := X8 0 _ rfl
    obtain ⟨r1, _⟩ := X8 1 _ rfl
    obtain ⟨r2, _⟩ := X8 2 _ rfl
    obtain ⟨r3, _⟩ := X8 3 _ rfl
    clear X8
    have BE : Hid (Below w.heap.size w ((((w3.setCell ⟨w.heap.size, 0, none⟩ (.string ⟨#[]⟩)).setCell ⟨w.heap.size, 1, none⟩ (.int .i64 0)).setCell ⟨w.heap.size, 2, none⟩ (.int .i64 0)).setCell ⟨w.heap.size, 3, none⟩ (.slice none 0 0))) := (((B3.out.setCell (Nat.le_refl _) _).setCell (Nat.le_refl _) _).setCell (Nat.le_refl _) _).setCell (Nat.le_refl _) _
    go_wp2_with fail
    exact bodyPost_ret (v := .tuple #[.agg #[.string ⟨#[]⟩, .int .i64 0, .int .i64 0, .slice none 0 0], .int .i64 q]) (by simp [results, Tryz.results10, go_sem, r0, r1, r2, r3]) rfl ⟨_, _, _, _, _, _, [], _, rfl, HE.out, rfl, World.ownsRow_nil _ _ _ _, BE.out⟩

  subst hq0
  obtain ⟨hst, hsx, hsy⟩ := ask_zero2 HQQ.out
  have hus := word_slash hsx
  have hfs := word_slash hsy
  have hu8 := short_size hsx
  have hy8 := short_size hsy
  have CD := fun W (hW : Below w.heap.size w W) => deskWithI a n c L x W HLN.out (HS.out.below hW) (HG.out.below h8 hW) (by have := hW.size; omega) hst hus (by omega)
  have HFA : Hid (∀ S, takeAll (nextM L) x S0 L = some S → lackM S.word S.fs [y] = knownR L x y ∧ faM L x y = (faG (lookF y S.fs), knownR L x y)) := fun S hS => ⟨lack_known hst hus hfs hS, fa_desk HQQ.out hS⟩
  obtain ⟨nx, hnx⟩ : ∃ z, nextM L = z := ⟨_, rfl⟩
  simp only [hnx] at CD HFA
  clear hst hsx hsy hus hfs hnx
  go_enter Tryz.func10, Tryz.ntmps10
  go_wp2_with fail
  refine CA.mono ?_
  rintro e w3 ⟨rfl, hb3⟩
  have B3 : Hid (Below w.heap.size w w3) := AN.out.trans (hb3.mono AN.out.size)
  have X3 : Hid (Box w3 w.heap.size [.string ⟨#[]⟩, .int .i64 0, .int .i64 0, .slice none 0 0]) := Box.below XN.out hb3
  have Z3 : Hid (w.heap.size < w3.heap.size) := Nat.lt_of_lt_of_le ZN.out hb3.size
  clear hb3 CA

  have CD3 := CD w3 B3.out
  clear CD
  go_wp2_with fail
  refine CD3.mono ?_
  rintro e w5 ⟨M, S, rfl, hS, hSt, hM, hb5⟩
  have B5 : Hid (Below w.heap.size w w5) := B3.out.trans (hb5.mono B3.out.size)
  have X5 : Hid (Box w5 w.heap.size [.string ⟨#[]⟩, .int .i64 0, .int .i64 0, .slice none 0 0]) := Box.below X3.out hb5
  have ZM : Hid (w.heap.size < M + 2) := by have h9 := Z3.out; show w.heap.size < M + 2; omega
  obtain ⟨k1, k2⟩ := HFA.out S hS
  obtain ⟨va0, X, hD, nm, v1, v2, a', n', c', R, hat, hR, hown, hfg⟩ := at_pack hSt y
  have CT := atI y w5 M ⟨a, n, c, va0, S.aside, nx, x, S.word, X⟩ (by omega) (by show x.size ≤ _; omega) hD
  have hat2 : atX (lookX (folderK x y) X) = .agg #[.string nm, .int .i64 v1, .int .i64 v2, .slice a' n' c'] := hat
  have CT2 : Calls Tryz.prog 38 #[.pointer (some ⟨M + 1, 0, none⟩), .string y] w5 fun e w' => e = .returned (.agg #[.string nm, .int .i64 v1, .int .i64 v2, .slice a' n' c']) ∧ Below w5.heap.size w5 w' := by rw [← hat2]; exact CT
  obtain ⟨kk, hkk⟩ : ∃ z, knownR L x y = z := ⟨_, rfl⟩
  have HE : Hid (faM L x y = ((nm, v1, v2, R), kk)) := by show _ = _; rw [k2, hfg, hkk]
  have HGM : Hid (R.length = n') := hR
  have O5 : Hid (w5.ownsRow (M + 2) 37 3 (.slice a' n' c') n' (cellsMl R)) := hown
  have HST : Hid (StAt w5 M a n c nx x S n) := hSt
  have hk1 : lackM S.word S.fs [y] = kk := by rw [k1, hkk]
  have CL := fun W (hW : Below w5.heap.size w5 W) => lacksI (W.alloc (.cells #[.string y] 9)) M a n c nx x S n (hSt.later (hW.alloc hW.size _)) (by omega) (some ⟨W.heap.size, 0, none⟩) 1 1 [y] rfl (by omega) (fun s hs => by rw [List.mem_singleton.1 hs]; omega) (src_1S rfl) kk hk1
  have hB5 : Hid (M + 2 ≤ w5.heap.size) := by
    have h9 : M + 1 < w5.heap.size := World.block_lt_of_cell? _ _ (hD.1 0 _ rfl).1
    show M + 2 ≤ w5.heap.size
    omega
  clear hS hSt hb5 CD3 k1 k2 hD hat hR hown hfg CT hat2 hkk hk1 HFA hM
  go_wp2_with fail
  refine CT2.mono ?_
  rintro e w6 ⟨rfl, hb6⟩
  have CL6 := CL w6 hb6
  have B6 : Hid (Below w.heap.size w w6) := B5.out.trans (hb6.mono B5.out.size)
  have X6 : Hid (Box w6 w.heap.size [.string ⟨#[]⟩, .int .i64 0, .int .i64 0, .slice none 0 0]) := Box.below X5.out hb6
  have O6 : Hid (w6.ownsRow (M + 2) 37 3 (.slice a' n' c') n' (cellsMl R)) := own_below O5.out hb6
  clear hb6 CT2 CL
  go_wp2_with fail
  refine CL6.mono ?_
  rintro e w7 ⟨rfl, hb7⟩
  have A7 : Hid (Below w6.heap.size w6 (w6.alloc (.cells #[.string y] 9))) := (Below.refl _ _).alloc (Nat.le_refl _) _
  have B67 : Hid (Below w6.heap.size w6 w7) := A7.out.trans (hb7.mono A7.out.size)
  have B7 : Hid (Below w.heap.size w w7) := B6.out.trans (B67.out.mono B6.out.size)
  have X7 : Hid (Box w7 w.heap.size [.string ⟨#[]⟩, .int .i64 0, .int .i64 0, .slice none 0 0]) := Box.below X6.out B67.out
  have O7 : Hid (w7.ownsRow (M + 2) 37 3 (.slice a' n' c') n' (cellsMl R)) := own_below O6.out B67.out
  clear hb7 CL6
  obtain ⟨p0, pf0⟩ := (X7.out) 0 _ rfl
  obtain ⟨p1, pf1⟩ := ((X7.out).set 0 (.string nm)) 1 _ rfl
  obtain ⟨p2, pf2⟩ := (((X7.out).set 0 (.string nm)).set 1 (.int .i64 v1)) 2 _ rfl
  obtain ⟨p3, pf3⟩ := ((((X7.out).set 0 (.string nm)).set 1 (.int .i64 v1)).set 2 (.int .i64 v2)) 3 _ rfl
  have X8 := ((((X7.out).set 0 (.string nm)).set 1 (.int .i64 v1)).set 2 (.int .i64 v2)).set 3 (.slice a' n' c')
  obtain ⟨r0, _⟩ := X8 0 _ rfl
  obtain ⟨r1, _⟩ := X8 1 _ rfl
  obtain ⟨r2, _⟩ := X8 2 _ rfl
  obtain ⟨r3, _⟩ := X8 3 _ rfl
  clear X8
  have BE : Hid (Below w.heap.size w ((((w7.setCell ⟨w.heap.size, 0, none⟩ (.string nm)).setCell ⟨w.heap.size, 1, none⟩ (.int .i64 v1)).setCell ⟨w.heap.size, 2, none⟩ (.int .i64 v2)).setCell ⟨w.heap.size, 3, none⟩ (.slice a' n' c'))) := (((B7.out.setCell (Nat.le_refl _) _).setCell (Nat.le_refl _) _).setCell (Nat.le_refl _) _).setCell (Nat.le_refl _) _
  have OE : Hid (((((w7.setCell ⟨w.heap.size, 0, none⟩ (.string nm)).setCell ⟨w.heap.size, 1, none⟩ (.int .i64 v1)).setCell ⟨w.heap.size, 2, none⟩ (.int .i64 v2)).setCell ⟨w.heap.size, 3, none⟩ (.slice a' n' c')).ownsRow w.heap.size 37 3 (.slice a' n' c') n' (cellsMl R)) := own_mono (own_setLow (own_setLow (own_setLow (own_setLow (O7.out) ZM.out _) ZM.out _) ZM.out _) ZM.out _) (Nat.le_of_lt ZM.out)
  go_wp2_with fail
  exact bodyPost_ret (v := .tuple #[.agg #[.string nm, .int .i64 v1, .int .i64 v2, .slice a' n' c'], .int .i64 kk]) (by simp [results, Tryz.results10, go_sem, r0, r1, r2, r3]) rfl ⟨_, _, _, _, _, _, R, _, rfl, HE.out, HGM.out, OE.out, BE.out⟩

end Go.Proofs.YthgbclipknfmjaaGreatDoor
namespace Go.Proofs.YthgbclipknfmjaaGreatDoor
open Go.ChangeShapes Go.WideShapes Go.ChangeAt Go.RowKit Go.Deep Go.Lib
open Go.ChangeMaps (setBlock)
set_option linter.unusedVariables false
set_option linter.unusedSimpArgs false
set_option maxRecDepth 100000

theorem own_keep {w w' : World} {M base e s n : Nat} {v : Value} {xs : List Value} (h : w.ownsRow base e s v n xs) (hk : Keep M w w') (hb : M + 1 < base) : w'.ownsRow base e s v n xs := by
  obtain ⟨hl, h0 | ⟨g, cap, cur, rfl, hb0, hg, rest⟩⟩ := h
  · exact ⟨hl, .inl h0⟩
  · have hlt : g < w.heap.size := (Array.getElem?_eq_some_iff.1 hg).1
    exact ⟨hl, .inr ⟨g, cap, cur, rfl, hb0, by rw [hk g hlt (by omega) (by omega)]; exact hg, rest⟩⟩
theorem box_keep {w w' : World} {M P : Nat} {vs : List Value} (h : Box w P vs) (hk : Keep M w w') (h1 : P ≠ M) (h2 : P ≠ M + 1) : Box w' P vs := fun i v hv => by
  obtain ⟨k1, k2⟩ := h i v hv
  have hb := hk P (World.block_lt_of_cell? _ _ k1) h1 h2
  exact ⟨(World.cell?_of_block (a := ⟨P, i, none⟩) hb).trans k1, (World.frozen?_of_block (a := ⟨P, i, none⟩) hb).trans k2⟩
theorem desk_keep {w w' : World} {M O : Nat} {D : DK} (h : DeskAt w O D) (hk : Keep M w w') (hO : M + 1 < O) : DeskAt w' O D := by
  obtain ⟨k1, ⟨cl, k2⟩, k3, k4⟩ := h
  have hlt : O < w.heap.size := (Array.getElem?_eq_some_iff.1 k2.1).1
  exact ⟨box_keep k1 hk (by omega) (by omega), ⟨cl, (hk O hlt (by omega) (by omega)).trans k2.1, k2.2⟩, own_keep k3 hk (by omega), fun x hx => own_keep (k4.1 x hx) hk (by omega), k4.2⟩
set_option maxHeartbeats 2000000 in
theorem dropK (f : ByteArray) (w : World) (M : Nat) (D : DK) (hf : f.size ≤ 1048576) (hu : D.user.size ≤ 1048576) (hD : DeskAt w M D) (hx : (lookX (folderK D.user f) D.X).isSome = true) :
    Calls Tryz.prog 149 #[.pointer (some ⟨M + 1, 0, none⟩), .string f] w fun e w' => e = .returned (.tuple #[]) ∧ DeskAt w' M { D with X := dropX (folderK D.user f) D.X } ∧ Below M w w' ∧ Keep M w w' := by
  obtain ⟨hbox, ⟨clock, hmap⟩, hasd, hrows⟩ := hD
  obtain ⟨p3, _⟩ := hbox 3 _ rfl
  obtain ⟨p5, _⟩ := hbox 5 _ rfl
  have hlt : M < w.heap.size := (Array.getElem?_eq_some_iff.1 hmap.1).1
  have m1 : MapIs w.drew M clock D.X := hmap
  obtain ⟨hdel, hmi⟩ := run_del m1 (folderK D.user f) hx 0
  obtain ⟨O, hO⟩ : ∃ O, (.map ((dropX (folderK D.user f) D.X).map entX).toArray clock : Obj) = O := ⟨_, rfl⟩
  rw [hO] at hdel hmi
  have CK := fun W => folderKeyI D.user f W hu hf
  obtain ⟨K9, hK9⟩ : ∃ K, folderK D.user f = K := ⟨_, rfl⟩
  have HF : Hid (DeskAt (setBlock w.drew M O) M { D with X := dropX (folderK D.user f) D.X }) :=
    ⟨box_sb (w := w.drew) hbox O (by omega), ⟨clock, hmi⟩, own_sb (w := w.drew) hasd O (by omega), fun x hx => own_sb (w := w.drew) ((rows_drop hrows _).1 x hx) O (by omega), (rows_drop hrows _).2⟩
  have HB : Hid (Below M w (setBlock w.drew M O)) := (Below.refl _ _).drew.trans (sb_below _ M O)
  have HOW : Hid (Keep M w (setBlock w.drew M O)) := fun B hB h9 _ => sb_block w.drew M B O h9
  have HS : Hid ((setBlock w.drew M O).cell? ⟨M + 1, 3, none⟩ = some (.string D.user) ∧ (setBlock w.drew M O).cell? ⟨M + 1, 5, none⟩ = some (.map (some M))) := by
    have hx := box_sb (w := w.drew) (M := M) hbox O (by omega)
    exact ⟨(hx 3 _ rfl).1, (hx 5 _ rfl).1⟩
  rw [hK9] at hdel
  simp only [hK9] at CK
  obtain ⟨us, hus⟩ : ∃ x, D.user = x := ⟨_, rfl⟩
  have p3' : w.cell? ⟨M + 1, 3, none⟩ = some (.string us) := by rw [← hus]; exact p3
  rw [hus] at HS
  simp only [hus] at CK
  clear hbox hmap hasd hrows m1 hmi hO hK9 hx hus p3
  go_enter Tryz.func149, Tryz.ntmps149
  go_wp2_with fail
  refine wp_region_noPanic ?_
  refine wp_region_held_drew (S := fun w' => w'.cell? ⟨M + 1, 3, none⟩ = some (.string us) ∧ w'.cell? ⟨M + 1, 5, none⟩ = some (.map (some M))) (by kernel_rfl) ⟨p3', p5⟩ (fun hHeld => ?_)
  refine tkA (i := 0) (v := .pointer (some ⟨M + 1, 0, none⟩)) ?_ hHeld ?_
  · intro w9 hSw
    obtain ⟨z0, z1⟩ := hSw
    go_simp
  simp only [Act.put, List.setIfInBounds_toArray, List.set_cons_zero, List.set_cons_succ]
  refine tkA (i := 1) (v := .pointer (some ⟨M + 1, 0, none⟩)) ?_ hHeld ?_
  · intro w9 hSw
    obtain ⟨z0, z1⟩ := hSw
    go_simp
  simp only [Act.put, List.setIfInBounds_toArray, List.set_cons_zero, List.set_cons_succ]
  refine tkA (i := 2) (v := .pointer (some ⟨M + 1, 5, none⟩)) ?_ hHeld ?_
  · intro w9 hSw
    obtain ⟨z0, z1⟩ := hSw
    go_simp
  simp only [Act.put, List.setIfInBounds_toArray, List.set_cons_zero, List.set_cons_succ]
  refine tkA (i := 3) (v := .map (some M)) ?_ hHeld ?_
  · intro w9 hSw
    obtain ⟨z0, z1⟩ := hSw
    go_simp
  simp only [Act.put, List.setIfInBounds_toArray, List.set_cons_zero, List.set_cons_succ]
  refine tkA (i := 4) (v := .pointer (some ⟨M + 1, 0, none⟩)) ?_ hHeld ?_
  · intro w9 hSw
    obtain ⟨z0, z1⟩ := hSw
    go_simp
  simp only [Act.put, List.setIfInBounds_toArray, List.set_cons_zero, List.set_cons_succ]
  refine tkA (i := 5) (v := .pointer (some ⟨M + 1, 0, none⟩)) ?_ hHeld ?_
  · intro w9 hSw
    obtain ⟨z0, z1⟩ := hSw
    go_simp
  simp only [Act.put, List.setIfInBounds_toArray, List.set_cons_zero, List.set_cons_succ]
  refine tkA (i := 6) (v := .pointer (some ⟨M + 1, 3, none⟩)) ?_ hHeld ?_
  · intro w9 hSw
    obtain ⟨z0, z1⟩ := hSw
    go_simp
  simp only [Act.put, List.setIfInBounds_toArray, List.set_cons_zero, List.set_cons_succ]
  refine tkA (i := 7) (v := .string us) ?_ hHeld ?_
  · intro w9 hSw
    obtain ⟨z0, z1⟩ := hSw
    go_simp
  simp only [Act.put, List.setIfInBounds_toArray, List.set_cons_zero, List.set_cons_succ]
  refine tkA (i := 8) (v := .string f) ?_ hHeld ?_
  · intro w9 hSw
    obtain ⟨z0, z1⟩ := hSw
    go_simp
  simp only [Act.put, List.setIfInBounds_toArray, List.set_cons_zero, List.set_cons_succ]
  refine wpAnyH_ready (rs := [9]) (by kernel_rfl) (by simp) ?_
  refine AllReadyH.cons rfl (fun K hK => ?_) AllReadyH.nil
  go_simp
  refine (CK _).mono ?_
  rintro e wk ⟨rfl, hwk⟩
  obtain rfl := hwk.symm
  dsimp only
  refine hK _ _ ⟨p3', p5⟩ (fun hHeld => ?_)
  clear hK K
  refine wpAnyH_ready (rs := [10]) (by kernel_rfl) (by simp) ?_
  refine AllReadyH.cons rfl (fun K hK => ?_) AllReadyH.nil
  go_simp
  refine hK _ _ HS.out (fun hHeld => ?_)
  clear hK K
  refine wpAnyH_done (by kernel_rfl) ?_ _
  refine NoPanic.normal ?_
  clear hHeld
  go_wp2_with fail
  go_end0
  exact ⟨rfl, HF.out, HB.out, HOW.out⟩
end Go.Proofs.YthgbclipknfmjaaGreatDoor
namespace Go.Proofs.YthgbclipknfmjaaGreatDoor
open Go.ChangeShapes Go.WideShapes Go.ChangeAt Go.RowKit Go.Deep Go.Lib
set_option linter.unusedVariables false
set_option linter.unusedSimpArgs false
set_option maxRecDepth 100000

/-- A desk with these folders, whose rows are among those that were. -/
def EmAt (w : World) (M : Nat) (a : Option Addr) (n c : Nat) (va : Value) (sd : List PM) (nx : Int) (u wd : ByteArray) (fs : List FM) (k : Nat) (X0 : List FX) : Prop :=
  ∃ X, DeskAt w M ⟨a, n, c, va, sd, nx, u, wd, X⟩ ∧ View u X fs ∧ (fs.map (·.name)).Nodup ∧ (∀ f ∈ fs, 1 ≤ f.next ∧ f.next ≤ 999 ∧ f.mails.length ≤ k) ∧ ∀ z ∈ X, ∀ y, z.v.ownBlock = some y → ∃ z0 ∈ X0, z0.v.ownBlock = some y
theorem EmAt.later {w w' : World} {M : Nat} {a : Option Addr} {n c : Nat} {va : Value} {sd : List PM} {nx : Int} {u wd : ByteArray} {fs : List FM} {k : Nat} {X0 : List FX} (h : EmAt w M a n c va sd nx u wd fs k X0) (hb : Below w.heap.size w w') : EmAt w' M a n c va sd nx u wd fs k X0 := by
  obtain ⟨X, h1, h2⟩ := h
  exact ⟨X, h1.later hb, h2⟩
theorem em_take {T fs : List FM} {ns : List ByteArray} {j : Nat} {t : ByteArray} (h : j < ns.length) (ht : ns.getD j e0 = t) : emE T fs (ns.take (j + 1)) = stepE T (emE T fs (ns.take j)) t := by
  have e : ns[j] = t := by
    rw [List.getD_eq_getElem?_getD, List.getElem?_eq_getElem h] at ht
    exact ht
  unfold emE
  rw [List.take_add_one, List.getElem?_eq_getElem h, e, List.foldl_append]
  rfl
theorem em_look {T : List FM} {n : ByteArray} : ∀ {ns : List ByteArray} {fs : List FM}, n ∉ ns → lookF n (emE T fs ns) = lookF n fs
  | [], _, _ => rfl
  | m :: ns, fs, h => by
    show lookF n (emE T (stepE T fs m) ns) = _
    rw [em_look fun h9 => h (List.mem_cons_of_mem _ h9), look_stepE fun e => h (by rw [e]; exact List.mem_cons_self)]
theorem take_fresh {ns : List ByteArray} {j : Nat} {t : ByteArray} (hn : ns.Nodup) (h : j < ns.length) (ht : ns.getD j e0 = t) : t ∉ ns.take j := by
  have e : ns[j] = t := by
    rw [List.getD_eq_getElem?_getD, List.getElem?_eq_getElem h] at ht
    exact ht
  intro h9
  obtain ⟨i, hi, he⟩ := List.getElem_of_mem h9
  rw [List.length_take] at hi
  rw [List.getElem_take, ← e] at he
  have := (List.getElem_inj hn).1 he
  omega
theorem cells_sorted (R ns : List ByteArray) (h : ((R.map (·.data.toList)).mergeSort fun x y => decide (x ≤ y)) = ns.map (·.data.toList)) : R.length = ns.length ∧ (((R.map (·.data.toList)).mergeSort fun x y => decide (x ≤ y)).map encStr) = cellsS ns := by
  constructor
  · have h1 := congrArg List.length h
    rw [List.length_mergeSort, List.length_map, List.length_map] at h1
    exact h1
  · rw [h]
    unfold cellsS
    rw [List.map_map]
    exact List.map_congr_left fun x _ => rfl
theorem em_put {w : World} {M : Nat} {a : Option Addr} {n c : Nat} {va : Value} {sd : List PM} {nx : Int} {u wd t : ByteArray} {fs : List FM} {k clock : Nat} {X X0 : List FX} {gv gn : Int} (hD : DeskAt w M ⟨a, n, c, va, sd, nx, u, wd, setX ⟨folderK u t, 0, t, gv, gn, .slice none 0 0, []⟩ clock X⟩) (hV : View u X fs) (hN : (fs.map (·.name)).Nodup) (hf : ∀ f ∈ fs, 1 ≤ f.next ∧ f.next ≤ 999 ∧ f.mails.length ≤ k) (hg : 1 ≤ gn ∧ gn ≤ 999) (hap : ∀ z ∈ X, ∀ y, z.v.ownBlock = some y → ∃ z0 ∈ X0, z0.v.ownBlock = some y) : EmAt w M a n c va sd nx u wd (putF ⟨t, gv, gn, []⟩ fs) k X0 := by
  refine ⟨_, hD, hV.put (y := ⟨folderK u t, 0, t, gv, gn, .slice none 0 0, []⟩) rfl clock, putF_names hN, fun f hf9 => ?_, fun z hz y hy => ?_⟩
  · rcases putF_mem hf9 with hf9 | rfl
    · exact hf f hf9
    · exact ⟨hg.1, hg.2, Nat.zero_le _⟩
  · rcases setX_mem hz with hz | ⟨hz, _, _⟩
    · exact hap z hz y hy
    · rw [hz] at hy
      cases hy
set_option maxHeartbeats 8000000 in
theorem emptyForI (w : World) (M : Nat) (a : Option Addr) (n c : Nat) (nx : Int) (u : ByteArray) (sd : List PM) (wd : ByteArray) (fs : List FM) (k : Nat) (va : Value) (X : List FX) (hD : DeskAt w M ⟨a, n, c, va, sd, nx, u, wd, X⟩) (hV : View u X fs) (hN : (fs.map (·.name)).Nodup) (hf : ∀ f ∈ fs, 1 ≤ f.next ∧ f.next ≤ 999 ∧ f.mails.length ≤ k) (hX6 : X.length ≤ 60)
    (O : Nat) (E : DK) (hEu : E.user = u) (T : List FM) (hE : DeskAt w O E) (hW : View u E.X T) (hMO : M + 1 < O) (hu : u.size ≤ 1000)
    (ns : List ByteArray) (hns : ∀ R : List ByteArray, R.Perm (fs.map (·.name)) → ((R.map (·.data.toList)).mergeSort fun x y => decide (x ≤ y)) = ns.map (·.data.toList)) (hnd : ns.Nodup) (hnf : ∀ x ∈ ns, x.size ≤ 1000 ∧ (lookF x fs).isSome = true) (m : Nat) (hm : ns.length = m) (hm6 : m ≤ 60) :
    Calls Tryz.prog 122 #[.pointer (some ⟨M + 1, 0, none⟩), .pointer (some ⟨O + 1, 0, none⟩)] w fun e w' => e = .returned (.tuple #[]) ∧ EmAt w' M a n c va sd nx u wd (emE T fs ns) k X ∧ Below M w w' ∧ Keep M w w' := by
  have hM1 : M + 1 < w.heap.size := World.block_lt_of_cell? _ _ (hD.1 0 _ rfl).1
  have CN := namesI w M _ hD hX6
  have HVL : Hid (leftNames #[] X = fs.map (·.name)) := leftN_view hV
  have HEM : Hid (EmAt w M a n c va sd nx u wd fs k X) := ⟨X, hD, hV, hN, hf, fun z hz y hy => ⟨z, hz, hy⟩⟩
  have HE : Hid (DeskAt w O E ∧ View u E.X T ∧ E.user = u) := ⟨hE, hW, hEu⟩
  have HNS : Hid (∀ R : List ByteArray, R.Perm (fs.map (·.name)) → ((R.map (·.data.toList)).mergeSort fun x y => decide (x ≤ y)) = ns.map (·.data.toList)) := hns
  have HND : Hid (ns.Nodup ∧ (∀ x ∈ ns, x.size ≤ 1000 ∧ (lookF x fs).isSome = true) ∧ ns.length = m) := ⟨hnd, hnf, hm⟩
  clear hD hV hN hf hX6 hE hW hEu hns hnd hnf hm
  go_enter Tryz.func122, Tryz.ntmps122
  go_wp2_with fail
  refine CN.mono ?_
  rintro e w1 ⟨v1, rfl, ⟨R, hR, ow⟩, hb1⟩
  rw [HVL.out] at hR
  obtain ⟨r1, r2⟩ := cells_sorted R ns (HNS.out R hR)
  rw [r2, r1, HND.out.2.2] at ow
  obtain ⟨ab, cb, rfl, _, _⟩ := own_src ow
  have HO1 : Hid (w1.ownsRow w.heap.size 9 1 (.slice ab m cb) m (cellsS ns)) := ow
  have B1 : Hid (Below w.heap.size w w1) := hb1
  have HEM1 : Hid (EmAt w1 M a n c va sd nx u wd fs k X) := HEM.out.later hb1
  have HE1 : Hid (DeskAt w1 O E) := HE.out.1.later hb1
  clear CN hR r1 r2 ow hb1 HEM HNS HVL
  go_wp2_with fail
  go_loopw [10] (fun iv wr => ∃ j : Nat, j ≤ m ∧ iv = .int .i64 (j : Int) ∧ Hid (EmAt wr M a n c va sd nx u wd (emE T fs (ns.take j)) k X) ∧ Hid (Keep M w1 wr) ∧ Hid (Below M w1 wr)) (fun i _ => m - (RowKit.intOf i).toNat)
  case atStart => exact ⟨0, by omega, rfl, HEM1.out, (fun B hB _ _ => rfl), Below.refl _ _⟩
  case round =>
    obtain ⟨j, hj, rfl, hem, hkp, hbr⟩ := hrel
    by_cases hlt : j < m
    · have hltj : (j : Int) < (m : Int) := by omega
      have hjn : j < ns.length := by rw [HND.out.2.2]; exact hlt
      obtain ⟨a9, c9, e9, s9, _⟩ := own_src (own_keep HO1.out hkp.out hM1)
      cases e9
      obtain ⟨b', o', t, rfl, c1, hy⟩ := srcS s9 hjn
      have htm : t ∈ ns := by rw [← hy.out]; exact mem_getD ns e0 j hjn
      obtain ⟨tz, tl⟩ := HND.out.2.1 t htm
      have htl : lookF t (emE T fs (ns.take j)) = lookF t fs := em_look (take_fresh HND.out.1 hjn hy.out)
      rw [← htl] at tl
      obtain ⟨g, hg⟩ := Option.isSome_iff_exists.1 tl
      obtain ⟨hgm, hgn⟩ := lookF_mem hg
      obtain ⟨X1, hd, hv, hn, hfb, hap⟩ := hem.out
      have HST : Hid (emE T fs (ns.take (j + 1)) = if (lookF t T).isSome = true then putF ⟨t, g.val, g.next, []⟩ (emE T fs (ns.take j)) else dropF t (putF ⟨t, g.val, g.next, []⟩ (emE T fs (ns.take j)))) := by
        show _ = _
        rw [em_take hjn hy.out]
        exact stepE_some hg
      have hgb := hfb g hgm
      obtain ⟨ax, cx, hat, _, _⟩ := at_some hd hv hg
      have CT := atI t wr M ⟨a, n, c, va, sd, nx, u, wd, X1⟩ (by omega) (by show u.size ≤ 1048576; omega) hd
      obtain ⟨gv, hgv⟩ : ∃ x, g.val = x := ⟨_, rfl⟩
      obtain ⟨gx, hgx⟩ : ∃ x, g.next = x := ⟨_, rfl⟩
      obtain ⟨ml, hml⟩ : ∃ x, g.mails.length = x := ⟨_, rfl⟩
      rw [hgv, hgx] at HST
      rw [hgx] at hgb
      have CT2 : Calls Tryz.prog 38 #[.pointer (some ⟨M + 1, 0, none⟩), .string t] wr fun e w' => e = .returned (.agg #[.string t, .int .i64 gv, .int .i64 gx, .slice ax ml cx]) ∧ Below wr.heap.size wr w' := by
        have h9 : atX (lookX (folderK u t) X1) = .agg #[.string t, .int .i64 gv, .int .i64 gx, .slice ax ml cx] := by rw [← hgv, ← hgx, ← hml, ← hgn]; rw [hgn]; rw [← hgn] at hat; rw [hgn] at hat; exact hat
        rw [← h9]
        exact CT
      obtain ⟨fj, hfj⟩ : ∃ x, emE T fs (ns.take j) = x := ⟨_, rfl⟩
      rw [hfj] at HST hv hn hfb
      have HX1 : Hid (DeskAt wr M ⟨a, n, c, va, sd, nx, u, wd, X1⟩ ∧ View u X1 fj ∧ (fj.map (·.name)).Nodup ∧ (∀ f ∈ fj, 1 ≤ f.next ∧ f.next ≤ 999 ∧ f.mails.length ≤ k) ∧ ∀ z ∈ X1, ∀ y, z.v.ownBlock = some y → ∃ z0 ∈ X, z0.v.ownBlock = some y) := ⟨hd, hv, hn, hfb, hap⟩
      obtain ⟨tb, htb⟩ : ∃ x, (lookF t T).isSome = x := ⟨_, rfl⟩
      rw [htb] at HST
      have HTB : Hid ((lookF t T).isSome = tb) := htb
      have hMr : M + 1 < wr.heap.size := World.block_lt_of_cell? _ _ (hd.1 0 _ rfl).1
      clear CT hat hgv hgx hml hfj htb hd hv hn hfb hap hem hgm hgn hg htl tl htm s9
      go_wp2_with fail
      refine CT2.mono ?_
      rintro e w2 ⟨rfl, hb2⟩
      have hM2 : M + 1 < w2.heap.size := by have := hb2.size; omega
      obtain ⟨w3, hw3⟩ : ∃ W, w2.alloc (.cells #[.string t, .int .i64 gv, .int .i64 gx, .slice ax ml cx] 28) = W := ⟨_, rfl⟩
      have A3 : Below w2.heap.size w2 w3 := by rw [← hw3]; exact (Below.refl _ _).alloc (Nat.le_refl _) _
      have X3 : Box w3 w2.heap.size [.string t, .int .i64 gv, .int .i64 gx, .slice ax ml cx] := by rw [← hw3]; exact Box.new rfl
      have K3 : KindAt w3 w2.heap.size 28 := by
        rw [← hw3]
        exact ⟨_, _, Array.getElem?_push_size⟩
      have D3 := (HX1.out.1.later hb2).later A3
      have D4 : DeskAt (w3.setCell ⟨w2.heap.size, 3, none⟩ (.slice none 0 0)) M ⟨a, n, c, va, sd, nx, u, wd, X1⟩ := desk_box D3 K3 (by omega) (by omega) 3 (.slice none 0 0)
      have X4 := X3.set 3 (.slice none 0 0)
      have hKN : (X1.map (·.k)).Nodup := by
        rw [HX1.out.2.1.keys]
        exact nodup_keys HX1.out.2.2.1
      have CP := putX ⟨folderK u t, 0, t, gv, gx, .slice none 0 0, []⟩ t gv gx none 0 0 (w3.setCell ⟨w2.heap.size, 3, none⟩ (.slice none 0 0)) M ⟨a, n, c, va, sd, nx, u, wd, X1⟩ rfl (by omega) (by show u.size ≤ 1048576; omega) D4.head (fun clock => rows_set D4.2.2.2 (World.ownsRow_nil _ _ _ _) hKN (fun x hx _ y hy h9 => by cases h9) clock)
      have B4 : Hid (Below M w1 (w3.setCell ⟨w2.heap.size, 3, none⟩ (.slice none 0 0))) := hbr.out.trans ((hb2.mono (by omega)).trans ((A3.mono (by omega)).setCell (by show M ≤ w2.heap.size; omega) _))
      have KP4 : Hid (Keep M w1 (w3.setCell ⟨w2.heap.size, 3, none⟩ (.slice none 0 0))) := by
        have k2 := hkp.out.next hbr.out.size hb2
        have s2 : w1.heap.size ≤ w2.heap.size := Nat.le_trans hbr.out.size hb2.size
        exact (k2.next s2 A3).setCell _ s2 _
      obtain ⟨p3, pf3⟩ := X3 3 _ rfl
      obtain ⟨q0, _⟩ := X4 0 _ rfl
      obtain ⟨q1, _⟩ := X4 1 _ rfl
      obtain ⟨q2, _⟩ := X4 2 _ rfl
      obtain ⟨q3, _⟩ := X4 3 _ rfl
      clear A3 X3 K3 D3 D4 X4 hKN CT2 hb2
      go_wp2_with fail
      refine CP.mono ?_
      rintro e w6 ⟨rfl, ⟨clock2, hd6⟩, hb6, _, _, _, hkp6⟩
      have hem6 : EmAt w6 M a n c va sd nx u wd (putF ⟨t, gv, gx, []⟩ fj) k X := em_put hd6 HX1.out.2.1 HX1.out.2.2.1 HX1.out.2.2.2.1 ⟨hgb.1, hgb.2.1⟩ HX1.out.2.2.2.2
      have B6 : Hid (Below M w1 w6) := B4.out.trans hb6
      have KP6 : Hid (Keep M w1 w6) := KP4.out.trans B4.out.size hkp6
      have HM6 : Hid (EmAt w6 M a n c va sd nx u wd (putF ⟨t, gv, gx, []⟩ fj) k X) := hem6
      have CH := hasI t w6 O E (by omega) (by rw [HE.out.2.2]; omega) (desk_keep HE1.out KP6.out hMO) tb (by rw [HE.out.2.2]; exact HE.out.2.1.some t tb HTB.out)
      clear CP hd6 hb6 hkp6 hem6 p3 pf3 q0 q1 q2 q3 hw3 B4 KP4 hbr hkp HX1
      go_wp2_with fail
      refine CH.mono ?_
      rintro e w7 ⟨rfl, hb7⟩
      have B7 : Hid (Below M w1 w7) := B6.out.trans (hb7.mono (by
        obtain ⟨_, hz, _⟩ := HM6.out
        have h9 : M + 1 < w6.heap.size := World.block_lt_of_cell? _ _ (hz.1 0 _ rfl).1
        omega))
      have KP7 : Hid (Keep M w1 w7) := KP6.out.next B6.out.size hb7
      have HM7 : Hid (EmAt w7 M a n c va sd nx u wd (putF ⟨t, gv, gx, []⟩ fj) k X) := HM6.out.later hb7
      clear CH hb7 HM6 B6 KP6
      cases tb with
      | true =>
        have HM8 : Hid (EmAt w7 M a n c va sd nx u wd (emE T fs (ns.take (j + 1))) k X) := by
          rw [HST.out]
          exact HM7.out
        go_wp2_with fail
        exact ⟨⟨j + 1, by omega, by go_num, HM8.out, KP7.out, B7.out⟩, by simp [RowKit.intOf]; omega⟩
      | false =>
        obtain ⟨X7, hd7, hv7, hn7, hf7, hap7⟩ := HM7.out
        have CD := dropK t w7 M ⟨a, n, c, va, sd, nx, u, wd, X7⟩ (by omega) (by show u.size ≤ 1048576; omega) hd7 (hv7.some t true (by rw [lookF_put, if_pos rfl]; rfl))
        have HX7 : Hid (View u X7 (putF ⟨t, gv, gx, []⟩ fj) ∧ ((putF ⟨t, gv, gx, []⟩ fj).map (·.name)).Nodup ∧ (∀ f ∈ putF ⟨t, gv, gx, []⟩ fj, 1 ≤ f.next ∧ f.next ≤ 999 ∧ f.mails.length ≤ k) ∧ ∀ z ∈ X7, ∀ y, z.v.ownBlock = some y → ∃ z0 ∈ X, z0.v.ownBlock = some y) := ⟨hv7, hn7, hf7, hap7⟩
        clear hd7 hv7 hn7 hf7 hap7 HM7
        go_wp2_with fail
        refine CD.mono ?_
        rintro e w8 ⟨rfl, hd8, hb8, hk8⟩
        have HM8 : Hid (EmAt w8 M a n c va sd nx u wd (emE T fs (ns.take (j + 1))) k X) := by
          rw [HST.out]
          exact ⟨_, hd8, HX7.out.1.drop, HX7.out.2.1.sublist ((dropF_sub t _).map _), fun f hf => HX7.out.2.2.1 f ((dropF_sub t _).subset hf), fun z hz => HX7.out.2.2.2 z ((dropX_sub _ _).subset hz)⟩
        have B8 : Hid (Below M w1 w8) := B7.out.trans hb8
        have KP8 : Hid (Keep M w1 w8) := KP7.out.trans B7.out.size hk8
        clear CD hd8 hb8 hk8
        go_wp2_with fail
        exact ⟨⟨j + 1, by omega, by go_num, HM8.out, KP8.out, B8.out⟩, by simp [RowKit.intOf]; omega⟩
    · obtain rfl : j = m := by omega
      have hltj : ¬ (j : Int) < (j : Int) := by omega
      have HF : Hid (EmAt wr M a n c va sd nx u wd (emE T fs ns) k X ∧ Below M w wr ∧ Keep M w wr) := by
        refine ⟨?_, (B1.out.mono (by omega)).trans hbr.out, (Keep.of_below B1.out).trans B1.out.size hkp.out⟩
        have h9 := hem.out
        rw [List.take_of_length_le (by rw [HND.out.2.2]; exact Nat.le_refl _)] at h9
        exact h9
      clear hem hkp hbr
      go_wp2_with fail
      go_end0
      exact ⟨rfl, HF.out⟩
theorem at_row {w : World} {M : Nat} {D : DK} {u f : ByteArray} {fs : List FM} {g : FM} (hD : DeskAt w M D) (hV : View u D.X fs) (hl : lookF f fs = some g) : ∃ ax cx, atX (lookX (folderK u f) D.X) = .agg #[.string g.name, .int .i64 g.val, .int .i64 g.next, .slice ax g.mails.length cx] ∧ w.ownsRow (M + 2) 37 3 (.slice ax g.mails.length cx) g.mails.length (cellsMl g.mails) ∧ (∀ z ∈ D.X, z.k ≠ folderK u f → ∀ y, z.v.ownBlock = some y → Value.ownBlock (.slice ax g.mails.length cx) ≠ some y) ∧ ∃ x ∈ D.X, x.k = folderK u f ∧ x.v = .slice ax g.mails.length cx := by
  have hlx := hV.look f
  rw [hl] at hlx
  obtain ⟨x, hx1, hx2⟩ := Option.map_eq_some_iff.1 hlx
  subst hx2
  have ho := hD.2.2.2.1 x (look_mem hx1)
  obtain ⟨ax, cx, hv, _, _⟩ := own_src ho
  obtain ⟨A, B, _, _, hxk⟩ := lookX_some hx1
  refine ⟨ax, cx, ?_, ?_, fun z hz hk => ?_, x, look_mem hx1, hxk, hv⟩
  · rw [hx1]
    show valX x = _
    unfold valX
    rw [hv]
  · rw [hv] at ho
    exact ho
  · have h9 := rows_apart hD.2.2.2 hx1 hz hk
    rw [hv] at h9
    exact h9
/-- Where the rows of a desk come from. -/
def FromP (X Z : List FX) (u : ByteArray) (gs : List FM) (y : Nat) : Prop := (∃ z0 ∈ X, z0.v.ownBlock = some y) ∨ ∃ z0 ∈ Z, (∃ g ∈ gs, z0.k = folderK u g.name) ∧ z0.v.ownBlock = some y
def RuAt (w : World) (M : Nat) (a : Option Addr) (n c : Nat) (nx : Int) (u : ByteArray) (S : SM) (k : Nat) (P : Nat → Prop) : Prop :=
  ∃ va X, DeskAt w M ⟨a, n, c, va, S.aside, nx, u, S.word, X⟩ ∧ View u X S.fs ∧ (S.fs.map (·.name)).Nodup ∧ (∀ f ∈ S.fs, 1 ≤ f.next ∧ f.next ≤ 999 ∧ f.mails.length ≤ k) ∧ S.aside.length ≤ k ∧ ∀ z ∈ X, ∀ y, z.v.ownBlock = some y → P y
theorem RuAt.st {w : World} {M : Nat} {a : Option Addr} {n c : Nat} {nx : Int} {u : ByteArray} {S : SM} {k : Nat} {P : Nat → Prop} (h : RuAt w M a n c nx u S k P) : StAt w M a n c nx u S k := by
  obtain ⟨va, X, h1, h2, h3, h4, h5, _⟩ := h
  exact ⟨va, X, h1, h2, h3, h4, h5⟩
theorem RuAt.later {w w' : World} {M : Nat} {a : Option Addr} {n c : Nat} {nx : Int} {u : ByteArray} {S : SM} {k : Nat} {P : Nat → Prop} (h : RuAt w M a n c nx u S k P) (hb : Below w.heap.size w w') : RuAt w' M a n c nx u S k P := by
  obtain ⟨va, X, h1, h2⟩ := h
  exact ⟨va, X, h1.later hb, h2⟩
theorem fs_lenU {L : List PM} {u : ByteArray} {S : SM} (h : storeB L = true) (hus : (47 : UInt8) ∉ u.data.toList) (hS : takeAll (nextM L) u S0 L = some S) : S.fs.length ≤ 60 := by
  obtain ⟨S', k1, _, hI⟩ := take_all h hus
  rw [hS] at k1
  cases k1
  have hp := (List.perm_ext_iff_of_nodup (names_all (S := S0) List.nodup_nil hS) (list_nodup (u := u) h)).2 (folders_mem h hus hI)
  have h1 := hp.length_eq
  rw [List.length_map] at h1
  have h2 := (gs_len (u := u) h hus).2
  omega
theorem View.len {u : ByteArray} {X : List FX} {fs : List FM} (h : View u X fs) : X.length = fs.length := by
  have h1 := congrArg List.length h.keys
  rw [List.length_map, List.length_map] at h1
  exact h1
set_option maxHeartbeats 8000000 in
theorem restoreUserI (w : World) (M : Nat) (a : Option Addr) (n c : Nat) (nx : Int) (u : ByteArray) (S : SM) (k : Nat) (va : Value) (X : List FX) (hD : DeskAt w M ⟨a, n, c, va, S.aside, nx, u, S.word, X⟩) (hV : View u X S.fs) (hN : (S.fs.map (·.name)).Nodup) (hf : ∀ f ∈ S.fs, 1 ≤ f.next ∧ f.next ≤ 999 ∧ f.mails.length ≤ k) (hk : S.aside.length ≤ k) (hkk : k ≤ 1000) (hX6 : X.length ≤ 60)
    (O : Nat) (a2 : Option Addr) (n2 c2 : Nat) (nx2 : Int) (T : SM) (vb : Value) (Z : List FX) (hE : DeskAt w O ⟨a2, n2, c2, vb, T.aside, nx2, u, T.word, Z⟩) (hW : View u Z T.fs) (hNt : (T.fs.map (·.name)).Nodup) (hft : ∀ f ∈ T.fs, 1 ≤ f.next ∧ f.next ≤ 999 ∧ f.mails.length ≤ k) (hkt : T.aside.length ≤ k) (hZ6 : Z.length ≤ 60) (hMO : M + 1 < O) (hlt : ∀ z ∈ X, ∀ y, z.v.ownBlock = some y → y < O)
    (hus : (47 : UInt8) ∉ u.data.toList) (hu : u.size ≤ 1000) (n0 : 0 ≤ nx) (n1 : nx ≤ 10000) (hG : Gl w) (h8 : 8 ≤ M)
    (ns : List ByteArray) (hns : ∀ R : List ByteArray, R.Perm (S.fs.map (·.name)) → ((R.map (·.data.toList)).mergeSort fun x y => decide (x ≤ y)) = ns.map (·.data.toList)) (hnd : ns.Nodup) (hnf : ∀ x ∈ ns, x.size ≤ 1000 ∧ (lookF x S.fs).isSome = true) (m : Nat) (hm : ns.length = m) (hm6 : m ≤ 60)
    (gs : List FM) (hgs : ∀ R : List ByteArray, R.Perm (T.fs.map (·.name)) → ((R.map (·.data.toList)).mergeSort fun x y => decide (x ≤ y)) = (gs.map (·.name)).map (·.data.toList)) (hgd : (gs.map (·.name)).Nodup) (hgf : ∀ g ∈ gs, GoodG u g ∧ lookF g.name T.fs = some g) (m2 : Nat) (hm2 : gs.length = m2) (hm26 : m2 ≤ 60)
    (NE : List PM) (hl : S.word.toList ≠ [] → Lies NE nx u ⟨S.aside, S.word, emE T.fs S.fs ns⟩) (hN6 : NE.length ≤ 60) (hfe : ∀ f ∈ emE T.fs S.fs ns, FitF f) (q nx' : Int) (S' : SM) (HQ : Hid (ruM nx u S T ns gs = (q, nx', S'))) :
    Calls Tryz.prog 68 #[.pointer (some ⟨M + 1, 0, none⟩), .pointer (some ⟨O + 1, 0, none⟩)] w fun e w' => e = .returned (.int .i64 q) ∧ StAt w' M a n c nx' u S' k ∧ Below M w w' := by
  have hM1 : M + 1 < w.heap.size := World.block_lt_of_cell? _ _ (hD.1 0 _ rfl).1
  have hST : StAt w M a n c nx u S k := ⟨va, X, hD, hV, hN, hf, hk⟩
  have HST : Hid (StAt w M a n c nx u S k) := hST
  have hq9 := HQ.out
  unfold ruM at hq9
  obtain ⟨lq, hlq⟩ : ∃ x, lackM S.word S.fs [] = x := ⟨_, rfl⟩
  have CL := lacksI w M a n c nx u S k hST hu none 0 0 [] rfl (by omega) (fun s hs => by cases hs) (.inl rfl) lq hlq
  by_cases hw : S.word.toList = []
  · rw [if_pos hw] at hq9
    cases hq9
    obtain rfl : 15 = lq := by rw [← hlq]; unfold lackM; rw [if_pos hw]
    clear hD hV hN hf hk hE hW hft hlt hl hus hG HQ hST hlq hns hnd hnf hgs hgd hgf hfe hNt hkt
    go_enter Tryz.func68, Tryz.ntmps68
    go_wp2_with fail
    refine CL.mono ?_
    rintro e w1 ⟨rfl, hb1⟩
    have HF : Hid (StAt w1 M a n c nx u S k ∧ Below M w w1) := ⟨HST.out.later hb1, hb1.mono (by omega)⟩
    clear CL hb1
    go_wp2_with fail
    go_ret
    exact ⟨rfl, HF.out.1, HF.out.2⟩
  rw [if_neg hw] at hq9
  obtain rfl : 0 = lq := by rw [← hlq]; unfold lackM; rw [if_neg hw]; rfl
  have hST2 : StAt w O a2 n2 c2 nx2 u T k := ⟨vb, Z, hE, hW, hNt, hft, hkt⟩
  obtain ⟨l2, hl2⟩ : ∃ x, lackM T.word T.fs [] = x := ⟨_, rfl⟩
  have CL2 := fun W (hb : Below w.heap.size w W) => lacksI W O a2 n2 c2 nx2 u T k (hST2.later hb) hu none 0 0 [] rfl (by omega) (fun s hs => by cases hs) (.inl rfl) l2 hl2
  by_cases hw2 : T.word.toList = []
  · rw [if_pos hw2] at hq9
    cases hq9
    obtain rfl : 15 = l2 := by rw [← hl2]; unfold lackM; rw [if_pos hw2]
    clear hD hV hN hf hk hE hW hft hlt hl hus hG HQ hST hlq hns hnd hnf hgs hgd hgf hfe hNt hkt hST2 hl2
    go_enter Tryz.func68, Tryz.ntmps68
    go_wp2_with fail
    refine CL.mono ?_
    rintro e w1 ⟨rfl, hb1⟩
    have B1 : Hid (Below w.heap.size w w1) := hb1
    have CL3 := CL2 w1 hb1
    clear CL CL2 hb1
    go_wp2_with fail
    refine CL3.mono ?_
    rintro e w2 ⟨rfl, hb2⟩
    have HF : Hid (StAt w2 M a n c nx u S k ∧ Below M w w2) := by
      have h9 := B1.out.trans (hb2.mono B1.out.size)
      exact ⟨HST.out.later h9, h9.mono (by omega)⟩
    clear CL3 hb2
    go_wp2_with fail
    go_ret
    exact ⟨rfl, HF.out.1, HF.out.2⟩
  rw [if_neg hw2] at hq9
  obtain rfl : 0 = l2 := by rw [← hl2]; unfold lackM; rw [if_neg hw2]; rfl
  have CE := fun W (hb : Below w.heap.size w W) => emptyForI W M a n c nx u S.aside S.word S.fs k va X (hD.later hb) hV hN hf hX6 O ⟨a2, n2, c2, vb, T.aside, nx2, u, T.word, Z⟩ rfl T.fs (hE.later hb) hW hMO hu ns hns hnd hnf m hm hm6
  have HE : Hid (DeskAt w O ⟨a2, n2, c2, vb, T.aside, nx2, u, T.word, Z⟩ ∧ View u Z T.fs) := ⟨hE, hW⟩
  have HZL : Hid (leftNames #[] Z = T.fs.map (·.name)) := leftN_view hW
  have HGS : Hid (∀ R : List ByteArray, R.Perm (T.fs.map (·.name)) → ((R.map (·.data.toList)).mergeSort fun x y => decide (x ≤ y)) = (gs.map (·.name)).map (·.data.toList)) := hgs
  have HGD : Hid ((gs.map (·.name)).Nodup ∧ (∀ g ∈ gs, GoodG u g ∧ lookF g.name T.fs = some g) ∧ gs.length = m2) := ⟨hgd, hgf, hm2⟩
  have HFT : Hid (∀ f ∈ T.fs, 1 ≤ f.next ∧ f.next ≤ 999 ∧ f.mails.length ≤ k) := hft
  have HLT : Hid (∀ z ∈ X, ∀ y, z.v.ownBlock = some y → y < O) := hlt
  have HLI : Hid (Lies NE nx u ⟨S.aside, S.word, emE T.fs S.fs ns⟩ ∧ NE.length ≤ 60 ∧ 0 ≤ nx ∧ nx ≤ 10000 ∧ ∀ f ∈ emE T.fs S.fs ns, FitF f) := ⟨hl hw, hN6, n0, n1, hfe⟩
  have HQL : Hid (rsL u nx ⟨S.aside, S.word, emE T.fs S.fs ns⟩ gs = (q, nx', S')) := hq9
  have HUS : Hid ((47 : UInt8) ∉ u.data.toList) := hus
  have HG : Hid (Gl w) := hG
  have HK : Hid (S.aside.length ≤ k) := hk
  clear hD hV hN hf hk hE hW hft hlt hl hus hG HQ hST hlq hns hnd hnf hgs hgd hgf hfe hNt hkt hST2 hl2 hm hm2 hq9 HST hX6
  go_enter Tryz.func68, Tryz.ntmps68
  go_wp2_with fail
  refine CL.mono ?_
  rintro e w1 ⟨rfl, hb1⟩
  have B1 : Hid (Below w.heap.size w w1) := hb1
  have CL3 := CL2 w1 hb1
  clear CL CL2 hb1
  go_wp2_with fail
  refine CL3.mono ?_
  rintro e w2 ⟨rfl, hb2⟩
  have B2 : Hid (Below w.heap.size w w2) := B1.out.trans (hb2.mono B1.out.size)
  have CE2 := CE w2 B2.out
  clear CL3 hb2 CE B1
  go_wp2_with fail
  refine CE2.mono ?_
  rintro e w3 ⟨rfl, hem, hb3, hk3⟩
  have B3 : Hid (Below M w w3) := (B2.out.mono (by omega)).trans hb3
  have hE3 : DeskAt w3 O ⟨a2, n2, c2, vb, T.aside, nx2, u, T.word, Z⟩ := desk_keep (HE.out.1.later B2.out) hk3 hMO
  have HE3 : Hid (DeskAt w3 O ⟨a2, n2, c2, vb, T.aside, nx2, u, T.word, Z⟩) := hE3
  have HM3 : Hid (EmAt w3 M a n c va S.aside nx u S.word (emE T.fs S.fs ns) k X) := hem
  have CN := namesI w3 O _ hE3 hZ6
  have hM3 : M + 1 < w3.heap.size := by have := B3.out.size; omega
  clear CE2 hem hb3 hk3 hE3 B2
  go_wp2_with fail
  refine CN.mono ?_
  rintro e w4 ⟨v4, rfl, ⟨R, hR, ow⟩, hb4⟩
  have hR2 : R.Perm (T.fs.map (·.name)) := by
    have h9 : R.Perm (leftNames #[] Z) := hR
    rw [HZL.out] at h9
    exact h9
  obtain ⟨r1, r2⟩ := cells_sorted R (gs.map (·.name)) (HGS.out R hR2)
  rw [r2, r1, List.length_map, HGD.out.2.2] at ow
  obtain ⟨ab, cb, rfl, _, _⟩ := own_src ow
  have HO4 : Hid (w4.ownsRow w3.heap.size 9 1 (.slice ab m2 cb) m2 (cellsS (gs.map (·.name)))) := ow
  have B4 : Hid (Below M w w4) := B3.out.trans (hb4.mono (by omega))
  have HE4 : Hid (DeskAt w4 O ⟨a2, n2, c2, vb, T.aside, nx2, u, T.word, Z⟩) := HE3.out.later hb4
  have HR4 : Hid (RuAt w4 M a n c nx u ⟨S.aside, S.word, emE T.fs S.fs ns⟩ k (FromP X Z u (gs.take 0))) := by
    obtain ⟨X4, j1, j2, j3, j4, j5⟩ := HM3.out
    exact ⟨va, X4, j1.later hb4, j2, j3, j4, HK.out, fun z hz y hy => .inl (j5 z hz y hy)⟩
  clear CN hR hR2 r1 r2 ow hb4 HE3 HM3 HGS HZL HK B3
  go_wp2_with fail
  go_loopw [23] (fun iv wr => ∃ (j : Nat) (nj : Int) (Sj : SM) (Nj : List PM), j ≤ m2 ∧ iv = .int .i64 (j : Int) ∧ Hid (RuAt wr M a n c nj u Sj k (FromP X Z u (gs.take j))) ∧ Hid (Lies Nj nj u Sj ∧ Nj.length ≤ 60 ∧ 0 ≤ nj ∧ nj ≤ 10000 ∧ ∀ f ∈ Sj.fs, FitF f) ∧ Hid (rsL u nj Sj (gs.drop j) = (q, nx', S')) ∧ Hid (Keep M w4 wr) ∧ Hid (Below M w4 wr)) (fun i _ => m2 - (RowKit.intOf i).toNat)
  case atStart => exact ⟨0, nx, _, NE, by omega, rfl, HR4.out, HLI.out, HQL.out, (fun B hB _ _ => rfl), Below.refl _ _⟩
  case round =>
    obtain ⟨j, nj, Sj, Nj, hj, rfl, hru, hli, hql, hkp, hbr⟩ := hrel
    by_cases hlj : j < m2
    · have hltj : (j : Int) < (m2 : Int) := by omega
      have hjg : j < gs.length := by rw [HGD.out.2.2]; exact hlj
      have hjn : j < (gs.map (·.name)).length := by rw [List.length_map]; exact hjg
      obtain ⟨a9, c9, e9, s9, _⟩ := own_src (own_keep HO4.out hkp.out hM3)
      cases e9
      obtain ⟨b', o', t, rfl, c1, hy⟩ := srcS s9 hjn
      obtain ⟨g, hge⟩ : ∃ g, gs[j] = g := ⟨_, rfl⟩
      have hgm : g ∈ gs := by rw [← hge]; exact List.getElem_mem hjg
      have hgt : g.name = t := by
        have h9 := hy.out
        rw [List.getD_eq_getElem?_getD, List.getElem?_eq_getElem hjn, List.getElem_map, hge] at h9
        exact h9
      obtain ⟨⟨gf, gs1, gap⟩, hlk⟩ := HGD.out.2.1 g hgm
      have htk : gs.take (j + 1) = gs.take j ++ [g] := by rw [List.take_add_one, List.getElem?_eq_getElem hjg, hge]; rfl
      have hdr : gs.drop j = g :: gs.drop (j + 1) := by rw [List.drop_eq_getElem_cons hjg, hge]
      obtain ⟨q1, nx1, S1, hm1⟩ : ∃ q1 nx1 S1, rsM nj u Sj g = (q1, nx1, S1) := ⟨_, _, _, rfl⟩
      have hEr : DeskAt wr O ⟨a2, n2, c2, vb, T.aside, nx2, u, T.word, Z⟩ := desk_keep HE4.out hkp.out hMO
      obtain ⟨ax, cx, hat, hrow, hapart, x, hxZ, hxk, hxv⟩ := at_row hEr HE.out.2 hlk
      have hat2 : atX (lookX (folderK u g.name) Z) = .agg #[.string g.name, .int .i64 g.val, .int .i64 g.next, .slice ax g.mails.length cx] := hat
      have CT := atI t wr O ⟨a2, n2, c2, vb, T.aside, nx2, u, T.word, Z⟩ (by rw [← hgt]; have := gf.2.2.2.2.1; omega) (by show u.size ≤ 1048576; omega) hEr
      have hgb := HFT.out g (lookF_mem hlk).1
      obtain ⟨vj, Xj, d1, d2, d3, d4, d5, d6⟩ := hru.out
      obtain ⟨l1, l2, l3, l4, l5⟩ := hli.out
      have hap : ∀ z ∈ Xj, ∀ y, z.v.ownBlock = some y → Value.ownBlock (.slice ax g.mails.length cx) ≠ some y := fun z hz y hy9 h9 => by
        rcases d6 z hz y hy9 with ⟨z0, hz0, hy0⟩ | ⟨z0, hz0, ⟨g', hg', hk'⟩, hy0⟩
        · have k1 := HLT.out z0 hz0 y hy0
          have k2 := own_base hrow h9
          omega
        · refine hapart z0 hz0 ?_ y hy0 h9
          rw [hk']
          intro e
          have e2 : g'.name = g.name := folderK_inj e
          have hnd := HGD.out.1
          have h7 : g.name ∈ (gs.take j).map (·.name) := List.mem_map.2 ⟨g', hg', e2⟩
          rw [List.map_take] at h7
          exact take_fresh hnd hjn (by rw [hy.out, hgt]) h7
      have CR := fun W (hb : Below wr.heap.size wr W) => restoreI W M a n c nj u Sj k vj Xj (d1.later hb) d2 d3 d4 d5 hkk g g.name g.next g.val ax g.mails.length cx g.mails rfl rfl hgb (own_mono (own_below hrow hb) (by omega)) hap Nj l1 l2 HUS.out hu gs1 gf.2.2.2.2.1 gap l5 gf.2.2.2.2.2 l3 l4 (HG.out.below h8 ((B4.out.trans hbr.out).trans (hb.mono (by have := (B4.out.trans hbr.out).size; omega)))) h8 q1 nx1 S1 hm1
      have HFP : Hid (∀ y, ((∃ z0 ∈ Xj, z0.v.ownBlock = some y) ∨ Value.ownBlock (.slice ax g.mails.length cx) = some y) → FromP X Z u (gs.take (j + 1)) y) := fun y h9 => by
        rw [htk]
        rcases h9 with ⟨z0, hz0, hy0⟩ | h9
        · rcases d6 z0 hz0 y hy0 with h6 | ⟨z1, hz1, ⟨g', hg', hk'⟩, hy1⟩
          · exact .inl h6
          · exact .inr ⟨z1, hz1, ⟨g', List.mem_append_left _ hg', hk'⟩, hy1⟩
        · exact .inr ⟨x, hxZ, ⟨g, List.mem_append_right _ (List.mem_singleton.2 rfl), hxk⟩, by rw [hxv]; exact h9⟩
      have HRS : Hid (RsFits Nj nj u g q1 nx1 S1 (rsG Nj u g.name g) ∧ rsM nj u Sj g = (q1, nx1, S1) ∧ GoodG u g) := ⟨rs_fits l1 l3 l4 HUS.out gs1 rfl gap hm1, hm1, gf, gs1, gap⟩
      have HQ2 : Hid (rsL u nj Sj (g :: gs.drop (j + 1)) = (q, nx', S')) := by
        have h9 := hql.out
        rw [hdr] at h9
        exact h9
      obtain ⟨nm, hnm⟩ : ∃ t, g.name = t := ⟨_, rfl⟩
      obtain ⟨gv, hgv⟩ : ∃ t, g.val = t := ⟨_, rfl⟩
      obtain ⟨gx, hgx⟩ : ∃ t, g.next = t := ⟨_, rfl⟩
      obtain ⟨ml, hml⟩ : ∃ t, g.mails.length = t := ⟨_, rfl⟩
      obtain rfl : nm = t := by rw [← hnm, hgt]
      have CT2 : Calls Tryz.prog 38 #[.pointer (some ⟨O + 1, 0, none⟩), .string nm] wr fun e w' => e = .returned (.agg #[.string nm, .int .i64 gv, .int .i64 gx, .slice ax ml cx]) ∧ Below wr.heap.size wr w' := by
        rw [hnm, hgv, hgx, hml] at hat2
        rw [← hat2]
        exact CT
      rw [hml] at HFP
      rw [hnm, hgv, hgx, hml] at CR
      have hMr : M + 1 < wr.heap.size := by have := (B4.out.trans hbr.out).size; omega
      clear CT hat hat2 hrow hapart hxZ hxk hxv d1 d2 d3 d4 d5 d6 l1 l2 l3 l4 l5 hap hgb hlk gf gs1 gap htk hdr hm1 hEr hgm hge hgt hru hql s9 hgv hgx hml hnm
      go_wp2_with fail
      refine CT2.mono ?_
      rintro e w5 ⟨rfl, hb5⟩
      have CR5 := CR w5 hb5
      have B5 : Hid (Below wr.heap.size wr w5) := hb5
      clear CT2 CR hb5
      go_wp2_with fail
      refine CR5.mono ?_
      rintro e w6 ⟨rfl, hst6, hb6, hk6, hrp6⟩
      have B6 : Hid (Below M w4 w6) := (hbr.out.trans (B5.out.mono (by omega))).trans hb6
      have K6 : Hid (Keep M w4 w6) := by
        have k5 := hkp.out.next hbr.out.size B5.out
        exact k5.trans (Nat.le_trans hbr.out.size B5.out.size) hk6
      have HS6 : Hid (StAt w6 M a n c nx1 u S1 k) := hst6
      have HP6 : Hid (RestPost q1 w6 M a n c nx1 u S1 k Xj (.slice ax ml cx)) := hrp6
      clear CR5 hst6 hb6 hk6 hrp6 B5 hkp hbr
      by_cases hq1 : q1 = 0
      · subst hq1
        have HR6 : Hid (RuAt w6 M a n c nx1 u S1 k (FromP X Z u (gs.take (j + 1)))) := by
          obtain ⟨va6, X6, t1, t2, t3, t4, t5, t6⟩ := HP6.out rfl
          exact ⟨va6, X6, t1, t2, t3, t4, t5, fun z hz y hy9 => HFP.out y (t6 z hz y hy9)⟩
        have HL6 : Hid (Lies (rsG Nj u g.name g).1 nx1 u S1 ∧ (rsG Nj u g.name g).1.length ≤ 60 ∧ 0 ≤ nx1 ∧ nx1 ≤ 10000 ∧ ∀ f ∈ S1.fs, FitF f) := by
          obtain ⟨p1, p2, p3⟩ := HRS.out
          obtain ⟨r1, r2, r3, r4⟩ := p1.2 rfl
          obtain ⟨m1, m2, m3⟩ := rsM_ok p2
          obtain ⟨l1, l2, l3, l4, l5⟩ := hli.out
          refine ⟨r4, r3, by omega, by omega, fun f hf9 => ?_⟩
          rw [m3] at hf9
          obtain ⟨e1, e2, e3, e4, e5, e6⟩ := p3.1
          rcases putF_mem hf9 with hf9 | rfl
          · exact l5 f hf9
          · exact ⟨l3, l4, e3, e4, e5, e6⟩
        have HQ6 : Hid (rsL u nx1 S1 (gs.drop (j + 1)) = (q, nx', S')) := by
          have h9 := HQ2.out
          rw [rsL_ok HRS.out.2.1] at h9
          exact h9
        clear HP6 HS6 HFP HQ2 HRS hli
        go_wp2_with fail
        exact ⟨⟨j + 1, nx1, S1, _, by omega, by go_num, HR6.out, HL6.out, HQ6.out, K6.out, B6.out⟩, by simp [RowKit.intOf]; omega⟩
      · have hq1i : (q1 != 0) = true := by simpa using hq1
        have h9 := HQ2.out
        rw [rsL_bad HRS.out.2.1 hq1] at h9
        cases h9
        have HF : Hid (StAt w6 M a n c nx' u S' k ∧ Below M w w6) := ⟨HS6.out, B4.out.trans B6.out⟩
        clear HP6 HS6 HFP HQ2 HRS hli B6 K6
        go_wp2_with fail
        go_ret
        exact ⟨rfl, HF.out.1, HF.out.2⟩
    · obtain rfl : j = m2 := by omega
      have hltj : ¬ (j : Int) < (j : Int) := by omega
      have h9 := hql.out
      rw [List.drop_of_length_le (by rw [HGD.out.2.2]; exact Nat.le_refl _)] at h9
      cases h9
      have HF : Hid (StAt wr M a n c nx' u S' k ∧ Below M w wr) := ⟨hru.out.st, B4.out.trans hbr.out⟩
      clear hru hkp hbr hli hql
      go_wp2_with fail
      go_ret
      exact ⟨rfl, HF.out.1, HF.out.2⟩
end Go.Proofs.YthgbclipknfmjaaGreatDoor
