/-
  Mlk Sap Apm Apf Apl Plc Cpm Sfl Sfs Sfw in one. By an AI agent.
-/
import Derived.Test.YthejpemiaenfpaaGreatDoorMzc
namespace Go.Proofs.YthejpemiaenfpaaGreatDoor
open Go.ChangeShapes Go.WideShapes Go.ChangeAt Go.RowKit Go.Deep Go.Lib
set_option linter.unusedVariables false
set_option linter.unusedSimpArgs false
set_option maxRecDepth 100000

theorem conv3 (W : World) (b : Nat) (x y z : Nat) (hx : x < 10) (hy : y < 10) (hz : z < 10) (h : Box W b [.int .u8 (48 + (x : Int)), .int .u8 (48 + (y : Int)), .int .u8 (48 + (z : Int))]) : (convert 102 9 (.slice (some ⟨b, 0, none⟩) 3 3)).run Tryz.prog W = .ok (.string (bs [UInt8.ofNat (48 + x), UInt8.ofNat (48 + y), UInt8.ofNat (48 + z)])) W := by
  refine run_convert_bytes_back (P := Tryz.prog) W 102 9 5 ⟨b, 0, none⟩ 3 [UInt8.ofNat (48 + x), UInt8.ofNat (48 + y), UInt8.ofNat (48 + z)] Tryz.underlying102 Tryz.underlying5 Tryz.underlying9 (fun j hj => ?_)
  have hj2 : j < 3 := hj
  have hd : ∀ d : Nat, d < 10 → ((UInt8.ofNat (48 + d)).toNat : Int) = 48 + (d : Int) := fun d h9 => by
    have h1 : (UInt8.ofNat (48 + d)).toNat = 48 + d := by simp [UInt8.toNat_ofNat']; omega
    rw [h1]
    omega
  match j, hj2 with
  | 0, _ =>
    have h2 : W.cell? ((⟨b, 0, none⟩ : Addr).add 0) = W.cell? ⟨b, 0, none⟩ := rfl
    rw [h2, (h 0 _ rfl).1]
    show some (Value.int .u8 (48 + (x : Int))) = some (Value.int .u8 ((UInt8.ofNat (48 + x)).toNat : Int))
    rw [hd x hx]
  | 1, _ =>
    have h2 : W.cell? ((⟨b, 0, none⟩ : Addr).add 1) = W.cell? ⟨b, 1, none⟩ := rfl
    rw [h2, (h 1 _ rfl).1]
    show some (Value.int .u8 (48 + (y : Int))) = some (Value.int .u8 ((UInt8.ofNat (48 + y)).toNat : Int))
    rw [hd y hy]
  | 2, _ =>
    have h2 : W.cell? ((⟨b, 0, none⟩ : Addr).add 2) = W.cell? ⟨b, 2, none⟩ := rfl
    rw [h2, (h 2 _ rfl).1]
    show some (Value.int .u8 (48 + (z : Int))) = some (Value.int .u8 ((UInt8.ofNat (48 + z)).toNat : Int))
    rw [hd z hz]
set_option maxHeartbeats 4000000 in
theorem l07MailS (u f : ByteArray) (n : Nat) (hn : n < 1000) (hu : u.size ≤ 1000) (hf : f.size ≤ 1000) (w : World) : Calls Tryz.prog 100 #[.string u, .string f, .int .i64 (n : Int)] w fun e w' => e = .returned (.string (mailK u f (n : Int))) ∧ Below w.heap.size w w' := by
  obtain ⟨x, y, z, hx, hy, hz, he⟩ := split3 n hn
  have hd3 : d3 n = [UInt8.ofNat (48 + x), UInt8.ofNat (48 + y), UInt8.ofNat (48 + z)] := by
    rw [he]
    unfold d3
    rw [dec4 x y z hx hy hz]
    rfl
  have CM := fun W => l07MailsS u f W hu hf
  have hps := preK_size u f
  have hcb := fun W b => conv3 W b x y z hx hy hz
  obtain ⟨T, hT⟩ : ∃ T, bs [UInt8.ofNat (48 + x), UInt8.ofNat (48 + y), UInt8.ofNat (48 + z)] = T := ⟨_, rfl⟩
  simp only [hT] at hcb
  have hTs : T.size = 3 := by rw [← hT]; rfl
  have HD : Hid (preK u f ++ T = mailK u f (n : Int)) := by
    show _ = _
    apply bs_inj
    rw [ByteArray.data_append, Array.toList_append, preK_data, ← hT]
    show _ = 109 :: 47 :: (u.data.toList ++ 47 :: (f.data.toList ++ 47 :: d3 n))
    rw [hd3]
    simp [bs]
  obtain ⟨PK, hPK⟩ : ∃ t, preK u f = t := ⟨_, rfl⟩
  rw [hPK] at HD hps
  simp only [hPK] at CM
  obtain ⟨X, hX⟩ : ∃ t : Int, (x : Int) = t := ⟨_, rfl⟩
  obtain ⟨Y, hY⟩ : ∃ t : Int, (y : Int) = t := ⟨_, rfl⟩
  obtain ⟨Z, hZ⟩ : ∃ t : Int, (z : Int) = t := ⟨_, rfl⟩
  obtain ⟨N10, hN10⟩ : ∃ t : Int, (n : Int) / 10 = t := ⟨_, rfl⟩
  have q1 : (n : Int).tdiv 100 = X := by rw [Int.tdiv_eq_ediv_of_nonneg (by omega)]; omega
  have q2 : (n : Int).tdiv 10 = N10 := by rw [Int.tdiv_eq_ediv_of_nonneg (by omega)]; omega
  have q3 : N10.tmod 10 = Y := by rw [Int.tmod_eq_emod_of_nonneg (by omega)]; omega
  have q4 : (n : Int).tmod 10 = Z := by rw [Int.tmod_eq_emod_of_nonneg (by omega)]; omega
  have u1 := wrap8 x hx
  have u2 := wrap8 y hy
  have u3 := wrap8 z hz
  rw [hX] at u1
  rw [hY] at u2
  rw [hZ] at u3
  simp only [hX, hY, hZ] at hcb
  have v1 : IntKind.i64.wrap X = X := wrapI _ (by omega) (by omega)
  have v2 : IntKind.i64.wrap N10 = N10 := wrapI _ (by omega) (by omega)
  have v3 : IntKind.i64.wrap (48 + X) = 48 + X := wrapI _ (by omega) (by omega)
  have v4 : IntKind.i64.wrap (48 + Y) = 48 + Y := wrapI _ (by omega) (by omega)
  have v5 : IntKind.i64.wrap (48 + Z) = 48 + Z := wrapI _ (by omega) (by omega)
  obtain ⟨G, hG⟩ : ∃ t, mailK u f (n : Int) = t := ⟨_, rfl⟩
  rw [hG] at HD ⊢
  have hnc : ¬ 9223372036854775807 < u.size + f.size + 4 + 3 := by omega
  clear hd3 hT hPK hG he
  clear hX hY hZ hN10
  go_enter Tryz.func100, Tryz.ntmps100
  go_wp2_with fail
  refine wp_region_noPanic ?_
  refine wp_region_held_drew (S := fun w' => True) (by kernel_rfl) trivial (fun hHeld => ?_)
  refine tkA (i := 0) (v := .string u) ?_ hHeld ?_
  · intro w9 hSw
    go_simp
  simp only [Act.put, List.setIfInBounds_toArray, List.set_cons_zero, List.set_cons_succ]
  refine tkA (i := 1) (v := .string f) ?_ hHeld ?_
  · intro w9 hSw
    go_simp
  simp only [Act.put, List.setIfInBounds_toArray, List.set_cons_zero, List.set_cons_succ]
  refine tkA (i := 3) (v := .int .i64 (n : Int)) ?_ hHeld ?_
  · intro w9 hSw
    go_simp
  simp only [Act.put, List.setIfInBounds_toArray, List.set_cons_zero, List.set_cons_succ]
  refine tkA (i := 4) (v := .int .i64 X) ?_ hHeld ?_
  · intro w9 hSw
    go_simp
  simp only [Act.put, List.setIfInBounds_toArray, List.set_cons_zero, List.set_cons_succ]
  refine tkA (i := 5) (v := .int .i64 (48 + X)) ?_ hHeld ?_
  · intro w9 hSw
    go_simp
  simp only [Act.put, List.setIfInBounds_toArray, List.set_cons_zero, List.set_cons_succ]
  refine tkA (i := 6) (v := .int .u8 (48 + X)) ?_ hHeld ?_
  · intro w9 hSw
    go_simp
  simp only [Act.put, List.setIfInBounds_toArray, List.set_cons_zero, List.set_cons_succ]
  refine tkA (i := 7) (v := .int .i64 (n : Int)) ?_ hHeld ?_
  · intro w9 hSw
    go_simp
  simp only [Act.put, List.setIfInBounds_toArray, List.set_cons_zero, List.set_cons_succ]
  refine tkA (i := 8) (v := .int .i64 N10) ?_ hHeld ?_
  · intro w9 hSw
    go_simp
  simp only [Act.put, List.setIfInBounds_toArray, List.set_cons_zero, List.set_cons_succ]
  refine tkA (i := 9) (v := .int .i64 Y) ?_ hHeld ?_
  · intro w9 hSw
    go_simp
  simp only [Act.put, List.setIfInBounds_toArray, List.set_cons_zero, List.set_cons_succ]
  refine tkA (i := 10) (v := .int .i64 (48 + Y)) ?_ hHeld ?_
  · intro w9 hSw
    go_simp
  simp only [Act.put, List.setIfInBounds_toArray, List.set_cons_zero, List.set_cons_succ]
  refine tkA (i := 11) (v := .int .u8 (48 + Y)) ?_ hHeld ?_
  · intro w9 hSw
    go_simp
  simp only [Act.put, List.setIfInBounds_toArray, List.set_cons_zero, List.set_cons_succ]
  refine tkA (i := 12) (v := .int .i64 (n : Int)) ?_ hHeld ?_
  · intro w9 hSw
    go_simp
  simp only [Act.put, List.setIfInBounds_toArray, List.set_cons_zero, List.set_cons_succ]
  refine tkA (i := 13) (v := .int .i64 Z) ?_ hHeld ?_
  · intro w9 hSw
    go_simp
  simp only [Act.put, List.setIfInBounds_toArray, List.set_cons_zero, List.set_cons_succ]
  refine tkA (i := 14) (v := .int .i64 (48 + Z)) ?_ hHeld ?_
  · intro w9 hSw
    go_simp
  simp only [Act.put, List.setIfInBounds_toArray, List.set_cons_zero, List.set_cons_succ]
  refine tkA (i := 15) (v := .int .u8 (48 + Z)) ?_ hHeld ?_
  · intro w9 hSw
    go_simp
  simp only [Act.put, List.setIfInBounds_toArray, List.set_cons_zero, List.set_cons_succ]
  refine wpAnyH_ready (rs := [2, 16]) (by kernel_rfl) (by simp) ?_
  refine AllReadyH.cons rfl (fun K hK => ?_) (AllReadyH.cons rfl (fun K hK => ?_) AllReadyH.nil)
  · skip
    go_simp
    refine (CM _).mono ?_
    rintro e wk ⟨rfl, hwk⟩
    obtain rfl := hwk.symm
    dsimp only
    refine hK _ _ trivial (fun hHeld => ?_)
    clear hK K
    refine wpAnyH_ready (rs := [16]) (by kernel_rfl) (by simp) ?_
    refine AllReadyH.cons rfl (fun K hK => ?_) AllReadyH.nil
    go_simp
    have B1 : Hid (Below w.heap.size w ((w).alloc (.cells #[.int .u8 (48 + X), .int .u8 (48 + Y), .int .u8 (48 + Z)] 5))) := (Below.refl w.heap.size w).alloc (Nat.le_refl _) _
    have X1 : Hid (Box ((w).alloc (.cells #[.int .u8 (48 + X), .int .u8 (48 + Y), .int .u8 (48 + Z)] 5)).drew w.heap.size [.int .u8 (48 + X), .int .u8 (48 + Y), .int .u8 (48 + Z)]) := (Box.new (w := w) rfl).drew
    refine hK _ _ trivial (fun hHeld => ?_)
    clear hK K
    refine wpAnyH_ready (rs := [17]) (by kernel_rfl) (by simp) ?_
    refine AllReadyH.cons rfl (fun K hK => ?_) AllReadyH.nil
    have hc2 := hcb (((w).alloc (.cells #[.int .u8 (48 + X), .int .u8 (48 + Y), .int .u8 (48 + Z)] 5)).drew) (w.heap.size) (X1.out)
    go_simp
    refine hK _ _ trivial (fun hHeld => ?_)
    clear hK K
    refine wpAnyH_ready (rs := [18]) (by kernel_rfl) (by simp) ?_
    refine AllReadyH.cons rfl (fun K hK => ?_) AllReadyH.nil
    go_simp
    refine hK _ _ trivial (fun hHeld => ?_)
    clear hK K
    refine wpAnyH_ready (rs := [19]) (by kernel_rfl) (by simp) ?_
    refine AllReadyH.cons rfl (fun K hK => ?_) AllReadyH.nil
    go_simp
    refine hK _ _ trivial (fun hHeld => ?_)
    clear hK K
    refine wpAnyH_done (by kernel_rfl) ?_ _
    refine NoPanic.normal ?_
    clear hHeld
    go_wp2_with fail
    go_ret
    exact ⟨by rw [← HD.out]; rfl, B1.out.drew⟩
  · skip
    go_simp
    have B3 : Hid (Below w.heap.size w ((w).alloc (.cells #[.int .u8 (48 + X), .int .u8 (48 + Y), .int .u8 (48 + Z)] 5))) := (Below.refl w.heap.size w).alloc (Nat.le_refl _) _
    have X3 : Hid (Box ((w).alloc (.cells #[.int .u8 (48 + X), .int .u8 (48 + Y), .int .u8 (48 + Z)] 5)).drew w.heap.size [.int .u8 (48 + X), .int .u8 (48 + Y), .int .u8 (48 + Z)]) := (Box.new (w := w) rfl).drew
    refine hK _ _ trivial (fun hHeld => ?_)
    clear hK K
    refine wpAnyH_ready (rs := [2, 17]) (by kernel_rfl) (by simp) ?_
    refine AllReadyH.cons rfl (fun K hK => ?_) (AllReadyH.cons rfl (fun K hK => ?_) AllReadyH.nil)
    · skip
      go_simp
      refine (CM _).mono ?_
      rintro e wk ⟨rfl, hwk⟩
      obtain rfl := hwk.symm
      dsimp only
      refine hK _ _ trivial (fun hHeld => ?_)
      clear hK K
      refine wpAnyH_ready (rs := [17]) (by kernel_rfl) (by simp) ?_
      refine AllReadyH.cons rfl (fun K hK => ?_) AllReadyH.nil
      have hc4 := hcb (((w).alloc (.cells #[.int .u8 (48 + X), .int .u8 (48 + Y), .int .u8 (48 + Z)] 5)).drew) (w.heap.size) (X3.out)
      go_simp
      refine hK _ _ trivial (fun hHeld => ?_)
      clear hK K
      refine wpAnyH_ready (rs := [18]) (by kernel_rfl) (by simp) ?_
      refine AllReadyH.cons rfl (fun K hK => ?_) AllReadyH.nil
      go_simp
      refine hK _ _ trivial (fun hHeld => ?_)
      clear hK K
      refine wpAnyH_ready (rs := [19]) (by kernel_rfl) (by simp) ?_
      refine AllReadyH.cons rfl (fun K hK => ?_) AllReadyH.nil
      go_simp
      refine hK _ _ trivial (fun hHeld => ?_)
      clear hK K
      refine wpAnyH_done (by kernel_rfl) ?_ _
      refine NoPanic.normal ?_
      clear hHeld
      go_wp2_with fail
      go_ret
      exact ⟨by rw [← HD.out]; rfl, B3.out.drew⟩
    · skip
      have hc5 := hcb (((w).alloc (.cells #[.int .u8 (48 + X), .int .u8 (48 + Y), .int .u8 (48 + Z)] 5)).drew) (w.heap.size) (X3.out)
      go_simp
      refine hK _ _ trivial (fun hHeld => ?_)
      clear hK K
      refine wpAnyH_ready (rs := [2]) (by kernel_rfl) (by simp) ?_
      refine AllReadyH.cons rfl (fun K hK => ?_) AllReadyH.nil
      go_simp
      refine (CM _).mono ?_
      rintro e wk ⟨rfl, hwk⟩
      obtain rfl := hwk.symm
      dsimp only
      refine hK _ _ trivial (fun hHeld => ?_)
      clear hK K
      refine wpAnyH_ready (rs := [18]) (by kernel_rfl) (by simp) ?_
      refine AllReadyH.cons rfl (fun K hK => ?_) AllReadyH.nil
      go_simp
      refine hK _ _ trivial (fun hHeld => ?_)
      clear hK K
      refine wpAnyH_ready (rs := [19]) (by kernel_rfl) (by simp) ?_
      refine AllReadyH.cons rfl (fun K hK => ?_) AllReadyH.nil
      go_simp
      refine hK _ _ trivial (fun hHeld => ?_)
      clear hK K
      refine wpAnyH_done (by kernel_rfl) ?_ _
      refine NoPanic.normal ?_
      clear hHeld
      go_wp2_with fail
      go_ret
      exact ⟨by rw [← HD.out]; rfl, B3.out.drew⟩
end Go.Proofs.YthejpemiaenfpaaGreatDoor
namespace Go.Proofs.YthejpemiaenfpaaGreatDoor
open Go.ChangeShapes Go.WideShapes Go.ChangeAt Go.RowKit Go.Deep Go.Lib
set_option linter.unusedVariables false
set_option linter.unusedSimpArgs false
set_option maxRecDepth 100000

abbrev metaD (L : List PM) (u f : ByteArray) : Int × Int := (metaM L u f).getD (0, 0)
def appY (L : List PM) (u f t : ByteArray) (fl : Int) : List PM := insL (mailK u f (metaD L u f).2) (mailV ((metaD L u f).2, fl, t)) (insL (folderK u f) (metaT (metaD L u f).1 ((metaD L u f).2 + 1)) L)
def appR (L : List PM) (u f t : ByteArray) (fl : Int) : List PM × Int × Int :=
  if knownR L u f ≠ 0 then (L, 0, knownR L u f) else if countM L u = 6 then (L, 0, 12) else if (metaD L u f).2 = 999 then (L, 0, 6) else if 60 < (appY L u f t fl).length then (L, 0, 7) else (appY L u f t fl, (metaD L u f).2, 0)
theorem known_meta {L : List PM} {u f : ByteArray} (h : knownR L u f = 0) : ∃ p, metaM L u f = some p := by
  unfold knownR at h
  split at h
  · cases h
  · split at h
    · cases h
    · rename_i h2
      cases hm : metaM L u f with
      | none => rw [hm] at h2; exact absurd rfl h2
      | some p => exact ⟨p, rfl⟩
theorem app_len {L : List PM} (hg : GoodL L) (u f t : ByteArray) (fl : Int) : (appY L u f t fl).length ≤ 62 ∧ UpL (appY L u f t fl) := by
  have h1 := (ins_len (k := folderK u f) (v := metaT (metaD L u f).1 ((metaD L u f).2 + 1)) hg.2.2).1
  have h3 := ins_up (k := folderK u f) (v := metaT (metaD L u f).1 ((metaD L u f).2 + 1)) hg.2.2
  have h2 := (ins_len (k := mailK u f (metaD L u f).2) (v := mailV ((metaD L u f).2, fl, t)) h3).1
  have := hg.1
  unfold appY
  exact ⟨by omega, ins_up h3⟩
set_option maxHeartbeats 4000000 in
theorem l07AppendS (b o n c : Nat) (L : List PM) (hL : L.length = n) (hc : n ≤ c) (hc9 : c ≤ maxLen) (hg : GoodL L) (u f t : ByteArray) (fl : Int) (hus : u.size ≤ 8) (hfs : f.size ≤ 8) (hts : t.size ≤ 85) (f0 : 0 ≤ fl) (f1 : fl ≤ 3) (w : World) (h : Src w (some ⟨b, o, none⟩) (cellsP L)) (R : List PM) (q1 q2 : Int) (HR : Hid (appR L u f t fl = (R, q1, q2))) :
    Calls Tryz.prog 66 #[.slice (some ⟨b, o, none⟩) n c, .string u, .string f, .string t, .int .i64 fl] w fun e w' => ∃ a2 n2 c2, e = .returned (.tuple #[.slice a2 n2 c2, .int .i64 q1, .int .i64 q2]) ∧ R.length = n2 ∧ Src w' a2 (cellsP R) ∧ Below w.heap.size w w' := by
  have hn60 := hg.1
  rw [hL] at hn60
  have HLN : Hid (L.length = n ∧ Src w (some ⟨b, o, none⟩) (cellsP L)) := ⟨hL, h⟩
  have CK := l07KnownS (some ⟨b, o, none⟩) n c L hL hg u f (by omega) (by omega) w h _ rfl
  have HR1 := HR.out
  unfold appR at HR1
  by_cases hk : knownR L u f ≠ 0
  · rw [if_pos hk] at HR1
    obtain ⟨kk, hkk⟩ : ∃ t, knownR L u f = t := ⟨_, rfl⟩
    rw [hkk] at CK HR1 hk
    obtain ⟨rfl, rfl, rfl⟩ : L = R ∧ 0 = q1 ∧ kk = q2 := by cases HR1; exact ⟨rfl, rfl, rfl⟩
    have hki : (kk != 0) = true := by simpa using hk
    clear hL h hg HR HR1 hkk
    go_enter Tryz.func66, Tryz.ntmps66
    go_wp2_with fail
    refine CK.mono ?_
    rintro e w1 ⟨rfl, hb1⟩
    have B1 : Hid (Below w.heap.size w w1) := hb1
    clear hb1 CK
    go_wp2_with fail
    exact bodyPost_ret (v := .tuple #[.slice (some ⟨b, o, none⟩) n c, .int .i64 0, .int .i64 kk]) (by simp [results, Tryz.results66, go_sem]) rfl ⟨_, _, _, rfl, HLN.out.1, HLN.out.2.below B1.out, B1.out⟩
  have hk0 : knownR L u f = 0 := by
    by_cases e : knownR L u f = 0
    · exact e
    · exact absurd e hk
  rw [if_neg hk] at HR1
  obtain ⟨p, hp⟩ := known_meta hk0
  obtain ⟨p1, p2, p3, p4⟩ := meta_range hp
  have hpd : metaD L u f = p := by unfold metaD; rw [hp]; rfl
  rw [hk0] at CK
  have CM := fun W (hW : Below w.heap.size w W) => l07MetaS (some ⟨b, o, none⟩) n c L u f W hL hg (by omega) (by omega) (h.below hW)
  rw [hp] at CM
  have CC := fun W (hW : Below w.heap.size w W) => l07CountS (some ⟨b, o, none⟩) n c L u W hL hg (by omega) (h.below hW)
  have hyl := (app_len hg u f t fl).1
  unfold appY at HR1 hyl
  rw [hpd] at HR1 hyl
  obtain ⟨va, nx⟩ := p
  dsimp only at HR1 p1 p2 p3 p4 hyl
  obtain ⟨nn, rfl⟩ : ∃ nn : Nat, nx = (nn : Int) := ⟨nx.toNat, by omega⟩
  have CP := fun W (hW : Below w.heap.size w W) => l07PutS b o n c L u f va ((nn : Int) + 1) W hL (by omega) hc hc9 hg.2.2 (h.below hW) (by omega) (by omega) (by omega) (by omega) (by omega) (by omega) _ _ rfl rfl
  have hu1 := ins_up (k := folderK u f) (v := metaT va ((nn : Int) + 1)) hg.2.2
  have hl1 := (ins_len (k := folderK u f) (v := metaT va ((nn : Int) + 1)) hg.2.2).1
  rw [hL] at hl1
  obtain ⟨N1, hN1⟩ : ∃ t, insL (folderK u f) (metaT va ((nn : Int) + 1)) L = t := ⟨_, rfl⟩
  simp only [hN1] at CP hu1 hl1 hyl
  rw [hN1] at HR1
  obtain ⟨n1, hn1⟩ : ∃ t, N1.length = t := ⟨_, rfl⟩
  simp only [hn1] at CP hl1
  have CK2 := fun W => l07MailS u f nn (by omega) (by omega) (by omega) W
  have CD := fun W => digitsI fl f0 (by omega) W
  have zd := itoa_small fl f0 (by omega)
  have HMV : Hid (bs (itoa fl) ++ t = mailV ((nn : Int), fl, t)) := rfl
  obtain ⟨TD, hTD⟩ : ∃ t, bs (itoa fl) = t := ⟨_, rfl⟩
  simp only [hTD] at CD zd HMV
  obtain ⟨MV, hMV⟩ : ∃ x, mailV ((nn : Int), fl, t) = x := ⟨_, rfl⟩
  rw [hMV] at HMV HR1 hyl
  obtain ⟨MK, hMK⟩ : ∃ x, mailK u f (nn : Int) = x := ⟨_, rfl⟩
  rw [hMK] at HR1 hyl
  simp only [hMK] at CK2
  have CQ := fun (g cap : Nat) (W : World) (k1 : n1 ≤ cap) (k2 : cap ≤ maxLen) (k3 : Src W (some ⟨g, 0, none⟩) (cellsP N1)) => l01PutM g 0 n1 cap N1 MK MV W hn1 (by omega) k1 k2 hu1 k3
  obtain ⟨N2, hN2⟩ : ∃ t, insL MK MV N1 = t := ⟨_, rfl⟩
  simp only [hN2] at CQ
  rw [hN2] at HR1 hyl
  obtain ⟨n2, hn2⟩ : ∃ t, N2.length = t := ⟨_, rfl⟩
  simp only [hn2] at CQ
  rw [hn2] at HR1 hyl
  have HN2 : Hid (N2.length = n2) := hn2
  obtain ⟨cn, hcn⟩ : ∃ t, countM L u = t := ⟨_, rfl⟩
  simp only [hcn] at CC
  rw [hcn] at HR1
  have HRX : Hid ((if cn = 6 then (L, 0, 12) else if (nn : Int) = 999 then (L, 0, 6) else if 60 < n2 then (L, 0, 7) else (N2, (nn : Int), 0)) = (R, q1, q2)) := HR1
  have HBAD : Hid (∀ (W : World) (z1 z2 : Int), Below w.heap.size w W → (L, z1, z2) = (R, q1, q2) → ∃ a2 n2 c2, Ending.returned (Value.tuple #[.slice (some ⟨b, o, none⟩) n c, .int .i64 z1, .int .i64 z2]) = Ending.returned (.tuple #[.slice a2 n2 c2, .int .i64 q1, .int .i64 q2]) ∧ R.length = n2 ∧ Src W a2 (cellsP R) ∧ Below w.heap.size w W) := fun W z1 z2 hW he => by
    cases he
    exact ⟨_, _, _, rfl, HLN.out.1, HLN.out.2.below hW, hW⟩
  clear hL h hg HR HR1 hk hk0 hp hpd hN1 hn1 hTD hMV hMK hN2 hn2 hcn hu1
  go_enter Tryz.func66, Tryz.ntmps66
  go_wp2_with fail
  refine CK.mono ?_
  rintro e w1 ⟨rfl, hb1⟩
  have B1 : Hid (Below w.heap.size w w1) := hb1
  have CM1 := CM w1 hb1
  clear hb1 CK CM
  go_wp2_with fail
  refine CM1.mono ?_
  rintro e w2 ⟨x, y, rfl, hpost, hb2⟩
  obtain ⟨hx1, hy1⟩ := hpost _ rfl
  dsimp only at hx1 hy1
  subst hx1 hy1
  have B2 : Hid (Below w.heap.size w w2) := B1.out.trans (hb2.mono B1.out.size)
  have CC2 := CC w2 B2.out
  clear hb2 CM1 CC hpost
  go_wp2_with fail
  refine CC2.mono ?_
  rintro e w3 ⟨rfl, hb3⟩
  have B3 : Hid (Below w.heap.size w w3) := B2.out.trans (hb3.mono B2.out.size)
  clear hb3 CC2
  by_cases h6 : cn = 6
  · have h6i : ((cn : Int) == 6) = true := by rw [h6]; rfl
    have hf := HBAD.out w3 0 12 B3.out (by have h9 := HRX.out; rw [if_pos h6] at h9; exact h9)
    have HF : Hid (∃ a2 n2 c2, Ending.returned (Value.tuple #[.slice (some ⟨b, o, none⟩) n c, .int .i64 0, .int .i64 12]) = Ending.returned (.tuple #[.slice a2 n2 c2, .int .i64 q1, .int .i64 q2]) ∧ R.length = n2 ∧ Src w3 a2 (cellsP R) ∧ Below w.heap.size w w3) := hf
    clear hf HBAD CP CQ CD CK2
    go_wp2_with fail
    exact bodyPost_ret (v := .tuple #[.slice (some ⟨b, o, none⟩) n c, .int .i64 0, .int .i64 12]) (by simp [results, Tryz.results66, go_sem]) rfl HF.out
  have h6i : ((cn : Int) == 6) = false := beq_eq_false_iff_ne.2 (by omega)
  by_cases h9 : (nn : Int) = 999
  · have h9i : ((nn : Int) == 999) = true := by rw [h9]; rfl
    have hf := HBAD.out w3 0 6 B3.out (by have h8 := HRX.out; rw [if_neg h6, if_pos h9] at h8; exact h8)
    have HF : Hid (∃ a2 n2 c2, Ending.returned (Value.tuple #[.slice (some ⟨b, o, none⟩) n c, .int .i64 0, .int .i64 6]) = Ending.returned (.tuple #[.slice a2 n2 c2, .int .i64 q1, .int .i64 q2]) ∧ R.length = n2 ∧ Src w3 a2 (cellsP R) ∧ Below w.heap.size w w3) := hf
    clear hf HBAD CP CQ CD CK2
    go_wp2_with fail
    exact bodyPost_ret (v := .tuple #[.slice (some ⟨b, o, none⟩) n c, .int .i64 0, .int .i64 6]) (by simp [results, Tryz.results66, go_sem]) rfl HF.out
  have h9i : ((nn : Int) == 999) = false := beq_eq_false_iff_ne.2 h9
  have CP3 := CP w3 B3.out
  clear CP
  go_wp2_with fail
  refine CP3.mono ?_
  rintro e w4 ⟨g, cap, rfl, k1, k2, k3, hb4⟩
  have B4 : Hid (Below w.heap.size w w4) := B3.out.trans (hb4.mono B3.out.size)
  have HK4 : Hid (n1 ≤ cap ∧ cap ≤ maxLen ∧ Src w4 (some ⟨g, 0, none⟩) (cellsP N1)) := ⟨k1, k2, k3⟩
  clear hb4 CP3 k1 k2 k3
  go_wp2_with fail
  refine (CK2 _).mono ?_
  rintro e w5 ⟨rfl, hb5⟩
  have B5 : Hid (Below w.heap.size w w5) := B4.out.trans (hb5.mono B4.out.size)
  have HK5 : Hid (n1 ≤ cap ∧ cap ≤ maxLen ∧ Src w5 (some ⟨g, 0, none⟩) (cellsP N1)) := ⟨HK4.out.1, HK4.out.2.1, HK4.out.2.2.below hb5⟩
  clear hb5 CK2 HK4
  go_wp2_with fail
  refine (CD _).mono ?_
  rintro e w6 ⟨rfl, hb6⟩
  have B6 : Hid (Below w.heap.size w w6) := B5.out.trans (hb6.mono B5.out.size)
  have CQ6 := CQ g cap w6 HK5.out.1 HK5.out.2.1 (HK5.out.2.2.below hb6)
  clear hb6 CD HK5 CQ
  have hmv := HMV.out
  go_wp2_with fail
  try rw [hmv]
  refine CQ6.mono ?_
  rintro e w7 ⟨g7, cap7, rfl, k1, k2, k3, hb7⟩
  have B7 : Hid (Below w.heap.size w w7) := B6.out.trans (hb7.mono B6.out.size)
  have H7 : Hid (Src w7 (some ⟨g7, 0, none⟩) (cellsP N2)) := k3
  clear hb7 CQ6 k1 k2 k3
  by_cases h60 : 60 < n2
  · have CF := l07FitsS (some ⟨b, o, none⟩) n c (some ⟨g7, 0, none⟩) n2 cap7 w7 (some ⟨b, o, none⟩) n c 7 (by show ite _ _ _; rw [if_pos h60])
    have hf := HBAD.out w7 0 7 B7.out (by have h8 := HRX.out; rw [if_neg h6, if_neg h9, if_pos h60] at h8; exact h8)
    have HF : Hid (∃ a2 n2 c2, Ending.returned (Value.tuple #[.slice (some ⟨b, o, none⟩) n c, .int .i64 0, .int .i64 7]) = Ending.returned (.tuple #[.slice a2 n2 c2, .int .i64 q1, .int .i64 q2]) ∧ R.length = n2 ∧ Src w7 a2 (cellsP R) ∧ Below w.heap.size w w7) := hf
    clear hf HBAD
    go_wp2_with fail
    refine CF.mono ?_
    rintro e w8 ⟨rfl, hw8⟩
    obtain rfl := hw8
    clear CF
    go_wp2_with fail
    exact bodyPost_ret (v := .tuple #[.slice (some ⟨b, o, none⟩) n c, .int .i64 0, .int .i64 7]) (by simp [results, Tryz.results66, go_sem]) rfl HF.out
  · have CF := l07FitsS (some ⟨b, o, none⟩) n c (some ⟨g7, 0, none⟩) n2 cap7 w7 (some ⟨g7, 0, none⟩) n2 cap7 0 (by show ite _ _ _; rw [if_neg h60])
    obtain ⟨rfl, rfl, rfl⟩ : N2 = R ∧ (nn : Int) = q1 ∧ 0 = q2 := by
      have h8 := HRX.out
      rw [if_neg h6, if_neg h9, if_neg h60] at h8
      cases h8
      exact ⟨rfl, rfl, rfl⟩
    clear HBAD
    go_wp2_with fail
    refine CF.mono ?_
    rintro e w8 ⟨rfl, hw8⟩
    obtain rfl := hw8
    clear CF
    go_wp2_with fail
    exact bodyPost_ret (v := .tuple #[.slice (some ⟨g7, 0, none⟩) n2 cap7, .int .i64 (nn : Int), .int .i64 0]) (by simp [results, Tryz.results66, go_sem]) rfl ⟨_, _, _, rfl, HN2.out, H7.out, B7.out⟩
end Go.Proofs.YthejpemiaenfpaaGreatDoor
namespace Go.Proofs.YthejpemiaenfpaaGreatDoor
open Go.ChangeShapes Go.WideShapes Go.ChangeAt Go.RowKit Go.Deep Go.Lib
set_option linter.unusedVariables false
set_option linter.unusedSimpArgs false
set_option maxRecDepth 100000

theorem wpList_append_srcL {P : Program} (w : World) {ops : Array Oper} {rest : List Oper} {o : Oper} {a : Act} {Q : Exit → Act → World → Prop} (hgd : o.guard = none) (s x : Operand) (t : TypeId)
    (ho : o.op = .call { callee := .builtin .append, args := #[s, x], argTypes := #[t, t] })
    (base : Nat) (e : TypeId) (z : Value) (size bytes : Nat) (ht : P.underlying t = some (.slice e)) (hinfo : (P.info? e).map (fun i => (i.zero, i.size, i.bytes)) = some (some z, size, bytes))
    (hzs : z.cells.size = size) (hsz : 0 < size) (hby : bytes ≤ 64) (v : Value) (n : Nat) (xs : List Value) (hs : a.eval s = v) (hown : w.ownsRow base e size v n xs)
    (ad : Addr) (m c : Nat) (news : List Value) (hx : a.eval x = .slice (some ad) m c) (hl : news.length = m * size) (hsrc : Src w (some ad) news) (h1 : ∀ u ∈ news, u.oneCell' = true) (hn : n + m ≤ 4194304) (hm : 0 < m) (hbase : base ≤ w.heap.size)
    (h : ∀ v' w', w'.ownsRow base e size v' (n + m) (xs ++ news) → w.grownBy w' v.ownBlock → (v'.ownBlock = v.ownBlock ∨ ∀ g, v'.ownBlock = some g → w.heap.size ≤ g) → wpList P ops Q rest (a.put o.dst v') w') : wpList P ops Q (o :: rest) a w :=
  wpList_plain hgd fun _ hK => by
    obtain ⟨v', w', hr, h2, h3, h4⟩ := run_append_src' (P := P) w base t o.type e z size bytes ht hinfo hzs hsz hby v n xs hown ad m c news hl hsrc h1 hn hm hbase
    unfold Oper.wp execOp
    simp only [ho, resolve, invoke, builtin, Sem.run_bind, Sem.run_pure, Result.andThen_ok, List.map_toArray, List.map_cons, List.map_nil, hs, hx, hr]
    exact hK _ _ (h v' w' h2 h3 h4)
abbrev moreF (g : FM) (fl : Int) (t : ByteArray) : FM := ⟨g.name, g.val, g.next + 1, g.mails ++ [(g.next, fl, t)]⟩
def apM (S : SM) (g : FM) (fl : Int) (t : ByteArray) : Int × SM := if 6 ≤ sumF S.fs then (12, S) else if g.next = 999 then (6, S) else (0, ⟨S.aside, S.word, putF (moreF g fl t) S.fs⟩)
set_option maxHeartbeats 4000000 in
theorem appendMailI (w : World) (M : Nat) (a : Option Addr) (n c : Nat) (nx : Int) (u : ByteArray) (S : SM) (k : Nat) (hS : StAt w M a n c nx u S k) (f : ByteArray) (g : FM) (hl : lookF f S.fs = some g) (hfz : f.size ≤ 1000) (hu : u.size ≤ 1000) (x0 fl : Int) (t : ByteArray) (hsum : sumF S.fs ≤ 60) (hk : k ≤ 1000) (q : Int) (S' : SM) (HQ : Hid (apM S g fl t = (q, S'))) :
    Calls Tryz.prog 105 #[.pointer (some ⟨M + 1, 0, none⟩), .string f, .agg #[.int .i64 x0, .int .i64 fl, .string t]] w fun e w' => e = .returned (.int .i64 q) ∧ StAt w' M a n c nx u S' (k + 1) ∧ Below M w w' := by
  obtain ⟨va, X, hD, hV, hN, hf, hkk⟩ := hS
  have hM1 : M + 1 < w.heap.size := World.block_lt_of_cell? _ _ (hD.1 0 _ rfl).1
  obtain ⟨w0, hw0⟩ : ∃ W, w.alloc (.cells #[.int .i64 x0, .int .i64 fl, .string t] 78) = W := ⟨_, rfl⟩
  have A0 : Below w.heap.size w w0 := by rw [← hw0]; exact (Below.refl _ _).alloc (Nat.le_refl _) _
  have X0 : Hid (Box w0 w.heap.size [.int .i64 x0, .int .i64 fl, .string t]) := by show Box _ _ _; rw [← hw0]; exact Box.new rfl
  have HA0 : Hid (Below w.heap.size w w0) := A0
  have D0 : Hid (DeskAt w0 M ⟨a, n, c, va, S.aside, nx, u, S.word, X⟩) := hD.later A0
  have CM := mailsI w0 M _ D0.out (sumF S.fs) (sum_view hV) (by omega)
  obtain ⟨x, hx, hxg⟩ : ∃ x, lookX (folderK u f) X = some x ∧ fmX x = g := by
    have h9 := hV.look f
    rw [hl] at h9
    obtain ⟨x, h1, h2⟩ := Option.map_eq_some_iff.1 h9
    exact ⟨x, h1, h2⟩
  obtain ⟨ax, cx, hxv, _, _⟩ := own_src (hD.2.2.2.1 x (look_mem hx))
  have HX : Hid (lookX (folderK u f) X = some x ∧ fmX x = g ∧ x.v = .slice ax x.mails.length cx) := ⟨hx, hxg, hxv⟩
  have CT := fun W (hW : DeskAt W M ⟨a, n, c, va, S.aside, nx, u, S.word, X⟩) => atI f W M _ (by omega) (by show u.size ≤ 1048576; omega) hW
  have hat : atX (lookX (folderK u f) X) = .agg #[.string x.name, .int .i64 x.val, .int .i64 x.next, .slice ax x.mails.length cx] := by
    rw [hx]
    show valX x = _
    unfold valX
    rw [hxv]
  simp only [hat] at CT
  have hgn : x.name = g.name ∧ x.val = g.val ∧ x.next = g.next ∧ x.mails = g.mails := by rw [← hxg]; exact ⟨rfl, rfl, rfl, rfl⟩
  obtain ⟨ml, hml⟩ : ∃ z, g.mails.length = z := ⟨_, rfl⟩
  rw [hgn.1, hgn.2.1, hgn.2.2.1, hgn.2.2.2, hml] at CT
  obtain ⟨gn, gv, gx, gm⟩ := g
  dsimp only at CT hml hgn
  have hq9 := HQ.out
  unfold apM at hq9
  obtain ⟨sm, hsm⟩ : ∃ z, sumF S.fs = z := ⟨_, rfl⟩
  rw [hsm] at CM hq9 hsum
  have HREST : Hid ((S.fs.map (·.name)).Nodup ∧ (∀ f ∈ S.fs, 1 ≤ f.next ∧ f.next ≤ 999 ∧ f.mails.length ≤ k) ∧ S.aside.length ≤ k ∧ View u X S.fs) := ⟨hN, hf, hkk, hV⟩
  have hgok := hf _ (lookF_mem hl).1
  dsimp only at hgok hq9
  rw [hml] at hgok
  have HD : Hid (DeskAt w M ⟨a, n, c, va, S.aside, nx, u, S.word, X⟩) := hD
  have HO : Hid (w.ownsRow (M + 2) 78 3 (.slice ax ml cx) ml (cellsMl gm)) := by
    have h9 := hD.2.2.2.1 x (look_mem hx)
    rw [hxv, hgn.2.2.2, hml] at h9
    exact h9
  have hnf2 : f = gn := (lookF_mem hl).2.symm
  subst hnf2
  clear hD hV hN hf hkk hat hx hxg hxv hsm
  by_cases h6 : 6 ≤ sm
  · have h6i : (6 : Int) ≤ (sm : Int) := by omega
    rw [if_pos h6] at hq9
    obtain ⟨rfl, rfl⟩ : 12 = q ∧ S = S' := by cases hq9; exact ⟨rfl, rfl⟩
    clear CT hq9 HQ HX
    go_enter Tryz.func105, Tryz.ntmps105
    go_wp2_with fail
    refine CM.mono ?_
    rintro e w1 ⟨rfl, hb1⟩
    have HF : Hid (StAt w1 M a n c nx u S (k + 1) ∧ Below M w w1) := ⟨⟨va, X, D0.out.later hb1, HREST.out.2.2.2, HREST.out.1, fun z hz => by have h9 := HREST.out.2.1 z hz; omega, by have h9 := HREST.out.2.2.1; omega⟩, (HA0.out.trans (hb1.mono HA0.out.size)).mono (by omega)⟩
    clear CM hb1
    go_wp2_with fail
    go_ret
    exact ⟨rfl, HF.out.1, HF.out.2⟩
  have h6i : ¬ (6 : Int) ≤ (sm : Int) := by omega
  rw [if_neg h6] at hq9
  by_cases h9 : gx = 999
  · rw [if_pos h9] at hq9
    subst h9
    obtain ⟨rfl, rfl⟩ : 6 = q ∧ S = S' := by cases hq9; exact ⟨rfl, rfl⟩
    clear hq9 HQ HX
    go_enter Tryz.func105, Tryz.ntmps105
    go_wp2_with fail
    refine CM.mono ?_
    rintro e w1 ⟨rfl, hb1⟩
    have B1 : Hid (Below w.heap.size w w1) := HA0.out.trans (hb1.mono HA0.out.size)
    have D1 : Hid (DeskAt w1 M ⟨a, n, c, va, S.aside, nx, u, S.word, X⟩) := D0.out.later hb1
    have CT1 := CT w1 D1.out
    clear hb1 CM CT
    go_wp2_with fail
    refine CT1.mono ?_
    rintro e w2 ⟨rfl, hb2⟩
    have AL2 := (Below.refl w2.heap.size w2).alloc (Nat.le_refl _) (.cells #[.string f, .int .i64 gv, .int .i64 999, .slice ax ml cx] 26)
    have B2 : Below w.heap.size w w2 := B1.out.trans (hb2.mono B1.out.size)
    have HF : Hid (StAt (w2.alloc (.cells #[.string f, .int .i64 gv, .int .i64 999, .slice ax ml cx] 26)) M a n c nx u S (k + 1) ∧ Below M w (w2.alloc (.cells #[.string f, .int .i64 gv, .int .i64 999, .slice ax ml cx] 26))) := ⟨⟨va, X, (D1.out.later hb2).later AL2, HREST.out.2.2.2, HREST.out.1, fun z hz => by have h9 := HREST.out.2.1 z hz; omega, by have h9 := HREST.out.2.2.1; omega⟩, (B2.trans (AL2.mono B2.size)).mono (by omega)⟩
    clear CT1 hb2 AL2 B2
    go_wp2_with fail
    go_ret
    exact ⟨rfl, HF.out.1, HF.out.2⟩
  have h9i : (gx == 999) = false := beq_eq_false_iff_ne.2 h9
  rw [if_neg h9] at hq9
  have HQ9 : Hid (0 = q ∧ S' = ⟨S.aside, S.word, putF ⟨f, gv, gx + 1, gm ++ [(gx, fl, t)]⟩ S.fs⟩) := by cases hq9; exact ⟨rfl, rfl⟩
  clear hq9 HQ
  go_enter Tryz.func105, Tryz.ntmps105
  go_wp2_with fail
  refine CM.mono ?_
  rintro e w1 ⟨rfl, hb1⟩
  have D1 : Hid (DeskAt w1 M ⟨a, n, c, va, S.aside, nx, u, S.word, X⟩) := D0.out.later hb1
  have X1 : Hid (Box w1 w.heap.size [.int .i64 x0, .int .i64 fl, .string t]) := X0.out.below hb1
  have B1 : Hid (Below w.heap.size w w1) := HA0.out.trans (hb1.mono HA0.out.size)
  have Z1 : Hid (w.heap.size < w1.heap.size) := World.block_lt_of_cell? _ _ (X1.out 0 _ rfl).1
  have CT1 := CT w1 D1.out
  clear hb1 CM CT
  go_wp2_with fail
  refine CT1.mono ?_
  rintro e w2 ⟨rfl, hb2⟩
  have X2 : Box w2 w.heap.size [.int .i64 x0, .int .i64 fl, .string t] := X1.out.below hb2
  have B2 : Below w.heap.size w w2 := B1.out.trans (hb2.mono B1.out.size)
  have z2 : w.heap.size < w2.heap.size := by have h7 := hb2.size; have h8 := Z1.out; omega
  clear hb2 CT1
  obtain ⟨wA, hwA⟩ : ∃ W, w2.alloc (.cells #[.string f, .int .i64 gv, .int .i64 gx, .slice ax ml cx] 26) = W := ⟨_, rfl⟩
  have AA : Below w2.heap.size w2 wA := by rw [← hwA]; exact (Below.refl _ _).alloc (Nat.le_refl _) _
  have FA : Box wA w2.heap.size [.string f, .int .i64 gv, .int .i64 gx, .slice ax ml cx] := by rw [← hwA]; exact Box.new rfl
  have MA : Box wA w.heap.size [.int .i64 x0, .int .i64 fl, .string t] := X2.below AA
  have BA : Below w.heap.size w wA := B2.trans (AA.mono B2.size)
  have zA : wA.heap.size = w2.heap.size + 1 := by rw [← hwA]; simp
  obtain ⟨wB, hwB⟩ : ∃ W, wA.setCell ⟨w.heap.size, 0, none⟩ (.int .i64 gx) = W := ⟨_, rfl⟩
  have MB : Box wB w.heap.size [.int .i64 gx, .int .i64 fl, .string t] := by rw [← hwB]; exact MA.set 0 _
  have FB : Box wB w2.heap.size [.string f, .int .i64 gv, .int .i64 gx, .slice ax ml cx] := by rw [← hwB]; exact FA.other _ (by show w2.heap.size ≠ w.heap.size; omega) _
  have BB : Below w.heap.size w wB := by rw [← hwB]; exact BA.setCell (Nat.le_refl _) _
  have zB : wB.heap.size = w2.heap.size + 1 := by rw [← hwB, ← zA]; simp
  obtain ⟨wC, hwC⟩ : ∃ W, wB.setCell ⟨w2.heap.size, 2, none⟩ (.int .i64 (gx + 1)) = W := ⟨_, rfl⟩
  have MC : Box wC w.heap.size [.int .i64 gx, .int .i64 fl, .string t] := by rw [← hwC]; exact MB.other _ (by show w.heap.size ≠ w2.heap.size; omega) _
  have FC : Box wC w2.heap.size [.string f, .int .i64 gv, .int .i64 (gx + 1), .slice ax ml cx] := by rw [← hwC]; exact FB.set 2 _
  have BC : Below w.heap.size w wC := by rw [← hwC]; exact BB.setCell (by show w.heap.size ≤ w2.heap.size; omega) _
  have zC : wC.heap.size = w2.heap.size + 1 := by rw [← hwC, ← zB]; simp
  obtain ⟨mA0, mA0f⟩ := MA 0 _ rfl
  obtain ⟨fA2, _⟩ := FA 2 _ rfl
  obtain ⟨fB2, fB2f⟩ := FB 2 _ rfl
  obtain ⟨fC3, _⟩ := FC 3 _ rfl
  obtain ⟨mC0, _⟩ := MC 0 _ rfl
  obtain ⟨mC1, _⟩ := MC 1 _ rfl
  obtain ⟨mC2, _⟩ := MC 2 _ rfl
  obtain ⟨wD, hwD⟩ : ∃ W, wC.alloc (.cells #[.int .i64 gx, .int .i64 fl, .string t] 78) = W := ⟨_, rfl⟩
  have AD : Below wC.heap.size wC wD := by rw [← hwD]; exact (Below.refl _ _).alloc (Nat.le_refl _) _
  have BD : Below w.heap.size w wD := BC.trans (AD.mono BC.size)
  have FD : Hid (Box wD w2.heap.size [.string f, .int .i64 gv, .int .i64 (gx + 1), .slice ax ml cx]) := FC.below AD
  have SD : Hid (Src wD (some ⟨w2.heap.size + 1, 0, none⟩) (cellsMl [(gx, fl, t)])) := by show Src _ _ _; rw [← hwD]; exact src_oneMl zC.symm
  have DD : Hid (DeskAt wD M ⟨a, n, c, va, S.aside, nx, u, S.word, X⟩) := HD.out.later BD
  have OD : Hid (wD.ownsRow (M + 2) 78 3 (.slice ax ml cx) ml (cellsMl gm)) := own_below HO.out BD
  have HBD : Hid (Below w.heap.size w wD) := BD
  have zD : wD.heap.size = w2.heap.size + 2 := by rw [← hwD]; simp; omega
  have hg3 : gx + 1 ≤ 1000 := by omega
  clear X2 B2 AA FA MA BA MB FB BB MC FC BC AD BD
  go_wp2_with (at_builtin; refine wpList_append_srcL _ rfl _ _ 24 rfl (M + 2) 78 (.agg #[.int .i64 0, .int .i64 0, .string ⟨#[]⟩]) 3 32 Tryz.underlying24 infoMl rfl (by decide) (by decide) (.slice ax ml cx) ml (cellsMl gm) rfl OD.out ⟨w2.heap.size + 1, 0, none⟩ 1 1 (cellsMl [(gx, fl, t)]) rfl rfl SD.out (cellsMl_one _) (by omega) (by omega) (by omega) ?_)
  intro v6 w6 hown6 hgrow6 hloc6
  obtain ⟨a6, c6, rfl, _, hl6⟩ := own_src hown6
  have hrow : ∀ g, Value.ownBlock (.slice ax ml cx) = some g → M + 2 ≤ g ∧ g < w.heap.size := fun g h9 => ⟨(HO.out.lt g h9).1, (HO.out.lt g h9).2⟩
  have B6 : Below M w w6 := (HBD.out.mono (by omega)).grown hgrow6 (by omega) (fun g h9 => by have := (hrow g h9).1; omega)
  have X6 : Box w6 w2.heap.size [.string f, .int .i64 gv, .int .i64 (gx + 1), .slice ax ml cx] := FD.out.grown hgrow6 (fun h9 => by have := (hrow _ h9).2; omega)
  have K6 : DeskH w6 M ⟨a, n, c, va, S.aside, nx, u, S.word, X⟩ := by
    obtain ⟨k1, ⟨cl, k2⟩, k3, _⟩ := DD.out
    exact ⟨k1.grown hgrow6 (fun h9 => by have := (hrow _ h9).1; omega), ⟨cl, k2.grown hgrow6 (fun h9 => by have := (hrow _ h9).1; omega)⟩, own_grown k3 hgrow6 (fun g h9 h7 => own_ne k3 OD.out (by decide) g h9 h7)⟩
  have R6 : ∀ z ∈ X, z.k ≠ folderK u f → w6.ownsRow (M + 2) 78 3 z.v z.mails.length (cellsMl z.mails) ∧ ∀ g, z.v.ownBlock = some g → Value.ownBlock (.slice a6 (ml + 1) c6) ≠ some g := fun z hz hzk => by
    have k4 := DD.out.2.2.2
    have kd : ∀ g, z.v.ownBlock = some g → Value.ownBlock (.slice ax ml cx) ≠ some g := fun g h9 => by
      have h7 := rows_apart k4 HX.out.1 hz hzk g h9
      rw [HX.out.2.2, hgn.2.2.2, hml] at h7
      exact h7
    refine ⟨own_grown (k4.1 z hz) hgrow6 kd, fun g h9 h7 => ?_⟩
    rcases hloc6 with h5 | h5
    · rw [h5] at h7; exact kd g h9 h7
    · have h6 := h5 g h7
      have h4 := ((HD.out.2.2.2.1 z hz).lt g h9).2
      omega
  have L6 : ∀ g, Value.ownBlock (.slice a6 (ml + 1) c6) = some g → g ≠ w2.heap.size := fun g h9 h7 => by
    rcases hloc6 with h5 | h5
    · rw [h5] at h9; have := (hrow g h9).2; omega
    · have h6 := h5 g h9
      omega
  have hold : ∀ z ∈ X, z.v.ownBlock ≠ some w2.heap.size := fun z hz h9 => by
    have h7 := ((HD.out.2.2.2.1 z hz).lt _ h9).2
    omega
  have hasd : va.ownBlock ≠ some w2.heap.size := fun h9 => by
    have h7 := (HD.out.2.2.1.lt _ h9).2
    omega
  obtain ⟨w7, hw7⟩ : ∃ W, w6.setCell ⟨w2.heap.size, 3, none⟩ (.slice a6 (ml + 1) c6) = W := ⟨_, rfl⟩
  have X7 : Box w7 w2.heap.size [.string f, .int .i64 gv, .int .i64 (gx + 1), .slice a6 (ml + 1) c6] := by rw [← hw7]; exact X6.set 3 _
  have K7 : Hid (DeskH w7 M ⟨a, n, c, va, S.aside, nx, u, S.word, X⟩) := by
    obtain ⟨k1, ⟨cl, k2⟩, k3⟩ := K6
    rw [← hw7]
    exact ⟨box_far k1 _ _ (by show M + 1 ≠ w2.heap.size; omega), ⟨cl, k2.setCell _ _ (by show M ≠ w2.heap.size; omega)⟩, own_setOther k3 hasd _⟩
  have hKN : (X.map (·.k)).Nodup := by
    rw [HREST.out.2.2.2.keys]
    exact nodup_keys HREST.out.1
  have hgml : (gm ++ [(gx, fl, t)]).length = ml + 1 := by rw [List.length_append, hml]; rfl
  have R7 : Hid (∀ clock, Rows w7 M (setX ⟨folderK u f, 0, f, gv, gx + 1, .slice a6 (ml + 1) c6, gm ++ [(gx, fl, t)]⟩ clock X)) := fun clock => by
    refine rows_set' (fun z hz hzk => by rw [← hw7]; exact own_setOther (R6 z hz hzk).1 (hold z hz) _) HD.out.2.2.2.2 ?_ hKN (fun z hz hzk => (R6 z hz hzk).2) clock
    show World.ownsRow _ _ _ _ _ (gm ++ [(gx, fl, t)]).length _
    rw [hgml, ← hw7, cellsMl_append]
    exact own_setOther hown6 (fun h9 => L6 _ h9 rfl) _
  have B7 : Hid (Below M w w7) := by
    rw [← hw7]
    exact B6.setCell (by show M ≤ w2.heap.size; omega) _
  have CP := putI ⟨folderK u f, 0, f, gv, gx + 1, .slice a6 (ml + 1) c6, gm ++ [(gx, fl, t)]⟩ f gv (gx + 1) a6 (ml + 1) c6 w7 M ⟨a, n, c, va, S.aside, nx, u, S.word, X⟩ rfl (by omega) (by show u.size ≤ 1048576; omega) K7.out R7.out
  obtain ⟨e6, f6⟩ := X6 3 _ rfl
  obtain ⟨g0, _⟩ := X7 0 _ rfl
  obtain ⟨g1, _⟩ := X7 1 _ rfl
  obtain ⟨g2, _⟩ := X7 2 _ rfl
  obtain ⟨g3, _⟩ := X7 3 _ rfl
  clear X7 hold hasd hown6 hgrow6 hloc6 hl6 hrow B6 X6 K6 R6 L6 hKN K7 R7 hgml
  go_wp2_with fail
  refine CP.mono ?_
  rintro e w8 ⟨rfl, ⟨clock, hd8⟩, hb8⟩
  have HF : Hid (StAt w8 M a n c nx u S' (k + 1) ∧ Below M w w8) := by
    rw [HQ9.out.2]
    refine ⟨⟨va, _, hd8, ?_, putF_names HREST.out.1, fun z hz => ?_, by have h9 := HREST.out.2.2.1; show S.aside.length ≤ k + 1; omega⟩, B7.out.trans hb8⟩
    · exact HREST.out.2.2.2.put (y := ⟨folderK u f, 0, f, gv, gx + 1, .slice a6 (ml + 1) c6, gm ++ [(gx, fl, t)]⟩) rfl clock
    · rcases putF_mem hz with hz | rfl
      · have h9 := HREST.out.2.1 z hz; omega
      · refine ⟨by show 1 ≤ gx + 1; omega, by show gx + 1 ≤ 999; omega, ?_⟩
        show (gm ++ [(gx, fl, t)]).length ≤ k + 1
        rw [List.length_append, hml]
        show ml + 1 ≤ k + 1
        omega
  have HQ0 : Hid (0 = q) := HQ9.out.1
  clear CP hd8 hb8 g0 g1 g2 g3
  go_wp2_with fail
  go_ret
  exact ⟨ret_int HQ0.out, HF.out.1, HF.out.2⟩
end Go.Proofs.YthejpemiaenfpaaGreatDoor
namespace Go.Proofs.YthejpemiaenfpaaGreatDoor
open Go.ChangeShapes Go.WideShapes Go.ChangeAt Go.RowKit Go.Deep Go.Lib
set_option linter.unusedVariables false
set_option linter.unusedSimpArgs false
set_option maxRecDepth 100000

/-- What a folder on the desk is of the list, and that its uids are below the next. -/
def FolOf (nx : Int) (u : ByteArray) (L : List PM) (g : FM) : Prop := (∃ w f, (folderK u g.name, w) ∈ L ∧ folderM nx g.name w = some f ∧ g.val = f.val ∧ g.next = f.next) ∧ ∀ m ∈ g.mails, m.1 < g.next
theorem fol_take {nx : Int} {u : ByteArray} {L : List PM} {S S' : SM} {q : PM} (hnx : nx ≤ 10000) (hq : q ∈ L) (hS : ∀ g ∈ S.fs, FolOf nx u L g) (h : takeM nx u S q = some S') : ∀ g ∈ S'.fs, FolOf nx u L g := by
  have hput : ∀ {o : Option FM}, putM S o = some S' → (∀ g, o = some g → FolOf nx u L g) → ∀ g ∈ S'.fs, FolOf nx u L g := fun {o} h9 hg => by
    unfold putM at h9
    obtain ⟨g, rfl, rfl⟩ := Option.map_eq_some_iff.1 h9
    intro f hf
    rcases putF_mem hf with hf | rfl
    · exact hS f hf
    · exact hg _ rfl
  have haside : asideM S q = some S' → ∀ g ∈ S'.fs, FolOf nx u L g := fun h9 => by cases h9; exact hS
  unfold takeM takeP at h
  split at h
  · split at h
    · unfold userM at h
      obtain ⟨_, rfl⟩ := ite_some h
      exact hS
    · exact haside h
  · rename_i a b c hG
    split at h
    · rename_i hc
      refine hput h fun g hg => ?_
      have hgf := (folder_meta hnx).1 hg
      have hgn : g.name = bs c := by rw [hgf.2.2.2]
      have hgm : g.mails = [] := by rw [hgf.2.2.2]
      have hsp : splitL 47 q.1.data.toList = [[102], b, c] := by rw [hG, hc.2]
      have hk := (key_folder hsp).1
      rw [hc.1] at hk
      refine ⟨⟨q.2, g, by rw [hgn, ← hk]; exact hq, by rw [hgn]; exact hg, rfl, rfl⟩, fun m hm => ?_⟩
      rw [hgm] at hm
      cases hm
    · exact haside h
  · rename_i a b c d hG
    split at h
    · refine hput h fun g hg => ?_
      unfold mailM at hg
      obtain ⟨f', hl, hg2⟩ := Option.bind_eq_some_iff.1 hg
      obtain ⟨un, m1, m2, m3, m4, m5, m6, m7, m8, hgm⟩ := mailO_some hg2
      obtain ⟨e1, e2⟩ := hS f' (lookF_mem hl).1
      rw [hgm]
      refine ⟨e1, fun m hm => ?_⟩
      rcases List.mem_append.1 (show m ∈ f'.mails ++ [((un : Int), hdV q.2 - 48, q.2.extract 1 q.2.size)] from hm) with hm | hm
      · exact e2 m hm
      · rw [List.mem_singleton.1 hm]
        exact m8
    · exact haside h
  · exact haside h
theorem fol_all {nx : Int} {u : ByteArray} {L : List PM} (hnx : nx ≤ 10000) : ∀ {R : List PM} {S S' : SM}, (∀ q ∈ R, q ∈ L) → (∀ g ∈ S.fs, FolOf nx u L g) → takeAll nx u S R = some S' → ∀ g ∈ S'.fs, FolOf nx u L g
  | [], S, S', _, hS, h => by cases h; exact hS
  | q :: R, S, S', hR, hS, h => by
    unfold takeAll at h
    obtain ⟨S1, h1, h2⟩ := Option.bind_eq_some_iff.1 h
    exact fol_all hnx (fun x hx => hR x (List.mem_cons_of_mem _ hx)) (fol_take hnx (hR q List.mem_cons_self) hS h1) h2
theorem store_fol {L : List PM} {u : ByteArray} {S : SM} (h : storeB L = true) (hS : takeAll (nextM L) u S0 L = some S) : ∀ g ∈ S.fs, FolOf (nextM L) u L g := by
  obtain ⟨hg, nx0, hnm, n1, n2, _, _, _⟩ := store_facts h
  exact fol_all (by omega) (fun q hq => hq) (fun f hf => by cases hf) hS
theorem look_meta {L : List PM} {u f : ByteArray} {S : SM} {g : FM} (h : storeB L = true) (hS : takeAll (nextM L) u S0 L = some S) (hl : lookF f S.fs = some g) : metaM L u f = some (g.val, g.next) := by
  obtain ⟨hg, nx0, hnm, n1, n2, _, _, _⟩ := store_facts h
  obtain ⟨hm, hn⟩ := lookF_mem hl
  obtain ⟨⟨w, f2, k1, k2, k3, k4⟩, _⟩ := store_fol h hS g hm
  rw [hn] at k1 k2
  have k5 := ((folder_meta (by omega)).1 k2).2.1
  unfold metaM
  rw [(getM_mem hg.2.2).2 k1]
  show metaV w = _
  rw [k5, k3, k4]
theorem mail_is {L : List PM} {u : ByteArray} (h : storeB L = true) (hus : (47 : UInt8) ∉ u.data.toList) {q : PM} (hq : q ∈ L) : isMail u q = beginsB q.1 (mailsK u) := by
  rw [Bool.eq_iff_iff]
  refine ⟨mail_begins, fun hb => ?_⟩
  obtain ⟨r, hr⟩ := begins_parts hus hb
  obtain ⟨_, nx0, _, _, _, _, _, k⟩ := store_facts h
  rcases k _ hq with k | ⟨u', k1, _⟩
  · rw [k] at hr
    have h9 : splitL 47 vK.data.toList = [[118]] := rfl
    rw [h9] at hr
    simp at hr
  · unfold ownerM at k1
    rw [hr] at k1
    unfold isMail
    rw [hr]
    match r, k1 with
    | [], k1 => exact absurd k1 (by unfold ownerG; simp)
    | [c], k1 => exact absurd k1 (by unfold ownerG; simp)
    | [c, d], _ => exact decide_eq_true ⟨rfl, data_bs u⟩
    | _ :: _ :: _ :: _, k1 => exact absurd k1 (by unfold ownerG; simp)
theorem sum_count {L : List PM} {u : ByteArray} {S : SM} (h : storeB L = true) (hus : (47 : UInt8) ∉ u.data.toList) (hS : takeAll (nextM L) u S0 L = some S) : sumF S.fs = countM L u := by
  obtain ⟨S', k1, _, hI⟩ := take_all h hus
  rw [hS] at k1
  cases k1
  rw [hI.c]
  unfold countM
  congr 1
  exact List.filter_congr fun q hq => mail_is h hus hq
theorem count_six {L : List PM} {u : ByteArray} {S : SM} (h : storeB L = true) (hus : (47 : UInt8) ∉ u.data.toList) (hS : takeAll (nextM L) u S0 L = some S) (hk : (getM L (userK u)).isSome = true) : sumF S.fs ≤ 6 := by
  obtain ⟨hg, nx0, hnm, n1, n2, _, hlay, _⟩ := store_facts h
  obtain ⟨v, hv⟩ := Option.isSome_iff_exists.1 hk
  have h1 := hlay u ⟨_, (getM_mem hg.2.2).1 hv, rfl⟩
  rw [hnm] at h1
  unfold layF at h1
  rw [hS] at h1
  have h2 : ((lookF inboxT S.fs).isSome && decide (sumF S.fs ≤ 6)) = true := h1
  rw [Bool.and_eq_true, decide_eq_true_eq] at h2
  exact h2.2
def appT (L : List PM) (u f t : ByteArray) (fl : Int) : List PM × Int × Int :=
  if countM L u = 6 then (L, 0, 12) else if (metaD L u f).2 = 999 then (L, 0, 6) else if 60 < (appY L u f t fl).length then (L, 0, 7) else (appY L u f t fl, (metaD L u f).2, 0)
theorem d3_inj {a b : Nat} (ha : a < 1000) (hb : b < 1000) (h : d3 a = d3 b) : a = b := by
  have h1 := (d3_is a ha).2
  rw [h, (d3_is b hb).2] at h1
  exact (Option.some.inj h1).symm
theorem mails_not {u n f : ByteArray} {ms : List MMl} : ∀ p ∈ ms.map (mailP u n), p.1 ≠ folderK u f := fun p hp e => by
  obtain ⟨m, _, rfl⟩ := List.mem_map.1 hp
  have h9 := congrArg (fun x : ByteArray => x.data.toList) e
  simp only [mailP, folderK_data] at h9
  simp [bs] at h9
theorem same_name {fs : List FM} (hn : (fs.map (·.name)).Nodup) {a b : FM} (ha : a ∈ fs) (hb : b ∈ fs) (h : a.name = b.name) : a = b := by
  induction fs with
  | nil => cases ha
  | cons x fs ih =>
    rw [List.map_cons, List.nodup_cons] at hn
    rcases List.mem_cons.1 ha with ha1 | ha1
    · rcases List.mem_cons.1 hb with hb1 | hb1
      · rw [ha1, hb1]
      · exact absurd (List.mem_map.2 ⟨b, hb1, by rw [← h, ha1]⟩) hn.1
    · rcases List.mem_cons.1 hb with hb1 | hb1
      · exact absurd (List.mem_map.2 ⟨a, ha1, by rw [h, hb1]⟩) hn.1
      · exact ih hn.2 ha1 hb1
theorem look_self {fs : List FM} (hn : (fs.map (·.name)).Nodup) {g : FM} (hg : g ∈ fs) : lookF g.name fs = some g := by
  obtain ⟨g2, h2⟩ := Option.isSome_iff_exists.1 (look_mem' hg)
  obtain ⟨h3, h4⟩ := lookF_mem h2
  rw [h2, same_name hn h3 hg h4]
/-- A mail's key in the list is that of a mail on the desk. -/
theorem mail_there {L : List PM} {u f : ByteArray} {S : SM} {g : FM} {n : Nat} {v : ByteArray} (h : storeB L = true) (hus : (47 : UInt8) ∉ u.data.toList) (hfs : (47 : UInt8) ∉ f.data.toList) (hS : takeAll (nextM L) u S0 L = some S) (hl : lookF f S.fs = some g) (hn : n < 1000) (hm : (mailK u f (n : Int), v) ∈ L) : ∃ m ∈ g.mails, m.1 = (n : Int) ∧ mailV m = v := by
  have hnd := names_all (S := S0) List.nodup_nil hS
  have hd := (take_desk h hus hS).mem_iff.2 hm
  have hkd : (mailK u f (n : Int)).data.toList = 109 :: 47 :: (u.data.toList ++ 47 :: (f.data.toList ++ 47 :: d3 n)) := by simp [bs]
  have hsp : splitL 47 (mailK u f (n : Int)).data.toList = [109] :: u.data.toList :: f.data.toList :: splitL 47 (d3 n) := by
    rw [hkd]
    have e : (109 : UInt8) :: 47 :: (u.data.toList ++ 47 :: (f.data.toList ++ 47 :: d3 n)) = [109] ++ 47 :: (u.data.toList ++ 47 :: (f.data.toList ++ 47 :: d3 n)) := rfl
    rw [e, splitL_seg 47 [109] _ (by decide), splitL_seg 47 _ _ hus, splitL_seg 47 _ _ hfs]
  have how : ownerM (mailK u f (n : Int), v) = some u := by
    obtain ⟨_, nx0, _, _, _, _, _, k⟩ := store_facts h
    rcases k _ hm with k | ⟨u', k1, _⟩
    · exact absurd k (mailK_not _ _ _)
    · unfold ownerM at k1 ⊢
      rw [hsp] at k1 ⊢
      match hq : splitL 47 (d3 n), k1 with
      | [], k1 => exact absurd hq (splitL_ne 47 _)
      | [d], k1 =>
        show (if ([109] : List UInt8) = [109] then some (bs u.data.toList) else none) = some u
        rw [if_pos rfl, data_bs]
      | _ :: _ :: _, k1 => cases k1
  unfold deskX at hd
  rcases List.mem_append.1 hd with hd | hd
  · exfalso
    rw [all_aside hS] at hd
    have h3 : (mailK u f (n : Int), v) ∈ L.filter fun p => !isOwn u p := by simpa using hd
    have h5 := (List.mem_filter.1 h3).2
    rw [show isOwn u (mailK u f (n : Int), v) = true from decide_eq_true how] at h5
    cases h5
  · rcases List.mem_append.1 hd with hd | hd
    · exfalso
      unfold wordL at hd
      split at hd
      · cases hd
      · have h9 := congrArg Prod.fst (List.mem_singleton.1 hd)
        have h7 := congrArg (fun x : ByteArray => x.data.toList) h9
        simp [bs, ByteArray.data_append] at h7
    · obtain ⟨g2, hg2, hp⟩ := flat_mem hd
      unfold fPairs at hp
      rcases List.mem_cons.1 hp with hp | hp
      · exfalso
        have h9 := congrArg Prod.fst hp
        have h7 := congrArg (fun x : ByteArray => x.data.toList) h9
        simp only [folderK_data] at h7
        simp [bs] at h7
      · obtain ⟨m, hm1, hm2⟩ := List.mem_map.1 hp
        have h9 := congrArg Prod.fst hm2
        have h7 := congrArg (fun x : ByteArray => x.data.toList) h9
        have h6 : 109 :: 47 :: (u.data.toList ++ 47 :: (g2.name.data.toList ++ 47 :: d3 m.1.toNat)) = 109 :: 47 :: (u.data.toList ++ 47 :: (f.data.toList ++ 47 :: d3 n)) := by
          simpa [mailP, bs] using h7
        simp only [List.cons.injEq, true_and] at h6
        obtain ⟨_, h5⟩ := seg_inj hus hus h6
        obtain ⟨h4, h3⟩ := seg_inj (word_slash (name_short h hus hS hg2)) hfs h5
        have h2 : g2.name = f := bs_inj h4
        have h1 : g2 = g := by
          have h8 := look_self hnd hg2
          rw [h2, hl] at h8
          exact (Option.some.inj h8).symm
        subst h1
        have hft := (store_fit h hS g2 hg2).2.2.2.2.2 m hm1
        have h0 := d3_inj (by omega) hn h3
        exact ⟨m, hm1, by omega, congrArg Prod.snd hm2⟩
/-- The desk and the list, one folder told apart. -/
theorem desk_apart {L : List PM} {u f : ByteArray} {S : SM} {g : FM} (h : storeB L = true) (hus : (47 : UInt8) ∉ u.data.toList) (hfs : (47 : UInt8) ∉ f.data.toList) (hS : takeAll (nextM L) u S0 L = some S) (hw : S.word.toList ≠ []) (hl : lookF f S.fs = some g) :
    (notK (folderK u f) L).Perm ((vK, bs (itoa (nextM L))) :: (userK u, S.word) :: (notK vK S.aside ++ (g.mails.map (mailP u f) ++ flatF u (dropF f S.fs)))) := by
  have hnd := names_all (S := S0) List.nodup_nil hS
  refine (notK_perm (desk_list h hus hS hw)).trans ?_
  rw [notK_cons _ _ _ (folder_not u f).symm, notK_cons _ _ _ (fun e => by
    have h9 := congrArg (fun x : ByteArray => x.data.toList) e
    simp [ByteArray.data_append] at h9), notK_app]
  refine List.Perm.cons _ (List.Perm.cons _ ?_)
  have e1 : notK (folderK u f) (notK vK S.aside) = notK vK S.aside := notK_self fun p hp => by
    have h9 := aside_pass h hus hfs hS hp
    unfold passB at h9
    rw [Bool.and_eq_true, decide_eq_true_eq] at h9
    exact h9.1
  rw [e1]
  refine List.Perm.append_left _ ?_
  refine (notK_perm (flat_perm (drop_perm hl))).trans ?_
  rw [flat_cons, notK_app]
  have hgn := (lookF_mem hl).2
  have e2 : notK (folderK u f) (fPairs u g) = g.mails.map (mailP u f) := by
    unfold fPairs
    rw [hgn, notK_skip (folderK u f) (folderK u f, metaT g.val g.next) _ rfl, notK_self mails_not]
  have e3 : notK (folderK u f) (flatF u (dropF f S.fs)) = flatF u (dropF f S.fs) := notK_self fun p hp => by
    have h8 := rest_pass (fs := dropF f S.fs) hus hfs fun x hx => ⟨drop_names hnd x hx, word_slash (name_short h hus hS ((dropF_sub f S.fs).subset hx))⟩
    have h9 := List.filter_eq_self.1 h8 p hp
    unfold passB at h9
    rw [Bool.and_eq_true, decide_eq_true_eq] at h9
    exact h9.1
  rw [e2, e3]
def AppFits (L : List PM) (nx : Int) (u : ByteArray) (gx : Int) (q : Int) (S' : SM) (A : List PM × Int × Int) : Prop :=
  (q ≠ 0 → A = (L, 0, q)) ∧ (q = 0 → (∀ f ∈ S'.fs, FitF f) ∧ ∃ Y, UpL Y ∧ (deskP nx u S').Perm Y ∧ Y.length ≤ 4000 ∧ A = if 60 < Y.length then (L, 0, 7) else (Y, gx, 0))
theorem app_fits {L : List PM} {u f t : ByteArray} {fl : Int} {S S' : SM} {g : FM} {q : Int} (h : storeB L = true) (hsu : shortB u = true) (hsf : shortB f = true) (hts : t.size ≤ 1000) (f0 : 0 ≤ fl) (f1 : fl ≤ 3) (hS : takeAll (nextM L) u S0 L = some S) (hw : S.word.toList ≠ []) (hl : lookF f S.fs = some g) (hQ : apM S g fl t = (q, S')) : AppFits L (nextM L) u g.next q S' (appT L u f t fl) := by
  have hus := word_slash hsu
  have hfs := word_slash hsf
  obtain ⟨hg, nx0, hnm, n1, n2, _, _, _⟩ := store_facts h
  have hmd : metaD L u f = (g.val, g.next) := by unfold metaD; rw [look_meta h hS hl]; rfl
  have hgm := (lookF_mem hl).1
  have hgn := (lookF_mem hl).2
  have hs : (getM L (userK u)).isSome = true := by
    cases hv : getM L (userK u) with
    | none => exact absurd ((word_iff h hus hS).1.2 hv) hw
    | some v => rfl
  have h6 := count_six h hus hS hs
  have hsc := sum_count h hus hS
  unfold apM at hQ
  unfold appT
  rw [← hsc, hmd]
  by_cases hc : 6 ≤ sumF S.fs
  · rw [if_pos hc] at hQ
    cases hQ
    rw [if_pos (by omega)]
    exact ⟨fun _ => rfl, fun h9 => by cases h9⟩
  · rw [if_neg hc] at hQ
    rw [if_neg (by omega)]
    by_cases hx : g.next = 999
    · rw [if_pos hx] at hQ
      cases hQ
      rw [if_pos hx]
      exact ⟨fun _ => rfl, fun h9 => by cases h9⟩
    · rw [if_neg hx] at hQ
      cases hQ
      rw [if_neg hx]
      have hfit := store_fit h hS g hgm
      obtain ⟨p1, p2, p3, p4⟩ := meta_range (look_meta h hS hl)
      dsimp only at p1 p2 p3 p4
      obtain ⟨k1, k2⟩ := app_len hg u f t fl
      refine ⟨fun h9 => absurd rfl h9, fun _ => ⟨fun z hz => ?_, appY L u f t fl, k2, ?_, by omega, rfl⟩⟩
      · rcases putF_mem hz with hz | rfl
        · exact store_fit h hS z hz
        · obtain ⟨e1, e2, e3, e4, e5, e6⟩ := hfit
          refine ⟨e1, e2, by show 0 ≤ g.next + 1; omega, by show g.next + 1 ≤ 10000; omega, e5, fun m hm => ?_⟩
          rcases List.mem_append.1 (show m ∈ g.mails ++ [(g.next, fl, t)] from hm) with hm | hm
          · exact e6 m hm
          · rw [List.mem_singleton.1 hm]
            exact ⟨by show 0 ≤ g.next; omega, by show g.next < 1000; omega, f0, f1, hts⟩
      · unfold appY
        rw [hmd]
        dsimp only
        have hu1 := ins_up (k := folderK u f) (v := metaT g.val (g.next + 1)) hg.2.2
        refine List.Perm.trans ?_ (ins_perm hu1).symm
        have hno : notK (mailK u f g.next) (insL (folderK u f) (metaT g.val (g.next + 1)) L) = insL (folderK u f) (metaT g.val (g.next + 1)) L := notK_self fun x hx2 e => by
          rcases ins_mem hg.2.2 hx2 with rfl | hx2
          · have h9 := congrArg (fun x : ByteArray => x.data.toList) e
            simp only [folderK_data] at h9
            simp [bs] at h9
          · have hx3 : (mailK u f ((g.next.toNat : Nat) : Int), x.2) ∈ L := by
              rw [show ((g.next.toNat : Nat) : Int) = g.next by omega, ← e]
              exact hx2.1
            obtain ⟨m, hm1, hm2, _⟩ := mail_there h hus hfs hS hl (by omega) hx3
            have h8 := (store_fol h hS g hgm).2 m hm1
            omega
        rw [hno]
        refine List.Perm.trans ?_ (List.Perm.cons _ (ins_perm hg.2.2).symm)
        refine List.Perm.trans ?_ (List.Perm.cons _ (List.Perm.cons _ (desk_apart h hus hfs hS hw hl).symm))
        unfold deskP
        have hfl : (flatF u (putF (moreF g fl t) S.fs)).Perm (fPairs u (moreF g fl t) ++ flatF u (dropF f S.fs)) := by
          have h9 := flat_perm (u := u) (put_perm (g := moreF g fl t) (f := g) (fs := S.fs) (by show lookF g.name S.fs = some g; rw [hgn]; exact hl))
          rw [flat_cons] at h9
          have e9 : (moreF g fl t).name = f := hgn
          rw [e9] at h9
          exact h9
        have hfp : fPairs u (moreF g fl t) = (folderK u f, metaT g.val (g.next + 1)) :: (g.mails.map (mailP u f) ++ [(mailK u f g.next, mailV (g.next, fl, t))]) := by
          unfold fPairs moreF
          dsimp only
          rw [hgn, List.map_append]
          rfl
        refine (List.Perm.cons _ (List.Perm.cons _ (List.Perm.append_left _ hfl))).trans ?_
        rw [hfp]
        -- v, u, A ++ (F :: (ms ++ [m]) ++ r)  against  m :: F :: v :: u :: (A ++ (ms ++ r))
        have e1 : ∀ (v w F m : PM) (A ms r : List PM), (v :: w :: (A ++ ((F :: (ms ++ [m])) ++ r))).Perm (m :: F :: v :: w :: (A ++ (ms ++ r))) := fun v w F m A ms r => by
          have p1 : (A ++ ((F :: (ms ++ [m])) ++ r)).Perm (m :: F :: (A ++ (ms ++ r))) := by
            have p2 : ((F :: (ms ++ [m])) ++ r).Perm (m :: F :: (ms ++ r)) := by
              have p3 : ((ms ++ [m]) ++ r).Perm (m :: (ms ++ r)) := by
                rw [List.append_assoc]
                exact List.perm_middle
              exact (List.Perm.cons F p3).trans (List.Perm.swap _ _ _)
            refine (List.Perm.append_left A p2).trans ?_
            refine (List.perm_middle).trans ?_
            exact List.Perm.cons _ List.perm_middle
          refine (List.Perm.cons v (List.Perm.cons w p1)).trans ?_
          refine (List.Perm.cons v (List.Perm.swap _ _ _)).trans ?_
          refine (List.Perm.swap _ _ _).trans ?_
          refine List.Perm.cons m ?_
          refine (List.Perm.cons v (List.Perm.swap _ _ _)).trans ?_
          exact List.Perm.swap _ _ _
        exact e1 _ _ _ _ _ _ _
theorem appR_T {L : List PM} {u f t : ByteArray} {fl : Int} (h : knownR L u f = 0) : appR L u f t fl = appT L u f t fl := by
  unfold appR appT
  rw [if_neg (by simp [h])]
end Go.Proofs.YthejpemiaenfpaaGreatDoor
namespace Go.Proofs.YthejpemiaenfpaaGreatDoor
open Go.ChangeShapes Go.WideShapes Go.ChangeAt Go.RowKit Go.Deep Go.Lib
set_option linter.unusedVariables false
set_option linter.unusedSimpArgs false
set_option maxRecDepth 100000

set_option maxHeartbeats 4000000 in
theorem appendedI (w : World) (M : Nat) (a : Option Addr) (n c : Nat) (nx : Int) (u : ByteArray) (S : SM) (k : Nat) (hS : StAt w M a n c nx u S k) (f : ByteArray) (g : FM) (hl : lookF f S.fs = some g) (hfz : f.size ≤ 1000) (hu : u.size ≤ 1000) (x0 fl : Int) (t : ByteArray) (hsum : sumF S.fs ≤ 60) (hk : k ≤ 999) (n0 : 0 ≤ nx) (n1 : nx ≤ 10000) (L : List PM) (hL : L.length = n) (hn60 : n ≤ 60) (h : Src w a (cellsP L)) (hG : Gl w) (h8 : 8 ≤ M) (ha : ∀ ad, a = some ad → ad.block < M) (A : List PM × Int × Int) (HAF : ∀ q S', apM S g fl t = (q, S') → AppFits L nx u g.next q S' A) (R : List PM) (q1 q2 : Int) (HA : Hid (A = (R, q1, q2))) :
    Calls Tryz.prog 69 #[.pointer (some ⟨M + 1, 0, none⟩), .string f, .agg #[.int .i64 x0, .int .i64 fl, .string t]] w fun e w' => ∃ v, e = .returned (.tuple #[v, .int .i64 q1, .int .i64 q2]) ∧ w'.ownsRow w.heap.size 59 2 v R.length (cellsP R) ∧ Below M w w' := by
  have hSS := hS
  obtain ⟨va, X, hD, hV, hN, hf, hkk⟩ := hSS
  have hM1 : M + 1 < w.heap.size := World.block_lt_of_cell? _ _ (hD.1 0 _ rfl).1
  obtain ⟨w0, hw0⟩ : ∃ W, w.alloc (.cells #[.int .i64 x0, .int .i64 fl, .string t] 78) = W := ⟨_, rfl⟩
  have A0 : Below w.heap.size w w0 := by rw [← hw0]; exact (Below.refl _ _).alloc (Nat.le_refl _) _
  have X0 : Hid (Box w0 w.heap.size [.int .i64 x0, .int .i64 fl, .string t]) := by show Box _ _ _; rw [← hw0]; exact Box.new rfl
  have HA0 : Hid (Below w.heap.size w w0) := A0
  obtain ⟨x, hx, hxg⟩ : ∃ x, lookX (folderK u f) X = some x ∧ fmX x = g := by
    have h9 := hV.look f
    rw [hl] at h9
    obtain ⟨x, h1, h2⟩ := Option.map_eq_some_iff.1 h9
    exact ⟨x, h1, h2⟩
  obtain ⟨ax, cx, hxv, _, _⟩ := own_src (hD.2.2.2.1 x (look_mem hx))
  have CT := atI f w0 M _ (by omega) (by show u.size ≤ 1048576; omega) (hD.later A0)
  have hat : atX (lookX (folderK u f) X) = .agg #[.string x.name, .int .i64 x.val, .int .i64 x.next, .slice ax x.mails.length cx] := by
    rw [hx]
    show valX x = _
    unfold valX
    rw [hxv]
  simp only [hat] at CT
  have hgx : x.next = g.next := by rw [← hxg]
  rw [hgx] at CT
  obtain ⟨q, S', hop⟩ : ∃ q S', apM S g fl t = (q, S') := ⟨_, _, rfl⟩
  have HOF : Hid (AppFits L nx u g.next q S' A) := HAF q S' hop
  have CA := fun W (hW : Below w.heap.size w W) => appendMailI W M a n c nx u S k (hS.later hW) f g hl hfz hu x0 fl t hsum (by omega) q S' hop
  obtain ⟨gx, hgx2⟩ : ∃ z, g.next = z := ⟨_, rfl⟩
  rw [hgx2] at CT HOF
  obtain ⟨xn, hxn⟩ : ∃ z, x.name = z := ⟨_, rfl⟩
  obtain ⟨xv, hxv2⟩ : ∃ z, x.val = z := ⟨_, rfl⟩
  obtain ⟨ml, hml⟩ : ∃ z, x.mails.length = z := ⟨_, rfl⟩
  rw [hxn, hxv2, hml] at CT
  have HS : Hid (Src w a (cellsP L) ∧ L.length = n ∧ Gl w) := ⟨h, hL, hG⟩
  have HSM : Hid (∀ W, Below M w W → Src W a (cellsP L)) := fun W hW => by
    rcases h with h | ⟨b, o, rfl, hc⟩
    · exact .inl h
    · refine .inr ⟨b, o, rfl, fun j hj => ?_⟩
      have hb : b < M := ha _ rfl
      rw [World.cell?_of_block (a := ⟨b, o + j, none⟩) (hW.block b hb)]
      exact hc j hj
  clear hD hV hN hf hkk hat hx hxg hxv hgx hop HAF hS A0 hgx2 hxn hxv2 hml h hL hG
  have hfl : ∀ W, (Instr.field 26 (.agg #[.string xn, .int .i64 xv, .int .i64 gx, .slice ax ml cx]) 2).run Tryz.prog W = .ok (.int .i64 gx) W := fun W => by
    kernel_rfl
  go_enter Tryz.func69, Tryz.ntmps69
  go_wp2_with fail
  refine CT.mono ?_
  rintro e w1 ⟨rfl, hb1⟩
  have X1 : Hid (Box w1 w.heap.size [.int .i64 x0, .int .i64 fl, .string t]) := X0.out.below hb1
  have B1 : Hid (Below w.heap.size w w1) := HA0.out.trans (hb1.mono HA0.out.size)
  have CA1 := CA w1 B1.out
  obtain ⟨e0', _⟩ := X1.out 0 _ rfl
  obtain ⟨e1', _⟩ := X1.out 1 _ rfl
  obtain ⟨e2', _⟩ := X1.out 2 _ rfl
  clear hb1 CT CA
  go_wp2_with fail
  refine CA1.mono ?_
  rintro e w2 ⟨rfl, hst2, hb2⟩
  have B2 : Hid (Below M w w2) := (B1.out.mono (by omega)).trans hb2
  have Z2 : Hid (w.heap.size ≤ w2.heap.size) := B2.out.size
  have HST2 : Hid (StAt w2 M a n c nx u S' (k + 1)) := hst2
  clear hst2 hb2 CA1 e0' e1' e2'
  by_cases hq : q = 0
  · subst hq
    obtain ⟨k3, Y, k4, k5, k6, k7⟩ := HOF.out.2 rfl
    rw [HA.out] at k7
    by_cases h60 : 60 < Y.length
    · rw [if_pos h60] at k7
      obtain ⟨rfl, rfl, rfl⟩ : R = L ∧ q1 = 0 ∧ q2 = 7 := by cases k7; exact ⟨rfl, rfl, rfl⟩
      have CE := doneOk w2 M a n c nx u S' (k + 1) HST2.out hu n0 n1 k3 (by omega) (HS.out.2.2.below h8 B2.out) h8 Y k4 k5 _ rfl k6 R HS.out.2.1 hn60 (HSM.out w2 B2.out) R 7 (by show _ = _; rw [if_pos h60])
      clear k3 k4 k5 k6 k7 HOF
      go_wp2_with fail
      refine CE.mono ?_
      rintro e w6 ⟨v6, rfl, ho6, hb6⟩
      obtain ⟨a6, c6, rfl, _, _⟩ := own_src ho6
      have HF : Hid (w6.ownsRow w.heap.size 59 2 (.slice a6 R.length c6) R.length (cellsP R) ∧ Below M w w6) := ⟨own_mono ho6 Z2.out, B2.out.trans (hb6.mono (by have := Z2.out; omega))⟩
      clear CE ho6 hb6
      go_wp2_with fail
      exact bodyPost_ret (v := .tuple #[.slice a6 R.length c6, .int .i64 0, .int .i64 7]) (by simp [results, Tryz.results69, go_sem]) rfl ⟨_, rfl, HF.out⟩
    · rw [if_neg h60] at k7
      obtain ⟨rfl, rfl, rfl⟩ : R = Y ∧ q1 = gx ∧ q2 = 0 := by cases k7; exact ⟨rfl, rfl, rfl⟩
      have CE := doneOk w2 M a n c nx u S' (k + 1) HST2.out hu n0 n1 k3 (by omega) (HS.out.2.2.below h8 B2.out) h8 R k4 k5 _ rfl k6 L HS.out.2.1 hn60 (HSM.out w2 B2.out) R 0 (by show _ = _; rw [if_neg h60])
      clear k3 k4 k5 k6 k7 HOF
      go_wp2_with fail
      refine CE.mono ?_
      rintro e w6 ⟨v6, rfl, ho6, hb6⟩
      obtain ⟨a6, c6, rfl, _, _⟩ := own_src ho6
      have HF : Hid (w6.ownsRow w.heap.size 59 2 (.slice a6 R.length c6) R.length (cellsP R) ∧ Below M w w6) := ⟨own_mono ho6 Z2.out, B2.out.trans (hb6.mono (by have := Z2.out; omega))⟩
      clear CE ho6 hb6
      go_wp2_with fail
      exact bodyPost_ret (v := .tuple #[.slice a6 R.length c6, .int .i64 q1, .int .i64 0]) (by simp [results, Tryz.results69, go_sem]) rfl ⟨_, rfl, HF.out⟩
  · have k7 := HOF.out.1 hq
    rw [HA.out] at k7
    obtain ⟨hk1, hk2, hk3⟩ : R = L ∧ 0 = q1 ∧ q = q2 := by cases k7; exact ⟨rfl, rfl, rfl⟩
    have e0c : w2.cell? ⟨M + 1, 0, none⟩ = some (.slice a n c) := by
      obtain ⟨_, _, hD, _⟩ := HST2.out
      exact (hD.1 0 _ rfl).1
    have CE := doneBad q hq w2 M a n c L HS.out.2.1 hn60 e0c (HSM.out w2 B2.out)
    have HK : Hid (R = L ∧ 0 = q1 ∧ q = q2) := ⟨hk1, hk2, hk3⟩
    have hqi : (q != 0) = true := by simpa using hq
    clear k7 HOF hk1 hk2 hk3 e0c
    go_wp2_with fail
    refine CE.mono ?_
    rintro e w6 ⟨v6, rfl, ho6, hb6⟩
    obtain ⟨a6, c6, rfl, _, _⟩ := own_src ho6
    have HF : Hid (w6.ownsRow w.heap.size 59 2 (.slice a6 n c6) R.length (cellsP R) ∧ Below M w w6) := ⟨by rw [HK.out.1, HS.out.2.1]; exact own_mono ho6 Z2.out, B2.out.trans (hb6.mono (by have := Z2.out; omega))⟩
    have HK2 : Hid (0 = q1 ∧ q = q2) := HK.out.2
    clear CE ho6 hb6
    go_wp2_with fail
    exact bodyPost_ret (v := .tuple #[.slice a6 n c6, .int .i64 0, .int .i64 q]) (by simp [results, Tryz.results69, go_sem]) rfl ⟨_, by rw [HK2.out.1, HK2.out.2], HF.out⟩
theorem lack_known {L : List PM} {u f : ByteArray} {S : SM} (h : storeB L = true) (hus : (47 : UInt8) ∉ u.data.toList) (hfs : (47 : UInt8) ∉ f.data.toList) (hS : takeAll (nextM L) u S0 L = some S) : lackM S.word S.fs [f] = knownR L u f := by
  obtain ⟨hwi, _⟩ := word_iff h hus hS
  obtain ⟨hli, _⟩ := look_iff h hus hS hfs
  unfold lackM knownR
  by_cases hw : S.word.toList = []
  · rw [if_pos hw, hwi.1 hw]
    rfl
  · have hs : (getM L (userK u)).isSome = true := by
      cases hv : getM L (userK u) with
      | none => exact absurd (hwi.2 hv) hw
      | some v => rfl
    have hall : [f].all (fun s => (lookF s S.fs).isSome) = (lookF f S.fs).isSome := by simp
    rw [if_neg hw, hs, hall, hli]
    rfl
theorem known_zero {L : List PM} {u f : ByteArray} {S : SM} (h : storeB L = true) (hus : (47 : UInt8) ∉ u.data.toList) (hfs : (47 : UInt8) ∉ f.data.toList) (hS : takeAll (nextM L) u S0 L = some S) (hk : knownR L u f = 0) : S.word.toList ≠ [] ∧ ∃ g, lookF f S.fs = some g := by
  rw [← lack_known h hus hfs hS] at hk
  unfold lackM at hk
  split at hk
  · cases hk
  · rename_i hw
    split at hk
    · cases hk
    · rename_i hb
      refine ⟨hw, Option.isSome_iff_exists.1 ?_⟩
      cases h9 : (lookF f S.fs).isSome with
      | true => rfl
      | false => exact absurd (by show ((lookF f S.fs).isSome && true) = false; rw [h9]; rfl) hb
def flagB (fl : Int) : Bool := decide (0 ≤ fl) && decide (fl ≤ 3)
def amR (L : List PM) (u f t : ByteArray) (fl : Int) : List PM × Int × Int :=
  if 65536 < t.size then ([], 0, 2) else if askM L [u, f] ≠ 0 then ([], 0, askM L [u, f]) else if 85 < t.size ∨ flagB fl = false then ([], 0, 4) else appR L u f t fl
theorem am_bad {L : List PM} {u f t : ByteArray} {fl : Int} {R : List PM} {q1 q2 : Int} (h : amR L u f t fl = (R, q1, q2)) (h1 : 65536 < t.size ∨ askM L [u, f] = 2) : [] = R ∧ 0 = q1 ∧ 2 = q2 := by
  unfold amR at h
  by_cases e : 65536 < t.size
  · rw [if_pos e] at h
    cases h
    exact ⟨rfl, rfl, rfl⟩
  · rcases h1 with h1 | h1
    · exact absurd h1 e
    · rw [if_neg e, if_pos (by rw [h1]; decide), h1] at h
      cases h
      exact ⟨rfl, rfl, rfl⟩
theorem app_small {L : List PM} (hg : GoodL L) (u f t : ByteArray) (fl : Int) : (appR L u f t fl).1.length ≤ 4000 := by
  have h1 := hg.1
  have h2 := (app_len hg u f t fl).1
  unfold appR
  split
  · show L.length ≤ 4000; omega
  · split
    · show L.length ≤ 4000; omega
    · split
      · show L.length ≤ 4000; omega
      · split
        · show L.length ≤ 4000; omega
        · show (appY L u f t fl).length ≤ 4000; omega
theorem l01InS (n lo hi : Int) (b : Bool) (w : World) (h : (decide (lo ≤ n) && decide (n ≤ hi)) = b) : Calls Tryz.prog 65 #[.int .i64 n, .int .i64 lo, .int .i64 hi] w fun e w' => e = .returned (.bool b) ∧ w' = w := by
  by_cases h1 : lo ≤ n
  · by_cases h2 : n ≤ hi
    · obtain rfl : true = b := by rw [← h, decide_eq_true h1, decide_eq_true h2]; rfl
      clear h
      go_enter Tryz.func65, Tryz.ntmps65
      go_wp2_with fail
      go_ret
      exact ⟨rfl, rfl⟩
    · obtain rfl : false = b := by rw [← h, decide_eq_false h2]; simp
      clear h
      go_enter Tryz.func65, Tryz.ntmps65
      go_wp2_with fail
      go_ret
      exact ⟨rfl, rfl⟩
  · obtain rfl : false = b := by rw [← h, decide_eq_false h1]; rfl
    clear h
    go_enter Tryz.func65, Tryz.ntmps65
    go_wp2_with fail
    go_ret
    exact ⟨rfl, rfl⟩
set_option maxHeartbeats 4000000 in
theorem specAppendMail (a : Option Addr) (n c : Nat) (L : List PM) (x y t : ByteArray) (fl : Int) (w : World) (hL : L.length = n) (hn : n ≤ 1048576) (hc : n ≤ c) (hc9 : c ≤ maxLen) (hs : ∀ x ∈ L, x.1.size ≤ 1048576 ∧ x.2.size ≤ 1048576) (h : Src w a (cellsP L)) (hx : x.size ≤ 1048576) (hy : y.size ≤ 1048576) (ht : t.size ≤ 1048576) (R : List PM) (Q1 Q2 : Int) (HQ : Hid (amR L x y t fl = (R, Q1, Q2))) :
    Calls Tryz.prog 30 #[.slice a n c, .string x, .string y, .string t, .int .i64 fl] w fun e w' => ∃ v, e = .returned (.tuple #[v, .int .i64 Q1, .int .i64 Q2]) ∧ w'.ownsRow w.heap.size 59 2 v R.length (cellsP R) ∧ Below w.heap.size w w' := by
  have HLN : Hid (L.length = n) := hL
  have HS : Hid (Src w a (cellsP L)) := h
  have AL : Hid (Below w.heap.size w (w.alloc (.cells #[.string x, .string y] 9))) := (Below.refl _ _).alloc (Nat.le_refl _) _
  obtain ⟨q, hq⟩ : ∃ q, askM L [x, y] = q := ⟨_, rfl⟩
  have HQQ : Hid (askM L [x, y] = q) := hq
  have CA := l07AskS a n c L (some ⟨w.heap.size, 0, none⟩) 2 2 [x, y] (w.alloc (.cells #[.string x, .string y] 9)) hL hn hs (HS.out.below AL.out) rfl (by omega) (fun s hs => by
    rcases List.mem_cons.1 hs with rfl | hs
    · exact hx
    · rw [List.mem_singleton.1 hs]; exact hy) (src_2S rfl) q hq
  have EM : Hid (∀ W, Below w.heap.size w W → (W.alloc (.cells #[] 59)).ownsRow w.heap.size 59 2 (.slice (some ⟨W.heap.size, 0, none⟩) 0 0) ([] : List PM).length (cellsP []) ∧ Below w.heap.size w (W.alloc (.cells #[] 59))) := fun W hW => ⟨own_empty rfl hW.size, hW.alloc hW.size _⟩
  have EM0 := EM.out w (Below.refl _ _)
  have HE0 : Hid ((w.alloc (.cells #[] 59)).ownsRow w.heap.size 59 2 (.slice (some ⟨w.heap.size, 0, none⟩) 0 0) ([] : List PM).length (cellsP []) ∧ Below w.heap.size w (w.alloc (.cells #[] 59))) := EM0
  clear hL h hs hq EM0
  by_cases h1 : 4096 < n
  · have h1i : (4096 : Int) < (n : Int) := by omega
    obtain ⟨rfl, rfl, rfl⟩ := am_bad HQ.out (.inr (by unfold askM; rw [if_pos (.inl (by rw [HLN.out]; exact h1))]))
    go_enter Tryz.func30, Tryz.ntmps30
    go_wp2_with fail
    exact bodyPost_ret (v := .tuple #[.slice (some ⟨w.heap.size, 0, none⟩) 0 0, .int .i64 0, .int .i64 2]) (by simp [results, Tryz.results30, go_sem]) rfl ⟨_, rfl, HE0.out⟩
  have h1i : ¬ (4096 : Int) < (n : Int) := by omega
  by_cases h2 : 65536 < x.size
  · have h2i : (65536 : Int) < (x.size : Int) := by omega
    obtain ⟨rfl, rfl, rfl⟩ := am_bad HQ.out (.inr (by
      unfold askM
      rw [if_pos (.inr (by show (smallT x && _) = false; rw [show smallT x = false from decide_eq_false (by omega)]; rfl))]))
    go_enter Tryz.func30, Tryz.ntmps30
    go_wp2_with fail
    exact bodyPost_ret (v := .tuple #[.slice (some ⟨w.heap.size, 0, none⟩) 0 0, .int .i64 0, .int .i64 2]) (by simp [results, Tryz.results30, go_sem]) rfl ⟨_, rfl, HE0.out⟩
  have h2i : ¬ (65536 : Int) < (x.size : Int) := by omega
  by_cases h3 : 65536 < y.size
  · have h3i : (65536 : Int) < (y.size : Int) := by omega
    obtain ⟨rfl, rfl, rfl⟩ := am_bad HQ.out (.inr (by
      unfold askM
      rw [if_pos (.inr (by show (smallT x && (smallT y && true)) = false; rw [show smallT y = false from decide_eq_false (by omega)]; simp))]))
    go_enter Tryz.func30, Tryz.ntmps30
    go_wp2_with fail
    exact bodyPost_ret (v := .tuple #[.slice (some ⟨w.heap.size, 0, none⟩) 0 0, .int .i64 0, .int .i64 2]) (by simp [results, Tryz.results30, go_sem]) rfl ⟨_, rfl, HE0.out⟩
  have h3i : ¬ (65536 : Int) < (y.size : Int) := by omega
  by_cases h4 : 65536 < t.size
  · have h4i : (65536 : Int) < (t.size : Int) := by omega
    obtain ⟨rfl, rfl, rfl⟩ := am_bad HQ.out (.inl h4)
    go_enter Tryz.func30, Tryz.ntmps30
    go_wp2_with fail
    exact bodyPost_ret (v := .tuple #[.slice (some ⟨w.heap.size, 0, none⟩) 0 0, .int .i64 0, .int .i64 2]) (by simp [results, Tryz.results30, go_sem]) rfl ⟨_, rfl, HE0.out⟩
  have h4i : ¬ (65536 : Int) < (t.size : Int) := by omega
  have HQ1 := HQ.out
  unfold amR at HQ1
  rw [if_neg h4, HQQ.out] at HQ1
  by_cases hq0 : q = 0
  · subst hq0
    rw [if_neg (by decide)] at HQ1
    obtain ⟨hst, hsx, hsy⟩ := ask_zero2 HQQ.out
    have hgl := (store_facts hst).1
    obtain ⟨b, o, rfl⟩ := store_src hst HS.out
    have zx := short_size' hsx
    have zy := short_size' hsy
    by_cases h5 : 85 < t.size
    · have h5i : (85 : Int) < (t.size : Int) := by omega
      rw [if_pos (.inl h5)] at HQ1
      obtain ⟨rfl, rfl, rfl⟩ : [] = R ∧ 0 = Q1 ∧ 4 = Q2 := by cases HQ1; exact ⟨rfl, rfl, rfl⟩
      clear HQ1 HQ hst hsx hsy hgl
      go_enter Tryz.func30, Tryz.ntmps30
      go_wp2_with fail
      refine CA.mono ?_
      rintro e w3 ⟨rfl, hb3⟩
      have B3 : Hid (Below w.heap.size w w3) := AL.out.trans (hb3.mono AL.out.size)
      have HE3 : Hid ((w3.alloc (.cells #[] 59)).ownsRow w.heap.size 59 2 (.slice (some ⟨w3.heap.size, 0, none⟩) 0 0) ([] : List PM).length (cellsP []) ∧ Below w.heap.size w (w3.alloc (.cells #[] 59))) := EM.out w3 B3.out
      clear hb3 CA
      go_wp2_with fail
      exact bodyPost_ret (v := .tuple #[.slice (some ⟨w3.heap.size, 0, none⟩) 0 0, .int .i64 0, .int .i64 4]) (by simp [results, Tryz.results30, go_sem]) rfl ⟨_, rfl, HE3.out⟩
    have h5i : ¬ (85 : Int) < (t.size : Int) := by omega
    cases hfb : flagB fl with
    | false =>
      rw [if_pos (.inr hfb)] at HQ1
      obtain ⟨rfl, rfl, rfl⟩ : [] = R ∧ 0 = Q1 ∧ 4 = Q2 := by cases HQ1; exact ⟨rfl, rfl, rfl⟩
      have CI := fun W => l01InS fl 0 3 false W hfb
      clear HQ1 HQ hst hsx hsy hgl
      go_enter Tryz.func30, Tryz.ntmps30
      go_wp2_with fail
      refine CA.mono ?_
      rintro e w3 ⟨rfl, hb3⟩
      have B3 : Hid (Below w.heap.size w w3) := AL.out.trans (hb3.mono AL.out.size)
      have HE3 : Hid ((w3.alloc (.cells #[] 59)).ownsRow w.heap.size 59 2 (.slice (some ⟨w3.heap.size, 0, none⟩) 0 0) ([] : List PM).length (cellsP []) ∧ Below w.heap.size w (w3.alloc (.cells #[] 59))) := EM.out w3 B3.out
      clear hb3 CA
      go_wp2_with fail
      refine (CI _).mono ?_
      rintro e w4 ⟨rfl, hw4⟩
      obtain rfl := hw4
      go_wp2_with fail
      exact bodyPost_ret (v := .tuple #[.slice (some ⟨w4.heap.size, 0, none⟩) 0 0, .int .i64 0, .int .i64 4]) (by simp [results, Tryz.results30, go_sem]) rfl ⟨_, rfl, HE3.out⟩
    | true =>
      rw [if_neg (by rintro (h9 | h9); exact h5 h9; rw [hfb] at h9; cases h9)] at HQ1
      have hfr : 0 ≤ fl ∧ fl ≤ 3 := by
        have h9 := hfb
        unfold flagB at h9
        simpa using h9
      have CI := fun W => l01InS fl 0 3 true W hfb
      have CP := fun W (hW : Below w.heap.size w W) => l07AppendS b o n c L HLN.out hc hc9 hgl x y t fl zx zy (by omega) hfr.1 hfr.2 W (HS.out.below hW) R Q1 Q2 HQ1
      have hln : R.length ≤ 4000 := by
        have h9 := app_small hgl x y t fl
        rw [HQ1] at h9
        exact h9
      clear HQ1 HQ hst hsx hsy hgl hfb
      go_enter Tryz.func30, Tryz.ntmps30
      go_wp2_with fail
      refine CA.mono ?_
      rintro e w3 ⟨rfl, hb3⟩
      have B3 : Hid (Below w.heap.size w w3) := AL.out.trans (hb3.mono AL.out.size)
      clear hb3 CA
      go_wp2_with fail
      refine (CI _).mono ?_
      rintro e w4 ⟨rfl, hw4⟩
      obtain rfl := hw4
      have CP4 := CP w4 B3.out
      clear CP CI
      go_wp2_with fail
      refine CP4.mono ?_
      rintro e w5 ⟨a5, n5, c5, rfl, k1, k2, hb5⟩
      have B5 : Hid (Below w.heap.size w w5) := B3.out.trans (hb5.mono B3.out.size)
      have CO := l07OwnS a5 n5 c5 R w5 k1 (by omega) k2
      have HN5 : Hid (R.length = n5) := k1
      clear hb5 CP4 k1 k2
      go_wp2_with fail
      refine CO.mono ?_
      rintro e w6 ⟨v6, rfl, ho6, hb6⟩
      obtain ⟨a6, c6, rfl, _, _⟩ := own_src ho6
      have HF : Hid (w6.ownsRow w.heap.size 59 2 (.slice a6 n5 c6) R.length (cellsP R) ∧ Below w.heap.size w w6) := ⟨by rw [HN5.out]; exact own_mono ho6 B5.out.size, B5.out.trans (hb6.mono B5.out.size)⟩
      clear ho6 hb6 CO
      go_wp2_with fail
      exact bodyPost_ret (v := .tuple #[.slice a6 n5 c6, .int .i64 Q1, .int .i64 Q2]) (by simp [results, Tryz.results30, go_sem]) rfl ⟨_, rfl, HF.out⟩
  · rw [if_pos hq0] at HQ1
    obtain ⟨rfl, rfl, rfl⟩ : [] = R ∧ 0 = Q1 ∧ q = Q2 := by cases HQ1; exact ⟨rfl, rfl, rfl⟩
    have hqi : (q != 0) = true := by simpa using hq0
    clear HQ1 HQ
    go_enter Tryz.func30, Tryz.ntmps30
    go_wp2_with fail
    refine CA.mono ?_
    rintro e w3 ⟨rfl, hb3⟩
    have B3 : Hid (Below w.heap.size w w3) := AL.out.trans (hb3.mono AL.out.size)
    have HE3 : Hid ((w3.alloc (.cells #[] 59)).ownsRow w.heap.size 59 2 (.slice (some ⟨w3.heap.size, 0, none⟩) 0 0) ([] : List PM).length (cellsP []) ∧ Below w.heap.size w (w3.alloc (.cells #[] 59))) := EM.out w3 B3.out
    clear hb3 CA
    go_wp2_with fail
    exact bodyPost_ret (v := .tuple #[.slice (some ⟨w3.heap.size, 0, none⟩) 0 0, .int .i64 0, .int .i64 q]) (by simp [results, Tryz.results30, go_sem]) rfl ⟨_, rfl, HE3.out⟩
set_option maxHeartbeats 4000000 in
theorem implAppendMail (a : Option Addr) (n c : Nat) (L : List PM) (x y t : ByteArray) (fl : Int) (w : World) (hL : L.length = n) (hn : n ≤ 1048576) (hs : ∀ x ∈ L, x.1.size ≤ 1048576 ∧ x.2.size ≤ 1048576) (h : Src w a (cellsP L)) (hx : x.size ≤ 1048576) (hy : y.size ≤ 1048576) (ht : t.size ≤ 1048576) (hG : Gl w) (h8 : 8 ≤ w.heap.size) (R : List PM) (Q1 Q2 : Int) (HQ : Hid (amR L x y t fl = (R, Q1, Q2))) :
    Calls Tryz.prog 31 #[.slice a n c, .string x, .string y, .string t, .int .i64 fl] w fun e w' => ∃ v, e = .returned (.tuple #[v, .int .i64 Q1, .int .i64 Q2]) ∧ w'.ownsRow w.heap.size 59 2 v R.length (cellsP R) ∧ Below w.heap.size w w' := by
  have HLN : Hid (L.length = n) := hL
  have HS : Hid (Src w a (cellsP L)) := h
  have HG : Hid (Gl w) := hG
  by_cases h4 : 65536 < t.size
  · have h4i : (65536 : Int) < (t.size : Int) := by omega
    obtain ⟨rfl, rfl, rfl⟩ := am_bad HQ.out (.inl h4)
    clear hL h hs hG HQ
    go_enter Tryz.func31, Tryz.ntmps31
    go_wp2_with fail
    exact bodyPost_ret (v := .tuple #[.slice none 0 0, .int .i64 0, .int .i64 2]) (by simp [results, Tryz.results31, go_sem]) rfl ⟨_, rfl, World.ownsRow_nil _ _ _ _, Below.refl _ _⟩
  have h4i : ¬ (65536 : Int) < (t.size : Int) := by omega
  have AL : Hid (Below w.heap.size w (w.alloc (.cells #[.string x, .string y] 9))) := (Below.refl _ _).alloc (Nat.le_refl _) _
  obtain ⟨q, hq⟩ : ∃ q, askM L [x, y] = q := ⟨_, rfl⟩
  have HQQ : Hid (askM L [x, y] = q) := hq
  have CA := mailFaultI a n c L (some ⟨w.heap.size, 0, none⟩) 2 2 [x, y] (w.alloc (.cells #[.string x, .string y] 9)) hL hn hs (HS.out.below AL.out) rfl (by omega) (fun s hs => by
    rcases List.mem_cons.1 hs with rfl | hs
    · exact hx
    · rw [List.mem_singleton.1 hs]; exact hy) (src_2S rfl) (hG.below h8 AL.out) (by have := AL.out.size; omega) q hq
  have HQ1 := HQ.out
  unfold amR at HQ1
  rw [if_neg h4, HQQ.out] at HQ1
  clear hL h hs hq HQ hG
  by_cases hq0 : q = 0
  · subst hq0
    rw [if_neg (by decide)] at HQ1
    obtain ⟨hst, hsx, hsy⟩ := ask_zero2 HQQ.out
    have hus := word_slash hsx
    have hfs := word_slash hsy
    have hu8 := short_size hsx
    have hy8 := short_size hsy
    obtain ⟨hgl, nx0, hnm, n1, n2, _⟩ := store_facts hst
    rw [hnm] at n1 n2
    have hn60 := hgl.1
    rw [HLN.out] at hn60
    by_cases h5 : 85 < t.size
    · have h5i : (85 : Int) < (t.size : Int) := by omega
      rw [if_pos (.inl h5)] at HQ1
      obtain ⟨rfl, rfl, rfl⟩ : [] = R ∧ 0 = Q1 ∧ 4 = Q2 := by cases HQ1; exact ⟨rfl, rfl, rfl⟩
      clear HQ1 hst hsx hsy hgl hnm n1 n2
      go_enter Tryz.func31, Tryz.ntmps31
      go_wp2_with fail
      refine CA.mono ?_
      rintro e w3 ⟨rfl, hb3⟩
      have B3 : Hid (Below w.heap.size w w3) := AL.out.trans (hb3.mono AL.out.size)
      clear hb3 CA
      go_wp2_with fail
      exact bodyPost_ret (v := .tuple #[.slice none 0 0, .int .i64 0, .int .i64 4]) (by simp [results, Tryz.results31, go_sem]) rfl ⟨_, rfl, World.ownsRow_nil _ _ _ _, B3.out⟩
    have h5i : ¬ (85 : Int) < (t.size : Int) := by omega
    cases hfb : flagB fl with
    | false =>
      rw [if_pos (.inr hfb)] at HQ1
      obtain ⟨rfl, rfl, rfl⟩ : [] = R ∧ 0 = Q1 ∧ 4 = Q2 := by cases HQ1; exact ⟨rfl, rfl, rfl⟩
      have CI := fun W => flagsIs false fl W hfb
      clear HQ1 hst hsx hsy hgl hnm n1 n2 hfb
      go_enter Tryz.func31, Tryz.ntmps31
      go_wp2_with fail
      refine CA.mono ?_
      rintro e w3 ⟨rfl, hb3⟩
      have B3 : Hid (Below w.heap.size w w3) := AL.out.trans (hb3.mono AL.out.size)
      clear hb3 CA
      go_wp2_with fail
      refine (CI _).mono ?_
      rintro e w4 ⟨rfl, hw4⟩
      obtain rfl := hw4
      go_wp2_with fail
      exact bodyPost_ret (v := .tuple #[.slice none 0 0, .int .i64 0, .int .i64 4]) (by simp [results, Tryz.results31, go_sem]) rfl ⟨_, rfl, World.ownsRow_nil _ _ _ _, B3.out⟩
    | true =>
      rw [if_neg (by rintro (h9 | h9); exact h5 h9; rw [hfb] at h9; cases h9)] at HQ1
      have hfr : 0 ≤ fl ∧ fl ≤ 3 := by
        have h9 := hfb
        unfold flagB at h9
        simpa using h9
      have CI := fun W => flagsIs true fl W hfb
      have CD := fun W (hW : Below w.heap.size w W) => deskWithI a n c L x W HLN.out (HS.out.below hW) (HG.out.below h8 hW) (by have := hW.size; omega) hst hus (by omega)
      have HFA : Hid (∀ S, takeAll (nextM L) x S0 L = some S → lackM S.word S.fs [y] = knownR L x y ∧ (knownR L x y = 0 → S.word.toList ≠ [] ∧ ∃ g, lookF y S.fs = some g) ∧ sumF S.fs ≤ 60 ∧ ∀ g, S.word.toList ≠ [] → lookF y S.fs = some g → ∀ q S', apM S g fl t = (q, S') → AppFits L (nextM L) x g.next q S' (appT L x y t fl)) := fun S hS =>
        ⟨lack_known hst hus hfs hS, fun h9 => known_zero hst hus hfs hS h9, by
          rw [sum_count hst hus hS]
          unfold countM
          exact Nat.le_trans (List.length_filter_le _ _) hgl.1, fun g h7 h9 q S' hop => app_fits hst hsx hsy (by omega) hfr.1 hfr.2 hS h7 h9 hop⟩
      have HAR : Hid (appR L x y t fl = (R, Q1, Q2)) := HQ1
      have HBL : Hid (∀ ad, a = some ad → ad.block < w.heap.size) := fun ad e => by
        obtain ⟨b, o, rfl⟩ := store_src hst HS.out
        cases e
        rcases HS.out with h9 | ⟨b', o', e9, hc⟩
        · have h7 := cellsP_length L
          rw [h9] at h7
          have h6 : L = [] := List.eq_nil_of_length_eq_zero (by simp at h7; omega)
          rw [h6] at n1
          have h5' : nextM [] = 0 := rfl
          omega
        · cases e9
          have hl0 : 0 < (cellsP L).length := by
            rw [cellsP_length]
            have : L ≠ [] := fun e => by
              rw [e] at n1
              have h5' : nextM [] = 0 := rfl
              omega
            have := List.length_pos_iff.2 this
            omega
          exact World.block_lt_of_cell? _ _ (hc 0 hl0)
      obtain ⟨nx, hnx⟩ : ∃ z, nextM L = z := ⟨_, rfl⟩
      simp only [hnx] at CD HFA n1 n2
      clear HQ1 hst hsx hsy hgl hnm hfb hnx
      go_enter Tryz.func31, Tryz.ntmps31
      go_wp2_with fail
      refine CA.mono ?_
      rintro e w3 ⟨rfl, hb3⟩
      have B3 : Hid (Below w.heap.size w w3) := AL.out.trans (hb3.mono AL.out.size)
      clear hb3 CA
      go_wp2_with fail
      refine (CI _).mono ?_
      rintro e w4 ⟨rfl, hw4⟩
      obtain rfl := hw4
      clear CI
      go_wp2_with fail
      refine (CD _ B3.out).mono ?_
      rintro e w5 ⟨M, S, rfl, hS, hSt, hM, hb5⟩
      have B5 : Hid (Below w.heap.size w w5) := B3.out.trans (hb5.mono B3.out.size)
      have hM2 : w.heap.size ≤ M := by have h9 := B3.out.size; omega
      obtain ⟨k1, k2, k3, k4⟩ := HFA.out S hS
      have AL5 : Hid (Below w5.heap.size w5 (w5.alloc (.cells #[.string y] 9))) := (Below.refl _ _).alloc (Nat.le_refl _) _
      have CL := lacksI (w5.alloc (.cells #[.string y] 9)) M a n c nx x S n (hSt.later AL5.out) (by omega) (some ⟨w5.heap.size, 0, none⟩) 1 1 [y] rfl (by omega) (fun s hs => by rw [List.mem_singleton.1 hs]; omega) (src_1S rfl) _ k1
      have HST5 : Hid (StAt w5 M a n c nx x S n) := hSt
      have hMw : M + 1 < w5.heap.size := by
        obtain ⟨_, _, hD, _⟩ := hSt
        exact World.block_lt_of_cell? _ _ (hD.1 0 _ rfl).1
      have HK : Hid ((knownR L x y = 0 → S.word.toList ≠ [] ∧ ∃ g, lookF y S.fs = some g) ∧ sumF S.fs ≤ 60 ∧ ∀ g, S.word.toList ≠ [] → lookF y S.fs = some g → ∀ q S', apM S g fl t = (q, S') → AppFits L nx x g.next q S' (appT L x y t fl)) := ⟨k2, k3, k4⟩
      obtain ⟨kk, hkk⟩ : ∃ z, knownR L x y = z := ⟨_, rfl⟩
      rw [hkk] at CL HK
      have HKK : Hid (knownR L x y = kk) := hkk
      clear hS hSt hb5 CD k1 k2 k3 k4 HFA hkk
      go_wp2_with fail
      refine CL.mono ?_
      rintro e w6 ⟨rfl, hb6⟩
      have R6 : Hid (Below w5.heap.size w5 w6) := AL5.out.trans (hb6.mono AL5.out.size)
      have B6 : Hid (Below w.heap.size w w6) := B5.out.trans (R6.out.mono B5.out.size)
      clear hb6 CL
      by_cases hk0 : kk = 0
      · subst hk0
        obtain ⟨hw, g, hl⟩ := HK.out.1 rfl
        have CE := appendedI w6 M a n c nx x S n (HST5.out.later R6.out) y g hl (by omega) (by omega) 0 fl t HK.out.2.1 (by omega) (by omega) n2 L HLN.out hn60 (HS.out.below B6.out) (HG.out.below h8 B6.out) (by omega) (fun ad e => by have h9 := HBL.out ad e; omega) (appT L x y t fl) (HK.out.2.2 g hw hl) R Q1 Q2 (by show _ = _; rw [← appR_T HKK.out]; exact HAR.out)
        clear HK hw hl
        go_wp2_with fail
        refine CE.mono ?_
        rintro e w7 ⟨v7, rfl, ho7, hb7⟩
        obtain ⟨a7, c7, rfl, _, _⟩ := own_src ho7
        have HF : Hid (w7.ownsRow w.heap.size 59 2 (.slice a7 R.length c7) R.length (cellsP R) ∧ Below w.heap.size w w7) := ⟨own_mono ho7 B6.out.size, B6.out.trans (hb7.mono hM2)⟩
        clear CE ho7 hb7
        go_wp2_with fail
        exact bodyPost_ret (v := .tuple #[.slice a7 R.length c7, .int .i64 Q1, .int .i64 Q2]) (by simp [results, Tryz.results31, go_sem]) rfl ⟨_, rfl, HF.out⟩
      · have hki : (kk != 0) = true := by simpa using hk0
        obtain ⟨hR, hq1, hq2⟩ : R = L ∧ 0 = Q1 ∧ kk = Q2 := by
          have h9 := HAR.out
          unfold appR at h9
          rw [HKK.out, if_pos hk0] at h9
          cases h9
          exact ⟨rfl, rfl, rfl⟩
        have CC := copyListI a n c L w6 HLN.out (by omega) (HS.out.below B6.out)
        have HRR : Hid (R = L ∧ 0 = Q1 ∧ kk = Q2) := ⟨hR, hq1, hq2⟩
        clear HK hR hq1 hq2
        go_wp2_with fail
        refine CC.mono ?_
        rintro e w7 ⟨v7, rfl, ho7, hb7⟩
        obtain ⟨a7, c7, rfl, _, _⟩ := own_src ho7
        have HF : Hid (w7.ownsRow w.heap.size 59 2 (.slice a7 n c7) R.length (cellsP R) ∧ Below w.heap.size w w7) := ⟨by rw [HRR.out.1, HLN.out]; exact own_mono ho7 B6.out.size, B6.out.trans (hb7.mono B6.out.size)⟩
        have HR2 : Hid (0 = Q1 ∧ kk = Q2) := HRR.out.2
        clear CC ho7 hb7
        go_wp2_with fail
        exact bodyPost_ret (v := .tuple #[.slice a7 n c7, .int .i64 0, .int .i64 kk]) (by simp [results, Tryz.results31, go_sem]) rfl ⟨_, by rw [HR2.out.1, HR2.out.2], HF.out⟩
  · rw [if_pos hq0] at HQ1
    obtain ⟨rfl, rfl, rfl⟩ : [] = R ∧ 0 = Q1 ∧ q = Q2 := by cases HQ1; exact ⟨rfl, rfl, rfl⟩
    have hqi : (q != 0) = true := by simpa using hq0
    clear HQ1
    go_enter Tryz.func31, Tryz.ntmps31
    go_wp2_with fail
    refine CA.mono ?_
    rintro e w3 ⟨rfl, hb3⟩
    have B3 : Hid (Below w.heap.size w w3) := AL.out.trans (hb3.mono AL.out.size)
    clear hb3 CA
    go_wp2_with fail
    exact bodyPost_ret (v := .tuple #[.slice none 0 0, .int .i64 0, .int .i64 q]) (by simp [results, Tryz.results31, go_sem]) rfl ⟨_, rfl, World.ownsRow_nil _ _ _ _, B3.out⟩
end Go.Proofs.YthejpemiaenfpaaGreatDoor
namespace Go.Proofs.YthejpemiaenfpaaGreatDoor
open Go.ChangeShapes Go.WideShapes Go.ChangeAt Go.RowKit Go.Deep Go.Lib
set_option linter.unusedVariables false
set_option linter.unusedSimpArgs false
set_option maxRecDepth 100000

set_option maxHeartbeats 1000000 in
theorem place1I (x y : Int) (t : ByteArray) (un : Int) (B : Nat) (w : World) (hB : Box w B [.int .i64 un]) (bb : Bool) (hb : (x == un) = bb) :
    Calls Tryz.prog 113 #[.agg #[.int .i64 x, .int .i64 y, .string t], .pointer (some ⟨B, 0, none⟩)] w fun e w' => e = .returned (.bool bb) ∧ Below w.heap.size w w' := by
  have c0 := (hB.below ((Below.refl _ _).alloc (Nat.le_refl _) (.cells #[.int .i64 x, .int .i64 y, .string t] 78)) 0 _ rfl).1
  clear hB
  go_enter Tryz.func113, Tryz.ntmps113
  go_wp2_with fail
  go_ret
  exact ⟨rfl, (Below.refl _ _).alloc (Nat.le_refl _) _⟩
/-- Where a uid is first. -/
def PlaceIs (Ms : List MMl) (un at' : Int) : Prop := (∃ i : Nat, i < Ms.length ∧ at' = (i : Int) ∧ (Ms.getD i ml0).1 = un) ∨ (at' = -1 ∧ ∀ m ∈ Ms, m.1 ≠ un)
set_option maxHeartbeats 2000000 in
theorem indexMailsI (a : Option Addr) (n c : Nat) (Ms : List MMl) (un : Int) (B : Nat) (w : World) (hL : Ms.length = n) (hn : n ≤ 1000) (hB : Box w B [.int .i64 un]) (h : Src w a (cellsMl Ms)) :
    Calls Tryz.prog 106 #[.slice a n c, .func (.func 113) #[] #[.pointer (some ⟨B, 0, none⟩)]] w fun e w' => ∃ i, e = .returned (.int .i64 i) ∧ PlaceIs Ms un i ∧ -1 ≤ i ∧ Below w.heap.size w w' := by
  have HH : Hid (Src w a (cellsMl Ms)) := h
  have HL : Hid (Ms.length = n) := hL
  have HC : ∀ (x y : Int) (t : ByteArray) (W : World) (bb : Bool), Below w.heap.size w W → (x == un) = bb → Calls Tryz.prog 113 #[.agg #[.int .i64 x, .int .i64 y, .string t], .pointer (some ⟨B, 0, none⟩)] W fun e w' => e = .returned (.bool bb) ∧ Below W.heap.size W w' := fun x y t W bb hW hb => place1I x y t un B W (hB.below hW) bb hb
  clear h hL hB
  go_enter Tryz.func106, Tryz.ntmps106
  go_wp2_with fail
  go_loopw [8] (fun i wr => ∃ k : Nat, k ≤ n ∧ i = .int .i64 (k : Int) ∧ Hid (∀ j, j < k → (Ms.getD j ml0).1 ≠ un) ∧ Hid (Below w.heap.size w wr)) (fun i _ => n - (RowKit.intOf i).toNat)
  case atStart => exact ⟨0, by omega, rfl, fun j hj => absurd hj (by omega), Below.refl _ _⟩
  case round =>
    obtain ⟨k, hk, rfl, hno, hb⟩ := hrel
    by_cases hlt : k < n
    · have hlti : (k : Int) < (n : Int) := by omega
      have hkL : k < Ms.length := by rw [HL.out]; exact hlt
      obtain ⟨b, q, x, y, t, rfl, hc0, hc1, hc2, hy⟩ := srcMl (HH.out.below hb.out) hkL
      cases hbb : (x == un) with
      | true =>
        have HP : Hid (PlaceIs Ms un (k : Int) ∧ (-1 : Int) ≤ (k : Int)) := ⟨.inl ⟨k, hkL, rfl, by rw [hy.out]; exact eq_of_beq hbb⟩, by omega⟩
        have C1 := HC x y t wr true hb.out hbb
        clear hy hbb HC
        go_wp2_with fail
        refine C1.mono ?_
        rintro e w5 ⟨rfl, hb5⟩
        have B5 : Hid (Below w.heap.size w w5) := hb.out.trans (hb5.mono hb.out.size)
        clear hb5 C1
        go_wp2_with fail
        go_ret
        exact ⟨_, rfl, HP.out.1, HP.out.2, B5.out⟩
      | false =>
        have HN : Hid (∀ j, j < k + 1 → (Ms.getD j ml0).1 ≠ un) := fun j hj => by
          by_cases e : j = k
          · rw [e, hy.out]
            exact fun h9 => by
              have h8 : (x == un) = true := by rw [show x = un from h9]; simp
              rw [hbb] at h8
              cases h8
          · exact hno.out j (by omega)
        have C1 := HC x y t wr false hb.out hbb
        clear hy hbb
        go_wp2_with fail
        refine C1.mono ?_
        rintro e w5 ⟨rfl, hb5⟩
        have B5 : Hid (Below w.heap.size w w5) := hb.out.trans (hb5.mono hb.out.size)
        clear hb5 C1
        go_wp2_with fail
        exact ⟨⟨k + 1, by omega, by go_num, HN.out, B5.out⟩, by simp [RowKit.intOf]; omega⟩
    · obtain rfl : k = n := by omega
      have hlti : ¬ (k : Int) < (k : Int) := by omega
      have HP : Hid (PlaceIs Ms un (-1)) := .inr ⟨rfl, fun m hm => by
        obtain ⟨j, hj, rfl⟩ := List.mem_iff_getElem.1 hm
        have h9 := hno.out j (by rw [HL.out] at hj; exact hj)
        rw [List.getD_eq_getElem?_getD, List.getElem?_eq_getElem hj] at h9
        exact h9⟩
      clear HC
      go_wp2_with fail
      go_ret
      exact ⟨_, rfl, HP.out, by omega, hb.out⟩
set_option maxHeartbeats 2000000 in
theorem placeI (nm : ByteArray) (vl nx : Int) (ax : Option Addr) (ml cx : Nat) (Ms : List MMl) (un : Int) (w : World) (hL : Ms.length = ml) (hn : ml ≤ 1000) (h : Src w ax (cellsMl Ms)) :
    Calls Tryz.prog 78 #[.agg #[.string nm, .int .i64 vl, .int .i64 nx, .slice ax ml cx], .int .i64 un] w fun e w' => ∃ i : Int, e = .returned (.tuple #[.int .i64 i, .bool (decide (0 ≤ i))]) ∧ PlaceIs Ms un i ∧ -1 ≤ i ∧ Below w.heap.size w w' := by
  obtain ⟨w0, hw0⟩ : ∃ W, w.alloc (.cells #[.string nm, .int .i64 vl, .int .i64 nx, .slice ax ml cx] 26) = W := ⟨_, rfl⟩
  have A0 : Below w.heap.size w w0 := by rw [← hw0]; exact (Below.refl _ _).alloc (Nat.le_refl _) _
  have X0 : Box w0 w.heap.size [.string nm, .int .i64 vl, .int .i64 nx, .slice ax ml cx] := by rw [← hw0]; exact Box.new rfl
  obtain ⟨w1, hw1⟩ : ∃ W, w0.alloc (.cells #[.int .i64 un] 3) = W := ⟨_, rfl⟩
  have A1 : Below w0.heap.size w0 w1 := by rw [← hw1]; exact (Below.refl _ _).alloc (Nat.le_refl _) _
  have X1 : Box w1 w0.heap.size [.int .i64 un] := by rw [← hw1]; exact Box.new rfl
  have BB : Hid (Below w.heap.size w w1) := A0.trans (A1.mono A0.size)
  obtain ⟨c3, _⟩ := (X0.below A1) 3 _ rfl
  have hz : w0.heap.size = w.heap.size + 1 := by rw [← hw0]; simp
  have CI := indexMailsI ax ml cx Ms un w0.heap.size w1 hL hn X1 (h.below BB.out)
  clear h hL A0 X0 A1 X1 hz
  go_enter Tryz.func78, Tryz.ntmps78
  go_wp2_with fail
  refine CI.mono ?_
  rintro e w2 ⟨i, rfl, hp, hi, hb2⟩
  have HF : Hid (PlaceIs Ms un i ∧ -1 ≤ i ∧ Below w.heap.size w w2) := ⟨hp, hi, BB.out.trans (hb2.mono BB.out.size)⟩
  clear hp hi hb2 CI
  go_wp2_with fail
  exact bodyPost_ret (v := .tuple #[.int .i64 i, .bool (decide (0 ≤ i))]) (by simp [results, Tryz.results78, go_sem]) rfl ⟨i, rfl, HF.out⟩
end Go.Proofs.YthejpemiaenfpaaGreatDoor
namespace Go.Proofs.YthejpemiaenfpaaGreatDoor
open Go.ChangeShapes Go.WideShapes Go.ChangeAt Go.RowKit Go.Deep Go.Lib
set_option linter.unusedVariables false
set_option linter.unusedSimpArgs false
set_option maxRecDepth 100000

theorem hasU {L : List PM} {u : ByteArray} {S : SM} (h : storeB L = true) (hus : (47 : UInt8) ∉ u.data.toList) (hS : takeAll (nextM L) u S0 L = some S) (hw : S.word.toList ≠ []) : ∃ q ∈ L, q.1 = userK u := by
  cases hv : getM L (userK u) with
  | none => exact absurd ((word_iff h hus hS).1.2 hv) hw
  | some v => exact ⟨_, (getM_mem (store_facts h).1.2.2).1 hv, rfl⟩
theorem mail_val {L : List PM} {u f : ByteArray} {n : Nat} {v : ByteArray} (h : storeB L = true) (hus : (47 : UInt8) ∉ u.data.toList) (hfs : (47 : UInt8) ∉ f.data.toList) (hU : ∃ q ∈ L, q.1 = userK u) (hn : n < 1000) (hm : (mailK u f (n : Int), v) ∈ L) : 1 ≤ v.size ∧ v.size ≤ 86 ∧ 48 ≤ hdV v ∧ hdV v ≤ 51 ∧ 1 ≤ n := by
  obtain ⟨hg, nx0, hnm, n1, n2, _, hlay, k⟩ := store_facts h
  have hkd : (mailK u f (n : Int)).data.toList = 109 :: 47 :: (u.data.toList ++ 47 :: (f.data.toList ++ 47 :: d3 n)) := by simp [bs]
  have hsp : splitL 47 (mailK u f (n : Int)).data.toList = [109] :: u.data.toList :: f.data.toList :: splitL 47 (d3 n) := by
    rw [hkd]
    have e : (109 : UInt8) :: 47 :: (u.data.toList ++ 47 :: (f.data.toList ++ 47 :: d3 n)) = [109] ++ 47 :: (u.data.toList ++ 47 :: (f.data.toList ++ 47 :: d3 n)) := rfl
    rw [e, splitL_seg 47 [109] _ (by decide), splitL_seg 47 _ _ hus, splitL_seg 47 _ _ hfs]
  have h1 := (lay_iff (nx := nx0) (by omega) hg.2.2 hus).1 (hlay u hU)
  rcases k _ hm with k | ⟨u', k1, _⟩
  · exact absurd k (mailK_not _ _ _)
  · match hq : splitL 47 (d3 n) with
    | [] => exact absurd hq (splitL_ne 47 _)
    | [d] =>
      have hd : d3 n = d := (split_one hq).1
      have how : ownerM (mailK u f (n : Int), v) = some u := by
        unfold ownerM
        rw [hsp, hq]
        show (if ([109] : List UInt8) = [109] then some (bs u.data.toList) else none) = some u
        rw [if_pos rfl, data_bs]
      have h2 := h1.1 _ hm how
      rw [hsp, hq] at h2
      obtain ⟨w, f2, _, _, h3⟩ := h2
      obtain ⟨n9, e1, _, e3, e4, e5, e6, e7, _⟩ := mailO_iff.1 h3
      rw [← hd, (d3_is n hn).2] at e1
      cases e1
      exact ⟨e3, e4, e5, e6, by omega⟩
    | _ :: _ :: _ =>
      unfold ownerM at k1
      rw [hsp, hq] at k1
      cases k1
theorem mail_pair {L : List PM} {u f : ByteArray} {S : SM} {g : FM} {m : MMl} (h : storeB L = true) (hus : (47 : UInt8) ∉ u.data.toList) (hS : takeAll (nextM L) u S0 L = some S) (hl : lookF f S.fs = some g) (hm : m ∈ g.mails) : (mailK u f m.1, mailV m) ∈ L := by
  obtain ⟨h1, h2⟩ := lookF_mem hl
  refine (take_desk h hus hS).mem_iff.1 ?_
  unfold deskX
  refine List.mem_append_right _ (List.mem_append_right _ (List.mem_flatMap.2 ⟨g, h1, ?_⟩))
  unfold fPairs
  refine List.mem_cons_of_mem _ (List.mem_map.2 ⟨m, hm, ?_⟩)
  rw [h2]
  rfl
theorem mailV_parts {m : MMl} (h0 : 0 ≤ m.2.1) (h1 : m.2.1 ≤ 3) : (mailV m).extract 1 (mailV m).size = m.2.2 ∧ hdV (mailV m) - 48 = m.2.1 := by
  have hit : ∃ c : UInt8, itoa m.2.1 = [c] ∧ (c.toNat : Int) = 48 + m.2.1 := by
    refine ⟨UInt8.ofNat (48 + m.2.1.toNat), ?_, ?_⟩
    · unfold itoa
      rw [if_neg (by omega)]
      unfold decDigits
      rw [dif_pos (by omega)]
    · have h2 : (UInt8.ofNat (48 + m.2.1.toNat)).toNat = 48 + m.2.1.toNat := by simp [UInt8.toNat_ofNat']; omega
      rw [h2]
      omega
  obtain ⟨c, hc, hcn⟩ := hit
  have hd : (mailV m).data.toList = c :: m.2.2.data.toList := by
    unfold mailV
    rw [ByteArray.data_append, Array.toList_append, hc]
    simp [bs]
  constructor
  · apply bs_inj
    rw [ByteArray.data_extract, Array.toList_extract, hd]
    have h9 : (mailV m).size = (c :: m.2.2.data.toList).length := by rw [← hd]; simp
    rw [h9]
    simp [List.extract]
    exact List.take_of_length_le (by simp)
  · unfold hdV
    rw [hd]
    show (c.toNat : Int) - 48 = m.2.1
    omega
def cpT (L : List PM) (u f : ByteArray) (un : Int) (tf : ByteArray) : List PM × Int × Int :=
  if (decide (1 ≤ un) && decide (un ≤ 999)) = false then (L, 0, 5) else match getM L (mailK u f un) with
    | none => (L, 0, 5)
    | some v => appR L u tf (v.extract 1 v.size) (hdV v - 48)
def cpR (L : List PM) (u f : ByteArray) (un : Int) (tf : ByteArray) : List PM × Int × Int :=
  if knownR L u f ≠ 0 then (L, 0, knownR L u f) else if knownR L u tf ≠ 0 then (L, 0, knownR L u tf) else cpT L u f un tf
theorem cp_hit {L : List PM} {u f tf : ByteArray} {S : SM} {g : FM} {m : MMl} (h : storeB L = true) (hus : (47 : UInt8) ∉ u.data.toList) (hfs : (47 : UInt8) ∉ f.data.toList) (hS : takeAll (nextM L) u S0 L = some S) (hw : S.word.toList ≠ []) (hl : lookF f S.fs = some g) (hm : m ∈ g.mails) : cpT L u f m.1 tf = appR L u tf m.2.2 m.2.1 ∧ 0 ≤ m.2.1 ∧ m.2.1 ≤ 3 ∧ m.2.2.size ≤ 1000 := by
  obtain ⟨e1, e2, e3, e4, e5⟩ := (store_fit h hS g (lookF_mem hl).1).2.2.2.2.2 m hm
  have hp := mail_pair h hus hS hl hm
  have hp2 : (mailK u f ((m.1.toNat : Nat) : Int), mailV m) ∈ L := by rw [show ((m.1.toNat : Nat) : Int) = m.1 by omega]; exact hp
  obtain ⟨_, _, _, _, h1⟩ := mail_val h hus hfs (hasU h hus hS hw) (by omega) hp2
  obtain ⟨p1, p2⟩ := mailV_parts e3 e4
  refine ⟨?_, e3, e4, e5⟩
  unfold cpT
  rw [if_neg (by rw [decide_eq_true (by omega), decide_eq_true (by omega)]; decide), (getM_mem (store_facts h).1.2.2).2 hp]
  show appR L u tf ((mailV m).extract 1 (mailV m).size) (hdV (mailV m) - 48) = _
  rw [p1, p2]
theorem cp_miss {L : List PM} {u f tf : ByteArray} {S : SM} {g : FM} {un : Int} (h : storeB L = true) (hus : (47 : UInt8) ∉ u.data.toList) (hfs : (47 : UInt8) ∉ f.data.toList) (hS : takeAll (nextM L) u S0 L = some S) (hl : lookF f S.fs = some g) (hm : ∀ m ∈ g.mails, m.1 ≠ un) : cpT L u f un tf = (L, 0, 5) := by
  unfold cpT
  by_cases hr : (decide (1 ≤ un) && decide (un ≤ 999)) = false
  · rw [if_pos hr]
  · rw [if_neg hr]
    cases hv : getM L (mailK u f un) with
    | none => rfl
    | some v =>
      exfalso
      have hr2 : 1 ≤ un ∧ un ≤ 999 := by
        by_cases e : 1 ≤ un ∧ un ≤ 999
        · exact e
        · exact absurd (by
            by_cases e1 : 1 ≤ un
            · have e2 : ¬ un ≤ 999 := fun h9 => e ⟨e1, h9⟩
              rw [decide_eq_false e2]; simp
            · rw [decide_eq_false e1]; rfl) hr
      have hp := (getM_mem (store_facts h).1.2.2).1 hv
      have hp2 : (mailK u f ((un.toNat : Nat) : Int), v) ∈ L := by rw [show ((un.toNat : Nat) : Int) = un by omega]; exact hp
      obtain ⟨m, m1, m2, _⟩ := mail_there h hus hfs hS hl (by omega) hp2
      exact hm m m1 (by omega)
theorem known2 {L : List PM} {u f tf : ByteArray} {S : SM} (h : storeB L = true) (hus : (47 : UInt8) ∉ u.data.toList) (hfs : (47 : UInt8) ∉ f.data.toList) (hto : (47 : UInt8) ∉ tf.data.toList) (hS : takeAll (nextM L) u S0 L = some S) : lackM S.word S.fs [f, tf] = if knownR L u f ≠ 0 then knownR L u f else knownR L u tf := by
  rw [← lack_known h hus hfs hS, ← lack_known h hus hto hS]
  have hall : ∀ a b, [a, b].all (fun s => (lookF s S.fs).isSome) = ((lookF a S.fs).isSome && (lookF b S.fs).isSome) := fun a b => by simp
  have hone : ∀ a, [a].all (fun s => (lookF s S.fs).isSome) = (lookF a S.fs).isSome := fun a => by simp
  unfold lackM
  rw [hall, hone, hone]
  by_cases hw : S.word.toList = []
  · simp [hw]
  · rw [if_neg hw, if_neg hw, if_neg hw]
    cases (lookF f S.fs).isSome <;> cases (lookF tf S.fs).isSome <;> rfl
set_option maxHeartbeats 4000000 in
theorem l07CopyS (b o n c : Nat) (L : List PM) (hL : L.length = n) (hc : n ≤ c) (hc9 : c ≤ maxLen) (hg : GoodL L) (u f tf : ByteArray) (un : Int) (hus : u.size ≤ 8) (hfs : f.size ≤ 8) (hts : tf.size ≤ 8) (hval : knownR L u f = 0 → ∀ v, 1 ≤ un → un ≤ 999 → getM L (mailK u f un) = some v → 1 ≤ v.size ∧ v.size ≤ 86 ∧ 48 ≤ hdV v ∧ hdV v ≤ 51) (w : World) (h : Src w (some ⟨b, o, none⟩) (cellsP L)) (R : List PM) (q1 q2 : Int) (HR : Hid (cpR L u f un tf = (R, q1, q2))) :
    Calls Tryz.prog 77 #[.slice (some ⟨b, o, none⟩) n c, .string u, .string f, .int .i64 un, .string tf] w fun e w' => ∃ a2 n2 c2, e = .returned (.tuple #[.slice a2 n2 c2, .int .i64 q1, .int .i64 q2]) ∧ R.length = n2 ∧ Src w' a2 (cellsP R) ∧ Below w.heap.size w w' := by
  have hn60 := hg.1
  rw [hL] at hn60
  have HLN : Hid (L.length = n ∧ Src w (some ⟨b, o, none⟩) (cellsP L)) := ⟨hL, h⟩
  have HBAD : Hid (∀ (W : World) (z1 z2 : Int), Below w.heap.size w W → (L, z1, z2) = (R, q1, q2) → ∃ a2 n2 c2, Ending.returned (Value.tuple #[.slice (some ⟨b, o, none⟩) n c, .int .i64 z1, .int .i64 z2]) = Ending.returned (.tuple #[.slice a2 n2 c2, .int .i64 q1, .int .i64 q2]) ∧ R.length = n2 ∧ Src W a2 (cellsP R) ∧ Below w.heap.size w W) := fun W z1 z2 hW he => by
    cases he
    exact ⟨_, _, _, rfl, HLN.out.1, HLN.out.2.below hW, hW⟩
  have CK := l07KnownS (some ⟨b, o, none⟩) n c L hL hg u f (by omega) (by omega) w h _ rfl
  have CK2 := fun W (hW : Below w.heap.size w W) => l07KnownS (some ⟨b, o, none⟩) n c L hL hg u tf (by omega) (by omega) W (h.below hW) _ rfl
  have HR1 := HR.out
  unfold cpR at HR1
  obtain ⟨k1, hk1⟩ : ∃ z, knownR L u f = z := ⟨_, rfl⟩
  obtain ⟨k2, hk2⟩ : ∃ z, knownR L u tf = z := ⟨_, rfl⟩
  rw [hk1] at CK HR1 hval
  simp only [hk2] at CK2
  rw [hk2] at HR1
  by_cases e1 : k1 = 0
  case neg =>
    rw [if_pos e1] at HR1
    have HF := fun W hW => HBAD.out W 0 k1 hW HR1
    have HFH : Hid (∀ W, Below w.heap.size w W → ∃ a2 n2 c2, Ending.returned (Value.tuple #[.slice (some ⟨b, o, none⟩) n c, .int .i64 0, .int .i64 k1]) = Ending.returned (.tuple #[.slice a2 n2 c2, .int .i64 q1, .int .i64 q2]) ∧ R.length = n2 ∧ Src W a2 (cellsP R) ∧ Below w.heap.size w W) := HF
    have hki : (k1 != 0) = true := by simpa using e1
    clear hL h hg HR HR1 hk1 hk2 CK2 HF HBAD hval
    go_enter Tryz.func77, Tryz.ntmps77
    go_wp2_with fail
    refine CK.mono ?_
    rintro e w1 ⟨rfl, hb1⟩
    have HG : Hid (∃ a2 n2 c2, Ending.returned (Value.tuple #[.slice (some ⟨b, o, none⟩) n c, .int .i64 0, .int .i64 k1]) = Ending.returned (.tuple #[.slice a2 n2 c2, .int .i64 q1, .int .i64 q2]) ∧ R.length = n2 ∧ Src w1 a2 (cellsP R) ∧ Below w.heap.size w w1) := HFH.out w1 hb1
    clear hb1 CK HFH
    go_wp2_with fail
    exact bodyPost_ret (v := .tuple #[.slice (some ⟨b, o, none⟩) n c, .int .i64 0, .int .i64 k1]) (by simp [results, Tryz.results77, go_sem]) rfl HG.out
  subst e1
  rw [if_neg (by decide)] at HR1
  by_cases e2 : k2 = 0
  case neg =>
    rw [if_pos e2] at HR1
    have HFH : Hid (∀ W, Below w.heap.size w W → ∃ a2 n2 c2, Ending.returned (Value.tuple #[.slice (some ⟨b, o, none⟩) n c, .int .i64 0, .int .i64 k2]) = Ending.returned (.tuple #[.slice a2 n2 c2, .int .i64 q1, .int .i64 q2]) ∧ R.length = n2 ∧ Src W a2 (cellsP R) ∧ Below w.heap.size w W) := fun W hW => HBAD.out W 0 k2 hW HR1
    have hki : (k2 != 0) = true := by simpa using e2
    clear hL h hg HR HR1 hk1 hk2 HBAD hval
    go_enter Tryz.func77, Tryz.ntmps77
    go_wp2_with fail
    refine CK.mono ?_
    rintro e w1 ⟨rfl, hb1⟩
    have B1 : Hid (Below w.heap.size w w1) := hb1
    have CK3 := CK2 w1 hb1
    clear hb1 CK CK2
    go_wp2_with fail
    refine CK3.mono ?_
    rintro e w2 ⟨rfl, hb2⟩
    have HG : Hid (∃ a2 n2 c2, Ending.returned (Value.tuple #[.slice (some ⟨b, o, none⟩) n c, .int .i64 0, .int .i64 k2]) = Ending.returned (.tuple #[.slice a2 n2 c2, .int .i64 q1, .int .i64 q2]) ∧ R.length = n2 ∧ Src w2 a2 (cellsP R) ∧ Below w.heap.size w w2) := HFH.out w2 (B1.out.trans (hb2.mono B1.out.size))
    clear hb2 CK3 HFH
    go_wp2_with fail
    exact bodyPost_ret (v := .tuple #[.slice (some ⟨b, o, none⟩) n c, .int .i64 0, .int .i64 k2]) (by simp [results, Tryz.results77, go_sem]) rfl HG.out
  subst e2
  rw [if_neg (by decide)] at HR1
  unfold cpT at HR1
  cases hrg : (decide (1 ≤ un) && decide (un ≤ 999)) with
  | false =>
    rw [if_pos hrg] at HR1
    have HFH : Hid (∀ W, Below w.heap.size w W → ∃ a2 n2 c2, Ending.returned (Value.tuple #[.slice (some ⟨b, o, none⟩) n c, .int .i64 0, .int .i64 5]) = Ending.returned (.tuple #[.slice a2 n2 c2, .int .i64 q1, .int .i64 q2]) ∧ R.length = n2 ∧ Src W a2 (cellsP R) ∧ Below w.heap.size w W) := fun W hW => HBAD.out W 0 5 hW HR1
    have CI := fun W => l01InS un 1 999 false W hrg
    clear hL h hg HR HR1 hk1 hk2 HBAD hval hrg
    go_enter Tryz.func77, Tryz.ntmps77
    go_wp2_with fail
    refine CK.mono ?_
    rintro e w1 ⟨rfl, hb1⟩
    have B1 : Hid (Below w.heap.size w w1) := hb1
    have CK3 := CK2 w1 hb1
    clear hb1 CK CK2
    go_wp2_with fail
    refine CK3.mono ?_
    rintro e w2 ⟨rfl, hb2⟩
    have HG : Hid (∃ a2 n2 c2, Ending.returned (Value.tuple #[.slice (some ⟨b, o, none⟩) n c, .int .i64 0, .int .i64 5]) = Ending.returned (.tuple #[.slice a2 n2 c2, .int .i64 q1, .int .i64 q2]) ∧ R.length = n2 ∧ Src w2 a2 (cellsP R) ∧ Below w.heap.size w w2) := HFH.out w2 (B1.out.trans (hb2.mono B1.out.size))
    clear hb2 CK3 HFH
    go_wp2_with fail
    refine (CI _).mono ?_
    rintro e w3 ⟨rfl, hw3⟩
    obtain rfl := hw3
    go_wp2_with fail
    exact bodyPost_ret (v := .tuple #[.slice (some ⟨b, o, none⟩) n c, .int .i64 0, .int .i64 5]) (by simp [results, Tryz.results77, go_sem]) rfl HG.out
  | true =>
    rw [if_neg (by rw [hrg]; decide)] at HR1
    have hr2 : 1 ≤ un ∧ un ≤ 999 := by
      rw [Bool.and_eq_true, decide_eq_true_eq, decide_eq_true_eq] at hrg
      exact hrg
    have CI := fun W => l01InS un 1 999 true W hrg
    obtain ⟨nn, rfl⟩ : ∃ nn : Nat, un = (nn : Int) := ⟨un.toNat, by omega⟩
    have CML := fun W => l07MailS u f nn (by omega) (by omega) (by omega) W
    have CG := fun W (hW : Below w.heap.size w W) => l01GetM (some ⟨b, o, none⟩) n c L (mailK u f (nn : Int)) W hL hg (h.below hW)
    have hval2 := fun v => hval rfl v hr2.1 hr2.2
    clear hrg hr2 hval
    cases hv : getM L (mailK u f (nn : Int)) with
    | none =>
      rw [hv] at HR1
      simp only [hv] at CG
      have HFH : Hid (∀ W, Below w.heap.size w W → ∃ a2 n2 c2, Ending.returned (Value.tuple #[.slice (some ⟨b, o, none⟩) n c, .int .i64 0, .int .i64 5]) = Ending.returned (.tuple #[.slice a2 n2 c2, .int .i64 q1, .int .i64 q2]) ∧ R.length = n2 ∧ Src W a2 (cellsP R) ∧ Below w.heap.size w W) := fun W hW => HBAD.out W 0 5 hW HR1
      obtain ⟨MK, hMK⟩ : ∃ x, mailK u f (nn : Int) = x := ⟨_, rfl⟩
      simp only [hMK] at CML CG
      clear hL h hg HR HR1 hk1 hk2 HBAD hval2 hv hMK
      go_enter Tryz.func77, Tryz.ntmps77
      go_wp2_with fail
      refine CK.mono ?_
      rintro e w1 ⟨rfl, hb1⟩
      have B1 : Hid (Below w.heap.size w w1) := hb1
      have CK3 := CK2 w1 hb1
      clear hb1 CK CK2
      go_wp2_with fail
      refine CK3.mono ?_
      rintro e w2 ⟨rfl, hb2⟩
      have B2 : Hid (Below w.heap.size w w2) := B1.out.trans (hb2.mono B1.out.size)
      clear hb2 CK3
      go_wp2_with fail
      refine (CI _).mono ?_
      rintro e w3 ⟨rfl, hw3⟩
      obtain rfl := hw3
      clear CI
      go_wp2_with fail
      refine (CML _).mono ?_
      rintro e w4 ⟨rfl, hb4⟩
      have B4 : Hid (Below w.heap.size w w4) := B2.out.trans (hb4.mono B2.out.size)
      have CG4 := CG w4 B4.out
      have HG : Hid (∃ a2 n2 c2, Ending.returned (Value.tuple #[.slice (some ⟨b, o, none⟩) n c, .int .i64 0, .int .i64 5]) = Ending.returned (.tuple #[.slice a2 n2 c2, .int .i64 q1, .int .i64 q2]) ∧ R.length = n2 ∧ Src w4 a2 (cellsP R) ∧ Below w.heap.size w w4) := HFH.out w4 B4.out
      clear hb4 CML CG HFH
      go_wp2_with fail
      refine CG4.mono ?_
      rintro e w5 ⟨rfl, hw5⟩
      obtain rfl := hw5
      clear CG4
      go_wp2_with fail
      exact bodyPost_ret (v := .tuple #[.slice (some ⟨b, o, none⟩) n c, .int .i64 0, .int .i64 5]) (by simp [results, Tryz.results77, go_sem]) rfl HG.out
    | some v =>
      rw [hv] at HR1
      simp only [hv] at CG
      obtain ⟨z1, z2, z3, z4⟩ := hval2 v hv
      have hts2 : (v.extract 1 v.size).size ≤ 85 := by
        rw [ByteArray.size_extract]
        omega
      have CP := fun W (hW : Below w.heap.size w W) => l07AppendS b o n c L hL hc hc9 hg u tf (v.extract 1 v.size) (hdV v - 48) hus hts hts2 (by omega) (by omega) W (h.below hW) R q1 q2 HR1
      have hv0 : 0 < v.size := by omega
      have hcut : ∀ W : World, (Instr.slice 9 (.string v) (some (.int .i64 1)) none none).run Tryz.prog W = .ok (.string (v.extract 1 v.size)) W := fun W => by
        have := run_slice_string_l (P := Tryz.prog) (w := W) (t := 9) (s := v) Tryz.underlying9 .i64 1 (by omega) (by omega)
        exact this
      have hhd : (v[0].toNat : Int) = hdV v := by
        unfold hdV
        have e9 : v.data.toList.headD 0 = v[0] := by
          cases hvl : v.data.toList with
          | nil =>
            have h9 : v.data.toList.length = v.size := by simp
            rw [hvl] at h9
            simp at h9
            omega
          | cons c0 r0 =>
            have h9 : v[0] = v.data.toList[0]'(by rw [hvl]; simp) := rfl
            rw [h9]
            simp [hvl]
        rw [e9]
      obtain ⟨tx, htx⟩ : ∃ x, v.extract 1 v.size = x := ⟨_, rfl⟩
      simp only [htx] at CP hcut
      obtain ⟨hh, hhh⟩ : ∃ x : Int, hdV v = x := ⟨_, rfl⟩
      rw [hhh] at hhd z3 z4
      simp only [hhh] at CP
      have w8 : IntKind.u8.wrap (hh - 48) = hh - 48 := by
        simp [IntKind.wrap, IntKind.bits, IntKind.signed]
        omega
      have w64 : IntKind.i64.wrap (hh - 48) = hh - 48 := wrapI _ (by omega) (by omega)
      obtain ⟨MK, hMK⟩ : ∃ x, mailK u f (nn : Int) = x := ⟨_, rfl⟩
      simp only [hMK] at CML CG
      clear hL h hg HR HR1 hk1 hk2 HBAD hval2 hv hMK htx hhh hts2
      go_enter Tryz.func77, Tryz.ntmps77
      go_wp2_with fail
      refine CK.mono ?_
      rintro e w1 ⟨rfl, hb1⟩
      have B1 : Hid (Below w.heap.size w w1) := hb1
      have CK3 := CK2 w1 hb1
      clear hb1 CK CK2
      go_wp2_with fail
      refine CK3.mono ?_
      rintro e w2 ⟨rfl, hb2⟩
      have B2 : Hid (Below w.heap.size w w2) := B1.out.trans (hb2.mono B1.out.size)
      clear hb2 CK3
      go_wp2_with fail
      refine (CI _).mono ?_
      rintro e w3 ⟨rfl, hw3⟩
      obtain rfl := hw3
      clear CI
      go_wp2_with fail
      refine (CML _).mono ?_
      rintro e w4 ⟨rfl, hb4⟩
      have B4 : Hid (Below w.heap.size w w4) := B2.out.trans (hb4.mono B2.out.size)
      have CG4 := CG w4 B4.out
      clear hb4 CML CG
      go_wp2_with fail
      refine CG4.mono ?_
      rintro e w5 ⟨rfl, hw5⟩
      obtain rfl := hw5
      clear CG4
      have CP5 := CP w5.drew B4.out.drew
      clear CP
      go_upto_region 12 with fail
      refine wp_region_noPanic ?_
      refine wp_region_held_drew (S := fun w' => True) (by kernel_rfl) trivial (fun hHeld => ?_)
      refine tkA (i := 0) (v := .slice (some ⟨b, o, none⟩) n c) ?_ hHeld ?_
      · intro w9 hSw
        go_simp
      simp only [Act.put, List.setIfInBounds_toArray, List.set_cons_zero, List.set_cons_succ]
      refine tkA (i := 1) (v := .string u) ?_ hHeld ?_
      · intro w9 hSw
        go_simp
      simp only [Act.put, List.setIfInBounds_toArray, List.set_cons_zero, List.set_cons_succ]
      refine tkA (i := 2) (v := .string tf) ?_ hHeld ?_
      · intro w9 hSw
        go_simp
      simp only [Act.put, List.setIfInBounds_toArray, List.set_cons_zero, List.set_cons_succ]
      refine tkA (i := 3) (v := .string v) ?_ hHeld ?_
      · intro w9 hSw
        go_simp
      simp only [Act.put, List.setIfInBounds_toArray, List.set_cons_zero, List.set_cons_succ]
      refine tkA (i := 4) (v := .string tx) ?_ hHeld ?_
      · intro w9 hSw
        have h9 := hcut w9
        go_simp
      simp only [Act.put, List.setIfInBounds_toArray, List.set_cons_zero, List.set_cons_succ]
      refine tkA (i := 5) (v := .string v) ?_ hHeld ?_
      · intro w9 hSw
        go_simp
      simp only [Act.put, List.setIfInBounds_toArray, List.set_cons_zero, List.set_cons_succ]
      refine tkA (i := 6) (v := .int .u8 hh) ?_ hHeld ?_
      · intro w9 hSw
        go_simp
      simp only [Act.put, List.setIfInBounds_toArray, List.set_cons_zero, List.set_cons_succ]
      refine tkA (i := 7) (v := .int .u8 (hh - 48)) ?_ hHeld ?_
      · intro w9 hSw
        go_simp
      simp only [Act.put, List.setIfInBounds_toArray, List.set_cons_zero, List.set_cons_succ]
      refine tkA (i := 8) (v := .int .i64 (hh - 48)) ?_ hHeld ?_
      · intro w9 hSw
        go_simp
      simp only [Act.put, List.setIfInBounds_toArray, List.set_cons_zero, List.set_cons_succ]
      refine wpAnyH_ready (rs := [9]) (by kernel_rfl) (by simp) ?_
      refine AllReadyH.cons rfl (fun K hK => ?_) AllReadyH.nil
      go_simp
      refine CP5.mono ?_
      rintro e w6 ⟨a6, n6, c6, rfl, y1, y2, hb6⟩
      dsimp only
      have HF : Hid (R.length = n6 ∧ Src w6 a6 (cellsP R) ∧ Below w.heap.size w w6) := ⟨y1, y2, B4.out.drew.trans (Below.mono hb6 B4.out.size)⟩
      clear y1 y2 hb6
      refine hK _ _ trivial (fun hHeld => ?_)
      clear hK K
      refine tkA (i := 10) (v := .slice a6 n6 c6) ?_ hHeld ?_
      · intro w9 hSw
        go_simp
      simp only [Act.put, List.setIfInBounds_toArray, List.set_cons_zero, List.set_cons_succ]
      refine tkA (i := 11) (v := .int .i64 q1) ?_ hHeld ?_
      · intro w9 hSw
        go_simp
      simp only [Act.put, List.setIfInBounds_toArray, List.set_cons_zero, List.set_cons_succ]
      refine tkA (i := 12) (v := .int .i64 q2) ?_ hHeld ?_
      · intro w9 hSw
        go_simp
      simp only [Act.put, List.setIfInBounds_toArray, List.set_cons_zero, List.set_cons_succ]
      refine wpAnyH_ready (rs := [13]) (by kernel_rfl) (by simp) ?_
      refine AllReadyH.cons rfl (fun K hK => ?_) AllReadyH.nil
      go_simp
      refine hK _ _ trivial (fun hHeld => ?_)
      clear hK K
      refine wpAnyH_ready (rs := [14]) (by kernel_rfl) (by simp) ?_
      refine AllReadyH.cons rfl (fun K hK => ?_) AllReadyH.nil
      go_simp
      refine hK _ _ trivial (fun hHeld => ?_)
      clear hK K
      refine wpAnyH_ready (rs := [15]) (by kernel_rfl) (by simp) ?_
      refine AllReadyH.cons rfl (fun K hK => ?_) AllReadyH.nil
      go_simp
      refine hK _ _ trivial (fun hHeld => ?_)
      clear hK K
      refine wpAnyH_done (by kernel_rfl) ?_ _
      refine NoPanic.normal ?_
      clear hHeld
      go_wp2_with fail
      exact bodyPost_ret (v := .tuple #[.slice a6 n6 c6, .int .i64 q1, .int .i64 q2]) (by simp [results, Tryz.results77, go_sem]) rfl ⟨_, _, _, rfl, HF.out⟩
end Go.Proofs.YthejpemiaenfpaaGreatDoor
namespace Go.Proofs.YthejpemiaenfpaaGreatDoor
open Go.ChangeShapes Go.WideShapes Go.ChangeAt Go.RowKit Go.Deep Go.Lib
set_option linter.unusedVariables false
set_option linter.unusedSimpArgs false
set_option maxRecDepth 100000

theorem cells_set : ∀ (L : List MMl) (j : Nat) (z : Int), j < L.length → (cellsMl L).set (j * 3 + 1) (.int .i64 z) = cellsMl (L.set j ((L.getD j ml0).1, z, (L.getD j ml0).2.2))
  | [], j, _, h => by cases h
  | x :: L, 0, z, _ => by
    simp [cellsMl]
  | x :: L, j + 1, z, h => by
    have ih := cells_set L j z (by simpa using h)
    have e1 : cellsMl (x :: L) = .int .i64 x.1 :: .int .i64 x.2.1 :: .string x.2.2 :: cellsMl L := rfl
    have e2 : (x :: L).set (j + 1) (((x :: L).getD (j + 1) ml0).1, z, ((x :: L).getD (j + 1) ml0).2.2) = x :: L.set j ((L.getD j ml0).1, z, (L.getD j ml0).2.2) := rfl
    rw [e2, e1, show (j + 1) * 3 + 1 = (j * 3 + 1) + 1 + 1 + 1 by omega]
    show _ :: _ :: _ :: (cellsMl L).set (j * 3 + 1) _ = _
    rw [ih]
    rfl
def setM (S : SM) (g : FM) (Ms : List MMl) : SM := ⟨S.aside, S.word, putF ⟨g.name, g.val, g.next, Ms⟩ S.fs⟩
/-- What the flags' setting does. -/
def SfIs (S : SM) (f : ByteArray) (un fl q : Int) (S' : SM) : Prop :=
  (lackM S.word S.fs [f] ≠ 0 ∧ q = lackM S.word S.fs [f] ∧ S' = S) ∨ (lackM S.word S.fs [f] = 0 ∧ ∃ g, lookF f S.fs = some g ∧ (((∀ m ∈ g.mails, m.1 ≠ un) ∧ q = 5 ∧ S' = S) ∨ ∃ j, j < g.mails.length ∧ (g.mails.getD j ml0).1 = un ∧ q = 0 ∧ S' = setM S g (g.mails.set j ((g.mails.getD j ml0).1, fl, (g.mails.getD j ml0).2.2))))
theorem lack_zero {S : SM} {f : ByteArray} (h : lackM S.word S.fs [f] = 0) : ∃ g, lookF f S.fs = some g := by
  unfold lackM at h
  split at h
  · cases h
  · split at h
    · cases h
    · rename_i hb
      refine Option.isSome_iff_exists.1 ?_
      cases h9 : (lookF f S.fs).isSome with
      | true => rfl
      | false => exact absurd (by show ((lookF f S.fs).isSome && true) = false; rw [h9]; rfl) hb
set_option maxHeartbeats 4000000 in
theorem setFlagsI (w : World) (M : Nat) (a : Option Addr) (n c : Nat) (nx : Int) (u : ByteArray) (S : SM) (k : Nat) (hS : StAt w M a n c nx u S k) (f : ByteArray) (hfz : f.size ≤ 1000) (hu : u.size ≤ 1000) (un fl : Int) (hk : k ≤ 1000) :
    Calls Tryz.prog 71 #[.pointer (some ⟨M + 1, 0, none⟩), .string f, .int .i64 un, .int .i64 fl] w fun e w' => ∃ q S', e = .returned (.int .i64 q) ∧ SfIs S f un fl q S' ∧ StAt w' M a n c nx u S' k ∧ Below M w w' := by
  have AL : Below w.heap.size w (w.alloc (.cells #[.string f] 9)) := (Below.refl _ _).alloc (Nat.le_refl _) _
  have HST : Hid (StAt (w.alloc (.cells #[.string f] 9)) M a n c nx u S k) := hS.later AL
  have hM1 : M + 1 < w.heap.size := by
    obtain ⟨_, _, hD, _⟩ := hS
    exact World.block_lt_of_cell? _ _ (hD.1 0 _ rfl).1
  have HAL : Hid (Below w.heap.size w (w.alloc (.cells #[.string f] 9))) := AL
  obtain ⟨lq, hlq⟩ : ∃ x, lackM S.word S.fs [f] = x := ⟨_, rfl⟩
  have CL := lacksI (w.alloc (.cells #[.string f] 9)) M a n c nx u S k HST.out hu (some ⟨w.heap.size, 0, none⟩) 1 1 [f] rfl (by omega) (fun s hs => by rw [List.mem_singleton.1 hs]; omega) (src_1S rfl) lq hlq
  have HLQ : Hid (lackM S.word S.fs [f] = lq) := hlq
  clear hlq AL hS
  go_enter Tryz.func71, Tryz.ntmps71
  go_wp2_with fail
  refine CL.mono ?_
  rintro e w1 ⟨rfl, hb1⟩
  have B1 : Hid (Below w.heap.size w w1) := HAL.out.trans (hb1.mono HAL.out.size)
  have HST1 : Hid (StAt w1 M a n c nx u S k) := HST.out.later hb1
  clear hb1 CL HST
  by_cases hl0 : lq = 0
  case neg =>
    have hli : (lq != 0) = true := by simpa using hl0
    have HF : Hid (SfIs S f un fl lq S ∧ StAt w1 M a n c nx u S k ∧ Below M w w1) := ⟨.inl ⟨by rw [HLQ.out]; exact hl0, HLQ.out.symm, rfl⟩, HST1.out, B1.out.mono (by omega)⟩
    go_wp2_with fail
    go_ret
    exact ⟨_, S, rfl, HF.out⟩
  subst hl0
  obtain ⟨g, hl⟩ := lack_zero HLQ.out
  obtain ⟨va, X, hD, hV, hN, hf, hkk⟩ := HST1.out
  obtain ⟨xf, hx1, hxg⟩ : ∃ z, lookX (folderK u f) X = some z ∧ fmX z = g := by
    have h9 := hV.look f
    rw [hl] at h9
    obtain ⟨z, h1, h2⟩ := Option.map_eq_some_iff.1 h9
    exact ⟨z, h1, h2⟩
  obtain ⟨ax, cx, hxv, hsm, _⟩ := own_src (hD.2.2.2.1 xf (look_mem hx1))
  have CT := atI f w1 M _ (by omega) (by show u.size ≤ 1048576; omega) hD
  have hat : atX (lookX (folderK u f) X) = .agg #[.string xf.name, .int .i64 xf.val, .int .i64 xf.next, .slice ax xf.mails.length cx] := by
    rw [hx1]
    show valX xf = _
    unfold valX
    rw [hxv]
  simp only [hat] at CT
  have hgn : xf.name = g.name ∧ xf.val = g.val ∧ xf.next = g.next ∧ xf.mails = g.mails := by rw [← hxg]; exact ⟨rfl, rfl, rfl, rfl⟩
  have hown := hD.2.2.2.1 xf (look_mem hx1)
  rw [hxv, hgn.2.2.2] at hown
  rw [hgn.2.2.2] at hsm hxv
  rw [hgn.1, hgn.2.1, hgn.2.2.1, hgn.2.2.2, (lookF_mem hl).2] at CT
  have hgok := hf _ (lookF_mem hl).1
  have hgname := (lookF_mem hl).2
  obtain ⟨gn, gv, gx, gm⟩ := g
  dsimp only at CT hsm hgok hown hgn hxv hgname
  obtain ⟨ml, hml⟩ : ∃ z, gm.length = z := ⟨_, rfl⟩
  rw [hml] at CT hgok hown hxv
  have HL : Hid (lookF f S.fs = some ⟨gn, gv, gx, gm⟩ ∧ gn = f) := ⟨hl, hgname⟩
  have HSM : Hid (Src w1 ax (cellsMl gm) ∧ gm.length = ml) := ⟨hsm, hml⟩
  have HD1 : Hid (DeskAt w1 M ⟨a, n, c, va, S.aside, nx, u, S.word, X⟩) := hD
  have HO1 : Hid (w1.ownsRow (M + 2) 78 3 (.slice ax ml cx) ml (cellsMl gm)) := hown
  have HX1 : Hid (lookX (folderK u f) X = some xf ∧ xf.v = .slice ax ml cx) := ⟨hx1, hxv⟩
  have HREST : Hid ((S.fs.map (·.name)).Nodup ∧ (∀ f ∈ S.fs, 1 ≤ f.next ∧ f.next ≤ 999 ∧ f.mails.length ≤ k) ∧ S.aside.length ≤ k ∧ View u X S.fs) := ⟨hN, hf, hkk, hV⟩
  have hM2 : M + 1 < w1.heap.size := World.block_lt_of_cell? _ _ (hD.1 0 _ rfl).1
  clear hD hV hN hf hkk hx1 hxg hxv hsm hat hown hgn hml hl hgname
  go_wp2_with fail
  refine CT.mono ?_
  rintro e w2 ⟨rfl, hb2⟩
  have R2 : Below w1.heap.size w1 w2 := hb2
  obtain ⟨w3, hw3⟩ : ∃ W, w2.alloc (.cells #[.string f, .int .i64 gv, .int .i64 gx, .slice ax ml cx] 26) = W := ⟨_, rfl⟩
  have A3 : Below w2.heap.size w2 w3 := by rw [← hw3]; exact (Below.refl _ _).alloc (Nat.le_refl _) _
  have X3 : Box w3 w2.heap.size [.string f, .int .i64 gv, .int .i64 gx, .slice ax ml cx] := by rw [← hw3]; exact Box.new rfl
  have R3 : Below w1.heap.size w1 w3 := R2.trans (A3.mono R2.size)
  have CPL := placeI f gv gx ax ml cx gm un w3 HSM.out.2 (by omega) (HSM.out.1.below R3)
  have HR3 : Hid (Below w1.heap.size w1 w3) := R3
  have HX3 : Hid (Box w3 w2.heap.size [.string f, .int .i64 gv, .int .i64 gx, .slice ax ml cx]) := X3
  have Z2 : Hid (w1.heap.size ≤ w2.heap.size) := R2.size
  obtain ⟨y0, _⟩ := X3 0 _ rfl
  obtain ⟨y1, _⟩ := X3 1 _ rfl
  obtain ⟨y2, _⟩ := X3 2 _ rfl
  obtain ⟨y3, _⟩ := X3 3 _ rfl
  clear CT hb2 R2 A3 X3 R3
  go_wp2_with fail
  refine CPL.mono ?_
  rintro e w4 ⟨i, rfl, hpl, hi1, hb4⟩
  have R4 : Hid (Below w1.heap.size w1 w4) := HR3.out.trans (hb4.mono HR3.out.size)
  have X4 : Hid (Box w4 w2.heap.size [.string f, .int .i64 gv, .int .i64 gx, .slice ax ml cx]) := HX3.out.below hb4
  have B4 : Hid (Below w.heap.size w w4) := B1.out.trans (R4.out.mono B1.out.size)
  clear hb4 CPL y0 y1 y2 y3
  rcases hpl with ⟨j, hj, rfl, hju⟩ | ⟨rfl, hno⟩
  · have hj0 : (0 : Int) ≤ (j : Int) := by omega
    have hjm : j < ml := by rw [← HSM.out.2]; exact hj
    have hjmi : (j : Int) < (ml : Int) := by omega
    obtain ⟨gb, cap, hax, _, _⟩ := own_someP HO1.out (by omega)
    cases hax
    have O4 : w4.ownsRow (M + 2) 78 3 (.slice (some ⟨gb, 0, none⟩) ml cx) ml (cellsMl gm) := own_below HO1.out R4.out
    have D4 : DeskAt w4 M ⟨a, n, c, va, S.aside, nx, u, S.word, X⟩ := HD1.out.later R4.out
    have hgb := HO1.out.lt gb rfl
    have hjc : j * 3 + 1 < (cellsMl gm).length := by rw [cellsMl_length, HSM.out.2]; omega
    obtain ⟨zz, cj, cjf⟩ := own_cellX O4 hjc
    obtain ⟨w5, hw5⟩ : ∃ W, w4.setCell ⟨gb, j * 3 + 1, none⟩ (.int .i64 fl) = W := ⟨_, rfl⟩
    have hset := cells_set gm j fl hj
    have O5 : w5.ownsRow (M + 2) 78 3 (.slice (some ⟨gb, 0, none⟩) ml cx) ml (cellsMl (gm.set j ((gm.getD j ml0).1, fl, (gm.getD j ml0).2.2))) := by
      rw [← hw5, ← hset]
      exact own_set O4 _ hjc _
    have X5 : Box w5 w2.heap.size [.string f, .int .i64 gv, .int .i64 gx, .slice (some ⟨gb, 0, none⟩) ml cx] := by
      rw [← hw5]
      exact X4.out.other _ (by have h9 := Z2.out; show w2.heap.size ≠ gb; omega) _
    have K5 : DeskH w5 M ⟨a, n, c, va, S.aside, nx, u, S.word, X⟩ := by
      obtain ⟨k1, ⟨cl, k2⟩, k3, _⟩ := D4
      rw [← hw5]
      exact ⟨box_far k1 _ _ (by show M + 1 ≠ gb; omega), ⟨cl, k2.setCell _ _ (by show M ≠ gb; omega)⟩, own_setOther k3 (fun h9 => own_ne k3 O4 (by decide) gb h9 rfl) _⟩
    have hKN : (X.map (·.k)).Nodup := by
      rw [HREST.out.2.2.2.keys]
      exact nodup_keys HREST.out.1
    have hap : ∀ z ∈ X, z.k ≠ folderK u f → ∀ b, z.v.ownBlock = some b → Value.ownBlock (.slice (some ⟨gb, 0, none⟩) ml cx) ≠ some b := fun z hz hzk b h9 => by
      have h7 := rows_apart D4.2.2.2 HX1.out.1 hz hzk b h9
      rw [HX1.out.2] at h7
      exact h7
    have hsl : (gm.set j ((gm.getD j ml0).1, fl, (gm.getD j ml0).2.2)).length = ml := by rw [List.length_set]; exact HSM.out.2
    have R5 : ∀ clock, Rows w5 M (setX ⟨folderK u f, 0, f, gv, gx, .slice (some ⟨gb, 0, none⟩) ml cx, gm.set j ((gm.getD j ml0).1, fl, (gm.getD j ml0).2.2)⟩ clock X) := fun clock => by
      refine rows_set' (fun z hz hzk => by rw [← hw5]; exact own_setOther (D4.2.2.2.1 z hz) (fun h9 => hap z hz hzk gb h9 rfl) _) HD1.out.2.2.2.2 ?_ hKN hap clock
      show World.ownsRow _ _ _ _ _ (gm.set j _).length _
      rw [hsl]
      exact O5
    have B5 : Hid (Below M w w5) := by
      rw [← hw5]
      exact (B4.out.mono (by omega)).setCell (by show M ≤ gb; omega) _
    have CP := putI ⟨folderK u f, 0, f, gv, gx, .slice (some ⟨gb, 0, none⟩) ml cx, gm.set j ((gm.getD j ml0).1, fl, (gm.getD j ml0).2.2)⟩ f gv gx (some ⟨gb, 0, none⟩) ml cx w5 M ⟨a, n, c, va, S.aside, nx, u, S.word, X⟩ rfl (by omega) (by show u.size ≤ 1048576; omega) K5 R5
    obtain ⟨c3, _⟩ := X4.out 3 _ rfl
    obtain ⟨g0, _⟩ := X5 0 _ rfl
    obtain ⟨g1, _⟩ := X5 1 _ rfl
    obtain ⟨g2, _⟩ := X5 2 _ rfl
    obtain ⟨g3, _⟩ := X5 3 _ rfl
    have HJ : Hid (j < gm.length ∧ (gm.getD j ml0).1 = un ∧ (gm.set j ((gm.getD j ml0).1, fl, (gm.getD j ml0).2.2)).length = ml) := ⟨hj, hju, hsl⟩
    obtain ⟨MS, hMS⟩ : ∃ z, gm.set j ((gm.getD j ml0).1, fl, (gm.getD j ml0).2.2) = z := ⟨_, rfl⟩
    rw [hMS] at CP HJ
    have HMS : Hid (gm.set j ((gm.getD j ml0).1, fl, (gm.getD j ml0).2.2) = MS) := hMS
    clear hset O5 X5 K5 hKN hap hsl R5 O4 D4 hju hMS hjc hj
    go_wp2_with fail
    refine CP.mono ?_
    rintro e w8 ⟨rfl, ⟨clock, hd8⟩, hb8⟩
    have HF : Hid (SfIs S f un fl 0 (setM S ⟨gn, gv, gx, gm⟩ MS) ∧ StAt w8 M a n c nx u (setM S ⟨gn, gv, gx, gm⟩ MS) k ∧ Below M w w8) := by
      refine ⟨.inr ⟨HLQ.out, _, HL.out.1, .inr ⟨j, HJ.out.1, HJ.out.2.1, rfl, by rw [HMS.out]⟩⟩, ⟨va, _, hd8, ?_, putF_names HREST.out.1, fun z hz => ?_, HREST.out.2.2.1⟩, B5.out.trans hb8⟩
      · have h9 := HREST.out.2.2.2.put (y := ⟨folderK u f, 0, f, gv, gx, .slice (some ⟨gb, 0, none⟩) ml cx, MS⟩) rfl clock
        have h8 : (setM S ⟨gn, gv, gx, gm⟩ MS).fs = putF ⟨f, gv, gx, MS⟩ S.fs := by unfold setM; rw [HL.out.2]
        rw [h8]
        exact h9
      · rcases putF_mem (show z ∈ putF ⟨gn, gv, gx, MS⟩ S.fs from hz) with hz | rfl
        · exact HREST.out.2.1 z hz
        · exact ⟨hgok.1, hgok.2.1, by show MS.length ≤ k; rw [HJ.out.2.2]; exact hgok.2.2⟩
    clear CP hd8 hb8 g0 g1 g2 g3
    go_wp2_with fail
    go_ret
    exact ⟨_, _, rfl, HF.out⟩
  · have HF : Hid (SfIs S f un fl 5 S ∧ StAt w4 M a n c nx u S k ∧ Below M w w4) := ⟨.inr ⟨HLQ.out, _, HL.out.1, .inl ⟨hno, rfl, rfl⟩⟩, ⟨va, X, HD1.out.later R4.out, HREST.out.2.2.2, HREST.out.1, HREST.out.2.1, HREST.out.2.2.1⟩, B4.out.mono (by omega)⟩
    have hdec : decide ((0 : Int) ≤ -1) = false := by decide
    clear hno
    go_wp2_with fail
    go_ret
    exact ⟨_, _, rfl, HF.out⟩
end Go.Proofs.YthejpemiaenfpaaGreatDoor
namespace Go.Proofs.YthejpemiaenfpaaGreatDoor
open Go.ChangeShapes Go.WideShapes Go.ChangeAt Go.RowKit Go.Deep Go.Lib
set_option linter.unusedVariables false
set_option linter.unusedSimpArgs false
set_option maxRecDepth 100000

def flT (L : List PM) (u f : ByteArray) (un fl : Int) : List PM × Int :=
  if (decide (1 ≤ un) && decide (un ≤ 999)) = false then (L, 5) else match getM L (mailK u f un) with
    | none => (L, 5)
    | some v => (insL (mailK u f un) (bs (itoa fl) ++ v.extract 1 v.size) L, 0)
def flR (L : List PM) (u f : ByteArray) (un fl : Int) : List PM × Int := if knownR L u f ≠ 0 then (L, knownR L u f) else flT L u f un fl
theorem swap_ins {L D : List PM} {k v v' : ByteArray} (hu : UpL L) (hp : L.Perm ((k, v) :: D)) : (insL k v' L).Perm ((k, v') :: D) := by
  refine (ins_perm hu).trans (List.Perm.cons _ ?_)
  have hnd : (L.map (·.1)).Nodup := by
    have h1 : L.Pairwise fun x y => x.1 ≠ y.1 := hu.imp fun h e => by rw [e] at h; exact ltK_irrefl _ h
    rw [List.Nodup, List.pairwise_map]
    exact h1
  have h2 : (((k, v) :: D).map (·.1)).Nodup := (hp.map _).nodup_iff.1 hnd
  rw [List.map_cons, List.nodup_cons] at h2
  refine (notK_perm hp).trans ?_
  rw [notK_skip k (k, v) D rfl, notK_self fun x hx e => h2.1 (List.mem_map.2 ⟨x, hx, e⟩)]
theorem pull_perm (v w F x : PM) (A a b r : List PM) : (v :: w :: (A ++ ((F :: (a ++ x :: b)) ++ r))).Perm (x :: (v :: w :: (A ++ ((F :: (a ++ b)) ++ r)))) := by
  have p1 : (A ++ ((F :: (a ++ x :: b)) ++ r)).Perm (x :: (A ++ ((F :: (a ++ b)) ++ r))) := by
    have p2 : ((F :: (a ++ x :: b)) ++ r).Perm (x :: ((F :: (a ++ b)) ++ r)) := by
      have p3 : (F :: (a ++ x :: b)).Perm (x :: F :: (a ++ b)) := (List.Perm.cons F List.perm_middle).trans (List.Perm.swap _ _ _)
      exact List.Perm.append_right r p3
    exact (List.Perm.append_left A p2).trans List.perm_middle
  exact (List.Perm.cons v (List.Perm.cons w p1)).trans ((List.Perm.cons v (List.Perm.swap _ _ _)).trans (List.Perm.swap _ _ _))
theorem set_split {α : Type} (d : α) : ∀ (L : List α) (j : Nat) (y : α), j < L.length → ∃ A B, L = A ++ L.getD j d :: B ∧ L.set j y = A ++ y :: B
  | [], j, _, h => by cases h
  | x :: L, 0, y, _ => ⟨[], L, rfl, rfl⟩
  | x :: L, j + 1, y, h => by
    obtain ⟨A, B, h1, h2⟩ := set_split d L j y (by simpa using h)
    refine ⟨x :: A, B, ?_, ?_⟩
    · show x :: L = x :: (A ++ L.getD j d :: B)
      rw [← h1]
    · show x :: L.set j y = x :: (A ++ y :: B)
      rw [h2]
theorem sf_fits {L : List PM} {u f : ByteArray} {un fl : Int} {S S' : SM} {q : Int} (h : storeB L = true) (hsu : shortB u = true) (hsf : shortB f = true) (f0 : 0 ≤ fl) (f1 : fl ≤ 3) (hS : takeAll (nextM L) u S0 L = some S) (hQ : SfIs S f un fl q S') : OpFits L u q (nextM L) S' (flR L u f un fl) := by
  have hus := word_slash hsu
  have hfs := word_slash hsf
  obtain ⟨hg, nx0, hnm, n1, n2, _, _, _⟩ := store_facts h
  rw [hnm] at n1 n2
  have hlk := lack_known h hus hfs hS
  unfold flR
  rcases hQ with ⟨k1, rfl, rfl⟩ | ⟨k1, g, hl, ⟨hno, rfl, rfl⟩ | ⟨j, hj, hju, rfl, rfl⟩⟩
  · rw [hlk] at k1 ⊢
    rw [if_pos k1]
    exact ⟨fun _ => rfl, fun h9 => absurd h9 k1⟩
  · rw [hlk] at k1
    rw [if_neg (by simp [k1])]
    refine ⟨fun _ => ?_, fun h9 => by cases h9⟩
    unfold flT
    by_cases hr : (decide (1 ≤ un) && decide (un ≤ 999)) = false
    · rw [if_pos hr]
    · rw [if_neg hr]
      have hcp := cp_miss (tf := f) h hus hfs hS hl hno
      unfold cpT at hcp
      rw [if_neg hr] at hcp
      cases hv : getM L (mailK u f un) with
      | none => rfl
      | some v =>
        exfalso
        have hr2 : 1 ≤ un ∧ un ≤ 999 := by
          by_cases e : 1 ≤ un ∧ un ≤ 999
          · exact e
          · exact absurd (by
              by_cases e1 : 1 ≤ un
              · have e2 : ¬ un ≤ 999 := fun h9 => e ⟨e1, h9⟩
                rw [decide_eq_false e2]; simp
              · rw [decide_eq_false e1]; rfl) hr
        have hp := (getM_mem hg.2.2).1 hv
        have hp2 : (mailK u f ((un.toNat : Nat) : Int), v) ∈ L := by rw [show ((un.toNat : Nat) : Int) = un by omega]; exact hp
        obtain ⟨m, m1, m2, _⟩ := mail_there h hus hfs hS hl (by omega) hp2
        exact hno m m1 (by omega)
  · rw [hlk] at k1
    rw [if_neg (by simp [k1])]
    obtain ⟨hw, _⟩ := known_zero h hus hfs hS k1
    obtain ⟨hgm, hgn⟩ := lookF_mem hl
    obtain ⟨m, hmd⟩ : ∃ m, g.mails.getD j ml0 = m := ⟨_, rfl⟩
    rw [hmd] at hju ⊢
    have hmm : m ∈ g.mails := by rw [← hmd]; exact mem_getD' _ _ _ hj
    obtain ⟨e1, e2, e3, e4, e5⟩ := (store_fit h hS g hgm).2.2.2.2.2 m hmm
    have hp := mail_pair h hus hS hl hmm
    have hp2 : (mailK u f ((m.1.toNat : Nat) : Int), mailV m) ∈ L := by rw [show ((m.1.toNat : Nat) : Int) = m.1 by omega]; exact hp
    obtain ⟨_, _, _, _, hpos⟩ := mail_val h hus hfs (hasU h hus hS hw) (by omega) hp2
    obtain ⟨A, B, hA, hB⟩ := set_split ml0 g.mails j (m.1, fl, m.2.2) hj
    rw [hmd] at hA
    have hflT : flT L u f un fl = (insL (mailK u f un) (mailV (m.1, fl, m.2.2)) L, 0) := by
      unfold flT
      rw [if_neg (by rw [← hju, decide_eq_true (by omega), decide_eq_true (by omega)]; decide), ← hju, (getM_mem hg.2.2).2 hp]
      show (insL (mailK u f m.1) (bs (itoa fl) ++ (mailV m).extract 1 (mailV m).size) L, (0 : Int)) = _
      rw [(mailV_parts e3 e4).1]
      rfl
    rw [hflT, hB]
    have hdl := desk_list h hus hS hw
    have hfp : ∀ m' : MMl, fPairs u ⟨g.name, g.val, g.next, A ++ m' :: B⟩ = (folderK u f, metaT g.val g.next) :: (A.map (mailP u f) ++ (mailP u f m') :: B.map (mailP u f)) := fun m' => by
      unfold fPairs
      dsimp only
      rw [hgn, List.map_append]
      rfl
    have hgg : g = ⟨g.name, g.val, g.next, A ++ m :: B⟩ := by
      cases g
      dsimp only at hA ⊢
      rw [← hA]
    have hfl1 : (flatF u S.fs).Perm (fPairs u g ++ flatF u (dropF f S.fs)) := by
      have h9 := flat_perm (u := u) (drop_perm hl)
      rw [flat_cons] at h9
      exact h9
    rw [hgg, hfp] at hfl1
    have hLD : L.Perm ((mailK u f un, mailV m) :: ((vK, bs (itoa (nextM L))) :: (userK u, S.word) :: (notK vK S.aside ++ (((folderK u f, metaT g.val g.next) :: (A.map (mailP u f) ++ B.map (mailP u f))) ++ flatF u (dropF f S.fs))))) := by
      refine hdl.trans ?_
      refine (List.Perm.cons _ (List.Perm.cons _ (List.Perm.append_left _ hfl1))).trans ?_
      rw [← hju]
      exact pull_perm _ _ _ _ _ _ _ _
    have hY := swap_ins (v' := mailV (m.1, fl, m.2.2)) hg.2.2 hLD
    have hlen : (insL (mailK u f un) (mailV (m.1, fl, m.2.2)) L).length ≤ 60 := by
      have h8 := hLD.length_eq
      have h7 := hg.1
      rw [hY.length_eq]
      simp only [List.length_cons] at h8 ⊢
      omega
    refine ⟨fun h9 => absurd rfl h9, fun _ => ⟨by omega, n2, fun z hz => ?_, insL (mailK u f un) (mailV (m.1, fl, m.2.2)) L, ins_up hg.2.2, ?_, by omega, ?_⟩⟩
    · rcases putF_mem (show z ∈ putF ⟨g.name, g.val, g.next, A ++ (m.1, fl, m.2.2) :: B⟩ S.fs from hz) with hz | rfl
      · exact store_fit h hS z hz
      · obtain ⟨t1, t2, t3, t4, t5, t6⟩ := store_fit h hS g hgm
        refine ⟨t1, t2, t3, t4, t5, fun z hz => ?_⟩
        rw [hA] at t6
        rcases List.mem_append.1 (show z ∈ A ++ (m.1, fl, m.2.2) :: B from hz) with hz | hz
        · exact t6 z (List.mem_append_left _ hz)
        · rcases List.mem_cons.1 hz with rfl | hz
          · exact ⟨e1, e2, f0, f1, e5⟩
          · exact t6 z (List.mem_append_right _ (List.mem_cons_of_mem _ hz))
    · refine List.Perm.trans ?_ hY.symm
      unfold deskP setM
      dsimp only
      have hfl2 : (flatF u (putF ⟨g.name, g.val, g.next, A ++ (m.1, fl, m.2.2) :: B⟩ S.fs)).Perm (fPairs u ⟨g.name, g.val, g.next, A ++ (m.1, fl, m.2.2) :: B⟩ ++ flatF u (dropF f S.fs)) := by
        have h9 := flat_perm (u := u) (put_perm (g := ⟨g.name, g.val, g.next, A ++ (m.1, fl, m.2.2) :: B⟩) (f := g) (fs := S.fs) (by show lookF g.name S.fs = some g; rw [hgn]; exact hl))
        rw [flat_cons] at h9
        dsimp only at h9
        rw [hgn] at h9 ⊢
        exact h9
      rw [hfp] at hfl2
      refine (List.Perm.cons _ (List.Perm.cons _ (List.Perm.append_left _ hfl2))).trans ?_
      rw [← hju]
      exact pull_perm _ _ _ _ _ _ _ _
    · unfold fitsR
      rw [if_neg (by omega)]
set_option maxHeartbeats 4000000 in
theorem l07FlagsS (b o n c : Nat) (L : List PM) (hL : L.length = n) (hc : n ≤ c) (hc9 : c ≤ maxLen) (hg : GoodL L) (u f : ByteArray) (un fl : Int) (hus : u.size ≤ 8) (hfs : f.size ≤ 8) (f0 : 0 ≤ fl) (f1 : fl ≤ 3) (hval : knownR L u f = 0 → ∀ v, 1 ≤ un → un ≤ 999 → getM L (mailK u f un) = some v → 1 ≤ v.size ∧ v.size ≤ 86) (w : World) (h : Src w (some ⟨b, o, none⟩) (cellsP L)) (R : List PM) (q : Int) (HR : Hid (flR L u f un fl = (R, q))) :
    Calls Tryz.prog 70 #[.slice (some ⟨b, o, none⟩) n c, .string u, .string f, .int .i64 un, .int .i64 fl] w fun e w' => ∃ a2 n2 c2, e = .returned (.tuple #[.slice a2 n2 c2, .int .i64 q]) ∧ R.length = n2 ∧ Src w' a2 (cellsP R) ∧ Below w.heap.size w w' := by
  have hn60 := hg.1
  rw [hL] at hn60
  have HLN : Hid (L.length = n ∧ Src w (some ⟨b, o, none⟩) (cellsP L)) := ⟨hL, h⟩
  have HBAD : Hid (∀ (W : World) (z : Int), Below w.heap.size w W → (L, z) = (R, q) → ∃ a2 n2 c2, Ending.returned (Value.tuple #[.slice (some ⟨b, o, none⟩) n c, .int .i64 z]) = Ending.returned (.tuple #[.slice a2 n2 c2, .int .i64 q]) ∧ R.length = n2 ∧ Src W a2 (cellsP R) ∧ Below w.heap.size w W) := fun W z hW he => by
    cases he
    exact ⟨_, _, _, rfl, HLN.out.1, HLN.out.2.below hW, hW⟩
  have CK := l07KnownS (some ⟨b, o, none⟩) n c L hL hg u f (by omega) (by omega) w h _ rfl
  have HR1 := HR.out
  unfold flR at HR1
  obtain ⟨k1, hk1⟩ : ∃ z, knownR L u f = z := ⟨_, rfl⟩
  rw [hk1] at CK HR1 hval
  by_cases e1 : k1 = 0
  case neg =>
    rw [if_pos e1] at HR1
    have HFH : Hid (∀ W, Below w.heap.size w W → ∃ a2 n2 c2, Ending.returned (Value.tuple #[.slice (some ⟨b, o, none⟩) n c, .int .i64 k1]) = Ending.returned (.tuple #[.slice a2 n2 c2, .int .i64 q]) ∧ R.length = n2 ∧ Src W a2 (cellsP R) ∧ Below w.heap.size w W) := fun W hW => HBAD.out W k1 hW HR1
    have hki : (k1 != 0) = true := by simpa using e1
    clear hL h hg HR HR1 hk1 HBAD hval
    go_enter Tryz.func70, Tryz.ntmps70
    go_wp2_with fail
    refine CK.mono ?_
    rintro e w1 ⟨rfl, hb1⟩
    have HG : Hid (∃ a2 n2 c2, Ending.returned (Value.tuple #[.slice (some ⟨b, o, none⟩) n c, .int .i64 k1]) = Ending.returned (.tuple #[.slice a2 n2 c2, .int .i64 q]) ∧ R.length = n2 ∧ Src w1 a2 (cellsP R) ∧ Below w.heap.size w w1) := HFH.out w1 hb1
    clear hb1 CK HFH
    go_wp2_with fail
    exact bodyPost_ret (v := .tuple #[.slice (some ⟨b, o, none⟩) n c, .int .i64 k1]) (by simp [results, Tryz.results70, go_sem]) rfl HG.out
  subst e1
  rw [if_neg (by decide)] at HR1
  unfold flT at HR1
  cases hrg : (decide (1 ≤ un) && decide (un ≤ 999)) with
  | false =>
    rw [if_pos hrg] at HR1
    have HFH : Hid (∀ W, Below w.heap.size w W → ∃ a2 n2 c2, Ending.returned (Value.tuple #[.slice (some ⟨b, o, none⟩) n c, .int .i64 5]) = Ending.returned (.tuple #[.slice a2 n2 c2, .int .i64 q]) ∧ R.length = n2 ∧ Src W a2 (cellsP R) ∧ Below w.heap.size w W) := fun W hW => HBAD.out W 5 hW HR1
    have CI := fun W => l01InS un 1 999 false W hrg
    clear hL h hg HR HR1 hk1 HBAD hval hrg
    go_enter Tryz.func70, Tryz.ntmps70
    go_wp2_with fail
    refine CK.mono ?_
    rintro e w1 ⟨rfl, hb1⟩
    have HG : Hid (∃ a2 n2 c2, Ending.returned (Value.tuple #[.slice (some ⟨b, o, none⟩) n c, .int .i64 5]) = Ending.returned (.tuple #[.slice a2 n2 c2, .int .i64 q]) ∧ R.length = n2 ∧ Src w1 a2 (cellsP R) ∧ Below w.heap.size w w1) := HFH.out w1 hb1
    clear hb1 CK HFH
    go_wp2_with fail
    refine (CI _).mono ?_
    rintro e w3 ⟨rfl, hw3⟩
    obtain rfl := hw3
    go_wp2_with fail
    exact bodyPost_ret (v := .tuple #[.slice (some ⟨b, o, none⟩) n c, .int .i64 5]) (by simp [results, Tryz.results70, go_sem]) rfl HG.out
  | true =>
    rw [if_neg (by rw [hrg]; decide)] at HR1
    have hr2 : 1 ≤ un ∧ un ≤ 999 := by
      rw [Bool.and_eq_true, decide_eq_true_eq, decide_eq_true_eq] at hrg
      exact hrg
    have CI := fun W => l01InS un 1 999 true W hrg
    obtain ⟨nn, rfl⟩ : ∃ nn : Nat, un = (nn : Int) := ⟨un.toNat, by omega⟩
    have CML := fun W => l07MailS u f nn (by omega) (by omega) (by omega) W
    have CG := fun W (hW : Below w.heap.size w W) => l01GetM (some ⟨b, o, none⟩) n c L (mailK u f (nn : Int)) W hL hg (h.below hW)
    have hval2 := fun v => hval rfl v hr2.1 hr2.2
    clear hrg hr2 hval
    cases hv : getM L (mailK u f (nn : Int)) with
    | none =>
      rw [hv] at HR1
      simp only [hv] at CG
      have HFH : Hid (∀ W, Below w.heap.size w W → ∃ a2 n2 c2, Ending.returned (Value.tuple #[.slice (some ⟨b, o, none⟩) n c, .int .i64 5]) = Ending.returned (.tuple #[.slice a2 n2 c2, .int .i64 q]) ∧ R.length = n2 ∧ Src W a2 (cellsP R) ∧ Below w.heap.size w W) := fun W hW => HBAD.out W 5 hW HR1
      obtain ⟨MK, hMK⟩ : ∃ x, mailK u f (nn : Int) = x := ⟨_, rfl⟩
      simp only [hMK] at CML CG
      clear hL h hg HR HR1 hk1 HBAD hval2 hv hMK
      go_enter Tryz.func70, Tryz.ntmps70
      go_wp2_with fail
      refine CK.mono ?_
      rintro e w1 ⟨rfl, hb1⟩
      have B2 : Hid (Below w.heap.size w w1) := hb1
      clear hb1 CK
      go_wp2_with fail
      refine (CI _).mono ?_
      rintro e w3 ⟨rfl, hw3⟩
      obtain rfl := hw3
      clear CI
      go_wp2_with fail
      refine (CML _).mono ?_
      rintro e w4 ⟨rfl, hb4⟩
      have B4 : Hid (Below w.heap.size w w4) := B2.out.trans (hb4.mono B2.out.size)
      have CG4 := CG w4 B4.out
      have HG : Hid (∃ a2 n2 c2, Ending.returned (Value.tuple #[.slice (some ⟨b, o, none⟩) n c, .int .i64 5]) = Ending.returned (.tuple #[.slice a2 n2 c2, .int .i64 q]) ∧ R.length = n2 ∧ Src w4 a2 (cellsP R) ∧ Below w.heap.size w w4) := HFH.out w4 B4.out
      clear hb4 CML CG HFH
      go_wp2_with fail
      refine CG4.mono ?_
      rintro e w5 ⟨rfl, hw5⟩
      obtain rfl := hw5
      clear CG4
      go_wp2_with fail
      exact bodyPost_ret (v := .tuple #[.slice (some ⟨b, o, none⟩) n c, .int .i64 5]) (by simp [results, Tryz.results70, go_sem]) rfl HG.out
    | some v =>
      rw [hv] at HR1
      simp only [hv] at CG
      obtain ⟨z1, z2⟩ := hval2 v hv
      have hts2 : (v.extract 1 v.size).size ≤ 85 := by
        rw [ByteArray.size_extract]
        omega
      have hcut : ∀ W : World, (Instr.slice 9 (.string v) (some (.int .i64 1)) none none).run Tryz.prog W = .ok (.string (v.extract 1 v.size)) W := fun W => by
        have := run_slice_string_l (P := Tryz.prog) (w := W) (t := 9) (s := v) Tryz.underlying9 .i64 1 (by omega) (by omega)
        exact this
      have CD := fun W => digitsI fl f0 (by omega) W
      have zd := itoa_small fl f0 (by omega)
      obtain ⟨tx, htx⟩ : ∃ x, v.extract 1 v.size = x := ⟨_, rfl⟩
      simp only [htx] at hcut hts2 HR1
      obtain ⟨TD, hTD⟩ : ∃ t, bs (itoa fl) = t := ⟨_, rfl⟩
      simp only [hTD] at CD zd HR1
      obtain ⟨MK, hMK⟩ : ∃ x, mailK u f (nn : Int) = x := ⟨_, rfl⟩
      simp only [hMK] at CML CG HR1
      have CP := fun W (hW : Below w.heap.size w W) => l01PutM b o n c L MK (TD ++ tx) W hL (by omega) hc hc9 hg.2.2 (h.below hW)
      obtain ⟨N2, hN2⟩ : ∃ t, insL MK (TD ++ tx) L = t := ⟨_, rfl⟩
      simp only [hN2] at CP
      rw [hN2] at HR1
      obtain ⟨rfl, rfl⟩ : N2 = R ∧ 0 = q := by cases HR1; exact ⟨rfl, rfl⟩
      clear hL h hg HR HR1 hk1 HBAD hval2 hv hMK htx hTD hN2
      go_enter Tryz.func70, Tryz.ntmps70
      go_wp2_with fail
      refine CK.mono ?_
      rintro e w1 ⟨rfl, hb1⟩
      have B2 : Hid (Below w.heap.size w w1) := hb1
      clear hb1 CK
      go_wp2_with fail
      refine (CI _).mono ?_
      rintro e w3 ⟨rfl, hw3⟩
      obtain rfl := hw3
      clear CI
      go_wp2_with fail
      refine (CML _).mono ?_
      rintro e w4 ⟨rfl, hb4⟩
      have B4 : Hid (Below w.heap.size w w4) := B2.out.trans (hb4.mono B2.out.size)
      have CG4 := CG w4 B4.out
      clear hb4 CML CG
      go_wp2_with fail
      refine CG4.mono ?_
      rintro e w5 ⟨rfl, hw5⟩
      obtain rfl := hw5
      clear CG4
      go_upto_region 10 with fail
      refine wp_region_noPanic ?_
      refine wp_region_held_drew (S := fun w' => True) (by kernel_rfl) trivial (fun hHeld => ?_)
      refine tkA (i := 0) (v := .slice (some ⟨b, o, none⟩) n c) ?_ hHeld ?_
      · intro w9 hSw
        go_simp
      simp only [Act.put, List.setIfInBounds_toArray, List.set_cons_zero, List.set_cons_succ]
      refine tkA (i := 1) (v := .string MK) ?_ hHeld ?_
      · intro w9 hSw
        go_simp
      simp only [Act.put, List.setIfInBounds_toArray, List.set_cons_zero, List.set_cons_succ]
      refine tkA (i := 2) (v := .int .i64 fl) ?_ hHeld ?_
      · intro w9 hSw
        go_simp
      simp only [Act.put, List.setIfInBounds_toArray, List.set_cons_zero, List.set_cons_succ]
      refine tkA (i := 4) (v := .string v) ?_ hHeld ?_
      · intro w9 hSw
        go_simp
      simp only [Act.put, List.setIfInBounds_toArray, List.set_cons_zero, List.set_cons_succ]
      refine tkA (i := 5) (v := .string tx) ?_ hHeld ?_
      · intro w9 hSw
        have h9 := hcut w9
        go_simp
      simp only [Act.put, List.setIfInBounds_toArray, List.set_cons_zero, List.set_cons_succ]
      refine wpAnyH_ready (rs := [3]) (by kernel_rfl) (by simp) ?_
      refine AllReadyH.cons rfl (fun K hK => ?_) AllReadyH.nil
      go_simp
      refine (CD _).mono ?_
      rintro e w6 ⟨rfl, hb6⟩
      dsimp only
      have B6 : Hid (Below w.heap.size w w6) := B4.out.drew.trans (Below.mono hb6 B4.out.size)
      have CP6 := CP w6 B6.out
      clear hb6
      refine hK _ _ trivial (fun hHeld => ?_)
      clear hK K
      refine tkA (i := 6) (v := .string (TD ++ tx)) ?_ hHeld ?_
      · intro w9 hSw
        go_simp
        omega
      simp only [Act.put, List.setIfInBounds_toArray, List.set_cons_zero, List.set_cons_succ]
      refine wpAnyH_ready (rs := [7]) (by kernel_rfl) (by simp) ?_
      refine AllReadyH.cons rfl (fun K hK => ?_) AllReadyH.nil
      go_simp
      refine CP6.mono ?_
      rintro e w7 ⟨g7, cap7, rfl, y1, y2, y3, hb7⟩
      dsimp only
      have HF : Hid (Src w7 (some ⟨g7, 0, none⟩) (cellsP N2) ∧ Below w.heap.size w w7) := ⟨y3, B6.out.trans (hb7.mono B6.out.size)⟩
      clear y1 y2 y3 hb7
      refine hK _ _ trivial (fun hHeld => ?_)
      clear hK K
      refine wpAnyH_ready (rs := [8]) (by kernel_rfl) (by simp) ?_
      refine AllReadyH.cons rfl (fun K hK => ?_) AllReadyH.nil
      go_simp
      refine hK _ _ trivial (fun hHeld => ?_)
      clear hK K
      refine wpAnyH_ready (rs := [9]) (by kernel_rfl) (by simp) ?_
      refine AllReadyH.cons rfl (fun K hK => ?_) AllReadyH.nil
      go_simp
      refine hK _ _ trivial (fun hHeld => ?_)
      clear hK K
      refine wpAnyH_done (by kernel_rfl) ?_ _
      refine NoPanic.normal ?_
      clear hHeld
      go_wp2_with fail
      exact bodyPost_ret (v := .tuple #[.slice (some ⟨g7, 0, none⟩) N2.length cap7, .int .i64 0]) (by simp [results, Tryz.results70, go_sem]) rfl ⟨_, _, _, rfl, rfl, HF.out⟩
end Go.Proofs.YthejpemiaenfpaaGreatDoor
namespace Go.Proofs.YthejpemiaenfpaaGreatDoor
open Go.ChangeShapes Go.WideShapes Go.ChangeAt Go.RowKit Go.Deep Go.Lib
set_option linter.unusedVariables false
set_option linter.unusedSimpArgs false
set_option maxRecDepth 100000

def sfR (L : List PM) (u f : ByteArray) (un fl : Int) : List PM × Int := if askM L [u, f] ≠ 0 then ([], askM L [u, f]) else if flagB fl = false then ([], 4) else flR L u f un fl
theorem fl_len {L : List PM} (hg : GoodL L) (u f : ByteArray) (un fl : Int) : (flR L u f un fl).1.length ≤ 4000 := by
  have h1 := hg.1
  unfold flR flT
  split
  · show L.length ≤ 4000; omega
  · split
    · show L.length ≤ 4000; omega
    · split
      · show L.length ≤ 4000; omega
      · rename_i v _
        have h2 := (ins_len (k := mailK u f un) (v := bs (itoa fl) ++ v.extract 1 v.size) hg.2.2).1
        show (insL _ _ L).length ≤ 4000
        omega
theorem sfR_small {L R : List PM} {u f : ByteArray} {un fl q : Int} (h : sfR L u f un fl = (R, q)) : R.length ≤ 1048576 := by
  unfold sfR at h
  split at h
  · cases h; simp
  · rename_i h0
    split at h
    · cases h; simp
    · have hk : askM L [u, f] = 0 := by
        by_cases e : askM L [u, f] = 0
        · exact e
        · exact absurd e h0
      have h9 := fl_len (store_facts (ask_zero2 hk).1).1 u f un fl
      rw [h] at h9
      have h8 : R.length ≤ 4000 := h9
      omega
theorem sf_bad {L : List PM} {u f : ByteArray} {un fl : Int} {R : List PM} {q : Int} (h : sfR L u f un fl = (R, q)) (h1 : askM L [u, f] = 2) : [] = R ∧ 2 = q := by
  unfold sfR at h
  rw [if_pos (by rw [h1]; decide), h1] at h
  cases h
  exact ⟨rfl, rfl⟩
set_option maxHeartbeats 4000000 in
theorem specSetFlags (a : Option Addr) (n c : Nat) (L : List PM) (x y : ByteArray) (un fl : Int) (w : World) (hL : L.length = n) (hn : n ≤ 1048576) (hc : n ≤ c) (hc9 : c ≤ maxLen) (hs : ∀ x ∈ L, x.1.size ≤ 1048576 ∧ x.2.size ≤ 1048576) (h : Src w a (cellsP L)) (hx : x.size ≤ 1048576) (hy : y.size ≤ 1048576) (R : List PM) (Q : Int) (HQ : Hid (sfR L x y un fl = (R, Q))) :
    Calls Tryz.prog 32 #[.slice a n c, .string x, .string y, .int .i64 un, .int .i64 fl] w fun e w' => ∃ v, e = .returned (.tuple #[v, .int .i64 Q]) ∧ w'.ownsRow w.heap.size 59 2 v R.length (cellsP R) ∧ Below w.heap.size w w' := by
  have HLN : Hid (L.length = n) := hL
  have HS : Hid (Src w a (cellsP L)) := h
  have AL : Hid (Below w.heap.size w (w.alloc (.cells #[.string x, .string y] 9))) := (Below.refl _ _).alloc (Nat.le_refl _) _
  obtain ⟨q, hq⟩ : ∃ q, askM L [x, y] = q := ⟨_, rfl⟩
  have HQQ : Hid (askM L [x, y] = q) := hq
  have CA := l07AskS a n c L (some ⟨w.heap.size, 0, none⟩) 2 2 [x, y] (w.alloc (.cells #[.string x, .string y] 9)) hL hn hs (HS.out.below AL.out) rfl (by omega) (fun s hs => by
    rcases List.mem_cons.1 hs with rfl | hs
    · exact hx
    · rw [List.mem_singleton.1 hs]; exact hy) (src_2S rfl) q hq
  have EM : Hid (∀ W, Below w.heap.size w W → (W.alloc (.cells #[] 59)).ownsRow w.heap.size 59 2 (.slice (some ⟨W.heap.size, 0, none⟩) 0 0) ([] : List PM).length (cellsP []) ∧ Below w.heap.size w (W.alloc (.cells #[] 59))) := fun W hW => ⟨own_empty rfl hW.size, hW.alloc hW.size _⟩
  have HE0 : Hid ((w.alloc (.cells #[] 59)).ownsRow w.heap.size 59 2 (.slice (some ⟨w.heap.size, 0, none⟩) 0 0) ([] : List PM).length (cellsP []) ∧ Below w.heap.size w (w.alloc (.cells #[] 59))) := EM.out w (Below.refl _ _)
  clear hL h hs hq
  by_cases h1 : 4096 < n
  · have h1i : (4096 : Int) < (n : Int) := by omega
    obtain ⟨rfl, rfl⟩ := sf_bad HQ.out (by unfold askM; rw [if_pos (.inl (by rw [HLN.out]; exact h1))])
    go_enter Tryz.func32, Tryz.ntmps32
    go_wp2_with fail
    exact bodyPost_ret (v := .tuple #[.slice (some ⟨w.heap.size, 0, none⟩) 0 0, .int .i64 2]) (by simp [results, Tryz.results32, go_sem]) rfl ⟨_, rfl, HE0.out⟩
  have h1i : ¬ (4096 : Int) < (n : Int) := by omega
  by_cases h2 : 65536 < x.size
  · have h2i : (65536 : Int) < (x.size : Int) := by omega
    obtain ⟨rfl, rfl⟩ := sf_bad HQ.out (by
      unfold askM
      rw [if_pos (.inr (by show (smallT x && _) = false; rw [show smallT x = false from decide_eq_false (by omega)]; rfl))])
    go_enter Tryz.func32, Tryz.ntmps32
    go_wp2_with fail
    exact bodyPost_ret (v := .tuple #[.slice (some ⟨w.heap.size, 0, none⟩) 0 0, .int .i64 2]) (by simp [results, Tryz.results32, go_sem]) rfl ⟨_, rfl, HE0.out⟩
  have h2i : ¬ (65536 : Int) < (x.size : Int) := by omega
  by_cases h3 : 65536 < y.size
  · have h3i : (65536 : Int) < (y.size : Int) := by omega
    obtain ⟨rfl, rfl⟩ := sf_bad HQ.out (by
      unfold askM
      rw [if_pos (.inr (by show (smallT x && (smallT y && true)) = false; rw [show smallT y = false from decide_eq_false (by omega)]; simp))])
    go_enter Tryz.func32, Tryz.ntmps32
    go_wp2_with fail
    exact bodyPost_ret (v := .tuple #[.slice (some ⟨w.heap.size, 0, none⟩) 0 0, .int .i64 2]) (by simp [results, Tryz.results32, go_sem]) rfl ⟨_, rfl, HE0.out⟩
  have h3i : ¬ (65536 : Int) < (y.size : Int) := by omega
  have HQ1 := HQ.out
  unfold sfR at HQ1
  rw [HQQ.out] at HQ1
  by_cases hq0 : q = 0
  · subst hq0
    rw [if_neg (by decide)] at HQ1
    obtain ⟨hst, hsx, hsy⟩ := ask_zero2 HQQ.out
    have hgl := (store_facts hst).1
    obtain ⟨b, o, rfl⟩ := store_src hst HS.out
    cases hfb : flagB fl with
    | false =>
      rw [if_pos hfb] at HQ1
      obtain ⟨rfl, rfl⟩ : [] = R ∧ 4 = Q := by cases HQ1; exact ⟨rfl, rfl⟩
      have CI := fun W => l01InS fl 0 3 false W hfb
      clear HQ1 HQ hst hsx hsy hgl hfb
      go_enter Tryz.func32, Tryz.ntmps32
      go_wp2_with fail
      refine CA.mono ?_
      rintro e w3 ⟨rfl, hb3⟩
      have B3 : Hid (Below w.heap.size w w3) := AL.out.trans (hb3.mono AL.out.size)
      have HE3 : Hid ((w3.alloc (.cells #[] 59)).ownsRow w.heap.size 59 2 (.slice (some ⟨w3.heap.size, 0, none⟩) 0 0) ([] : List PM).length (cellsP []) ∧ Below w.heap.size w (w3.alloc (.cells #[] 59))) := EM.out w3 B3.out
      clear hb3 CA
      go_wp2_with fail
      refine (CI _).mono ?_
      rintro e w4 ⟨rfl, hw4⟩
      obtain rfl := hw4
      go_wp2_with fail
      exact bodyPost_ret (v := .tuple #[.slice (some ⟨w4.heap.size, 0, none⟩) 0 0, .int .i64 4]) (by simp [results, Tryz.results32, go_sem]) rfl ⟨_, rfl, HE3.out⟩
    | true =>
      rw [if_neg (by rw [hfb]; decide)] at HQ1
      have hfr : 0 ≤ fl ∧ fl ≤ 3 := by
        have h9 := hfb
        unfold flagB at h9
        simpa using h9
      have CI := fun W => l01InS fl 0 3 true W hfb
      have CP := fun W (hW : Below w.heap.size w W) => l07FlagsS b o n c L HLN.out hc hc9 hgl x y un fl (short_size' hsx) (short_size' hsy) hfr.1 hfr.2 (fun hk v v1 v2 hv => by
        have hp := (getM_mem hgl.2.2).1 hv
        have hp2 : (mailK x y ((un.toNat : Nat) : Int), v) ∈ L := by rw [show ((un.toNat : Nat) : Int) = un by omega]; exact hp
        have hU : ∃ q ∈ L, q.1 = userK x := by
          unfold knownR at hk
          split at hk
          · cases hk
          · rename_i h9
            cases hv2 : getM L (userK x) with
            | none => rw [hv2] at h9; exact absurd rfl h9
            | some v => exact ⟨_, (getM_mem hgl.2.2).1 hv2, rfl⟩
        obtain ⟨m1, m2, _⟩ := mail_val hst (word_slash hsx) (word_slash hsy) hU (by omega) hp2
        exact ⟨m1, m2⟩) W (HS.out.below hW) R Q HQ1
      have hln : R.length ≤ 4000 := by
        have h9 := fl_len hgl x y un fl
        rw [HQ1] at h9
        exact h9
      clear HQ1 HQ hst hsx hsy hgl hfb
      go_enter Tryz.func32, Tryz.ntmps32
      go_wp2_with fail
      refine CA.mono ?_
      rintro e w3 ⟨rfl, hb3⟩
      have B3 : Hid (Below w.heap.size w w3) := AL.out.trans (hb3.mono AL.out.size)
      clear hb3 CA
      go_wp2_with fail
      refine (CI _).mono ?_
      rintro e w4 ⟨rfl, hw4⟩
      obtain rfl := hw4
      have CP4 := CP w4 B3.out
      clear CP CI
      go_wp2_with fail
      refine CP4.mono ?_
      rintro e w5 ⟨a5, n5, c5, rfl, k1, k2, hb5⟩
      have B5 : Hid (Below w.heap.size w w5) := B3.out.trans (hb5.mono B3.out.size)
      have CO := l07OwnS a5 n5 c5 R w5 k1 (by omega) k2
      have HN5 : Hid (R.length = n5) := k1
      clear hb5 CP4 k1 k2
      go_wp2_with fail
      refine CO.mono ?_
      rintro e w6 ⟨v6, rfl, ho6, hb6⟩
      obtain ⟨a6, c6, rfl, _, _⟩ := own_src ho6
      have HF : Hid (w6.ownsRow w.heap.size 59 2 (.slice a6 n5 c6) R.length (cellsP R) ∧ Below w.heap.size w w6) := ⟨by rw [HN5.out]; exact own_mono ho6 B5.out.size, B5.out.trans (hb6.mono B5.out.size)⟩
      clear ho6 hb6 CO
      go_wp2_with fail
      exact bodyPost_ret (v := .tuple #[.slice a6 n5 c6, .int .i64 Q]) (by simp [results, Tryz.results32, go_sem]) rfl ⟨_, rfl, HF.out⟩
  · rw [if_pos hq0] at HQ1
    obtain ⟨rfl, rfl⟩ : [] = R ∧ q = Q := by cases HQ1; exact ⟨rfl, rfl⟩
    have hqi : (q != 0) = true := by simpa using hq0
    clear HQ1 HQ
    go_enter Tryz.func32, Tryz.ntmps32
    go_wp2_with fail
    refine CA.mono ?_
    rintro e w3 ⟨rfl, hb3⟩
    have B3 : Hid (Below w.heap.size w w3) := AL.out.trans (hb3.mono AL.out.size)
    have HE3 : Hid ((w3.alloc (.cells #[] 59)).ownsRow w.heap.size 59 2 (.slice (some ⟨w3.heap.size, 0, none⟩) 0 0) ([] : List PM).length (cellsP []) ∧ Below w.heap.size w (w3.alloc (.cells #[] 59))) := EM.out w3 B3.out
    clear hb3 CA
    go_wp2_with fail
    exact bodyPost_ret (v := .tuple #[.slice (some ⟨w3.heap.size, 0, none⟩) 0 0, .int .i64 q]) (by simp [results, Tryz.results32, go_sem]) rfl ⟨_, rfl, HE3.out⟩
set_option maxHeartbeats 4000000 in
theorem implSetFlags (a : Option Addr) (n c : Nat) (L : List PM) (x y : ByteArray) (un fl : Int) (w : World) (hL : L.length = n) (hn : n ≤ 1048576) (hs : ∀ x ∈ L, x.1.size ≤ 1048576 ∧ x.2.size ≤ 1048576) (h : Src w a (cellsP L)) (hx : x.size ≤ 1048576) (hy : y.size ≤ 1048576) (hG : Gl w) (h8 : 8 ≤ w.heap.size) (R : List PM) (Q : Int) (HQ : Hid (sfR L x y un fl = (R, Q))) :
    Calls Tryz.prog 33 #[.slice a n c, .string x, .string y, .int .i64 un, .int .i64 fl] w fun e w' => ∃ v, e = .returned (.tuple #[v, .int .i64 Q]) ∧ w'.ownsRow w.heap.size 59 2 v R.length (cellsP R) ∧ Below w.heap.size w w' := by
  have HLN : Hid (L.length = n) := hL
  have HS : Hid (Src w a (cellsP L)) := h
  have HG : Hid (Gl w) := hG
  have AL : Hid (Below w.heap.size w (w.alloc (.cells #[.string x, .string y] 9))) := (Below.refl _ _).alloc (Nat.le_refl _) _
  obtain ⟨q, hq⟩ : ∃ q, askM L [x, y] = q := ⟨_, rfl⟩
  have HQQ : Hid (askM L [x, y] = q) := hq
  have CA := mailFaultI a n c L (some ⟨w.heap.size, 0, none⟩) 2 2 [x, y] (w.alloc (.cells #[.string x, .string y] 9)) hL hn hs (HS.out.below AL.out) rfl (by omega) (fun s hs => by
    rcases List.mem_cons.1 hs with rfl | hs
    · exact hx
    · rw [List.mem_singleton.1 hs]; exact hy) (src_2S rfl) (hG.below h8 AL.out) (by have := AL.out.size; omega) q hq
  have HQ1 := HQ.out
  unfold sfR at HQ1
  rw [HQQ.out] at HQ1
  clear hL h hs hq HQ hG
  by_cases hq0 : q = 0
  case neg =>
    rw [if_pos hq0] at HQ1
    obtain ⟨rfl, rfl⟩ : [] = R ∧ q = Q := by cases HQ1; exact ⟨rfl, rfl⟩
    have hqi : (q != 0) = true := by simpa using hq0
    clear HQ1
    go_enter Tryz.func33, Tryz.ntmps33
    go_wp2_with fail
    refine CA.mono ?_
    rintro e w3 ⟨rfl, hb3⟩
    have B3 : Hid (Below w.heap.size w w3) := AL.out.trans (hb3.mono AL.out.size)
    clear hb3 CA
    go_wp2_with fail
    exact bodyPost_ret (v := .tuple #[.slice none 0 0, .int .i64 q]) (by simp [results, Tryz.results33, go_sem]) rfl ⟨_, rfl, World.ownsRow_nil _ _ _ _, B3.out⟩
  subst hq0
  rw [if_neg (by decide)] at HQ1
  obtain ⟨hst, hsx, hsy⟩ := ask_zero2 HQQ.out
  have hus := word_slash hsx
  have hu8 := short_size hsx
  have hy8 := short_size hsy
  obtain ⟨hgl, nx0, hnm, n1, n2, _⟩ := store_facts hst
  rw [hnm] at n1 n2
  have hn60 := hgl.1
  rw [HLN.out] at hn60
  cases hfb : flagB fl with
  | false =>
    rw [if_pos hfb] at HQ1
    obtain ⟨rfl, rfl⟩ : [] = R ∧ 4 = Q := by cases HQ1; exact ⟨rfl, rfl⟩
    have CI := fun W => flagsIs false fl W hfb
    clear HQ1 hst hsx hsy hgl hnm n1 n2 hfb
    go_enter Tryz.func33, Tryz.ntmps33
    go_wp2_with fail
    refine CA.mono ?_
    rintro e w3 ⟨rfl, hb3⟩
    have B3 : Hid (Below w.heap.size w w3) := AL.out.trans (hb3.mono AL.out.size)
    clear hb3 CA
    go_wp2_with fail
    refine (CI _).mono ?_
    rintro e w4 ⟨rfl, hw4⟩
    obtain rfl := hw4
    go_wp2_with fail
    exact bodyPost_ret (v := .tuple #[.slice none 0 0, .int .i64 4]) (by simp [results, Tryz.results33, go_sem]) rfl ⟨_, rfl, World.ownsRow_nil _ _ _ _, B3.out⟩
  | true =>
    rw [if_neg (by rw [hfb]; decide)] at HQ1
    have hfr : 0 ≤ fl ∧ fl ≤ 3 := by
      have h9 := hfb
      unfold flagB at h9
      simpa using h9
    have CI := fun W => flagsIs true fl W hfb
    have CD := fun W (hW : Below w.heap.size w W) => deskWithI a n c L x W HLN.out (HS.out.below hW) (HG.out.below h8 hW) (by have := hW.size; omega) hst hus (by omega)
    have HFI : Hid (∀ S S' q, takeAll (nextM L) x S0 L = some S → SfIs S y un fl q S' → OpFits L x q (nextM L) S' (flR L x y un fl)) := fun S S' q k1 k2 => sf_fits hst hsx hsy hfr.1 hfr.2 k1 k2
    have HQ2 : Hid (flR L x y un fl = (R, Q)) := HQ1
    obtain ⟨nx, hnx⟩ : ∃ t, nextM L = t := ⟨_, rfl⟩
    simp only [hnx] at CD HFI n1 n2
    clear HQ1 hst hsx hsy hgl hnm hfb hnx
    go_enter Tryz.func33, Tryz.ntmps33
    go_wp2_with fail
    refine CA.mono ?_
    rintro e w3 ⟨rfl, hb3⟩
    have B3 : Hid (Below w.heap.size w w3) := AL.out.trans (hb3.mono AL.out.size)
    clear hb3 CA
    go_wp2_with fail
    refine (CI _).mono ?_
    rintro e w4' ⟨rfl, hw4⟩
    obtain rfl := hw4
    clear CI
    go_wp2_with fail
    refine (CD _ B3.out).mono ?_
    rintro e w4 ⟨M, S, rfl, hS, hSt, hM, hb4⟩
    have B4 : Hid (Below w.heap.size w w4) := B3.out.trans (hb4.mono B3.out.size)
    have hM2 : w.heap.size ≤ M := by have h9 := B3.out.size; omega
    have COP := setFlagsI w4 M a n c nx x S n hSt y (by omega) (by omega) un fl (by omega)
    have HTK : Hid (takeAll nx x S0 L = some S) := hS
    clear hb4 hS hSt CD hM
    go_wp2_with fail
    refine COP.mono ?_
    rintro e w5 ⟨q1, S1, rfl, hsf, hst5, hb5⟩
    have B5 : Hid (Below w.heap.size w w5) := B4.out.trans (hb5.mono hM2)
    have HST5 : Hid (StAt w5 M a n c nx x S1 n) := hst5
    have HOF : Hid (OpFits L x q1 nx S1 (flR L x y un fl)) := HFI.out S S1 q1 HTK.out hsf
    clear COP hb5 hst5 hsf
    by_cases hq1 : q1 = 0
    · subst hq1
      obtain ⟨k1, k2, k3, Y, k4, k5, k6, k7⟩ := HOF.out.2 rfl
      rw [HQ2.out] at k7
      have CE := doneOk w5 M a n c nx x S1 n HST5.out (by omega) k1 k2 k3 (by omega) (HG.out.below h8 B5.out) (by omega) Y k4 k5 _ rfl k6 L HLN.out hn60 (HS.out.below B5.out) R Q (by show _ = _; rw [k7]; rfl)
      clear k1 k2 k3 k4 k5 k6 k7 HOF
      go_wp2_with fail
      refine CE.mono ?_
      rintro e w6 ⟨v6, rfl, ho6, hb6⟩
      obtain ⟨a6, c6, rfl, _, _⟩ := own_src ho6
      have HF : Hid (w6.ownsRow w.heap.size 59 2 (.slice a6 R.length c6) R.length (cellsP R) ∧ Below w.heap.size w w6) := ⟨own_mono ho6 B5.out.size, B5.out.trans (hb6.mono B5.out.size)⟩
      clear CE ho6 hb6
      go_wp2_with fail
      exact bodyPost_ret (v := .tuple #[.slice a6 R.length c6, .int .i64 Q]) (by simp [results, Tryz.results33, go_sem]) rfl ⟨_, rfl, HF.out⟩
    · have k7 := HOF.out.1 hq1
      rw [HQ2.out] at k7
      obtain ⟨hk1, hk2⟩ : R = L ∧ Q = q1 := by cases k7; exact ⟨rfl, rfl⟩
      have e0c : w5.cell? ⟨M + 1, 0, none⟩ = some (.slice a n c) := by
        obtain ⟨_, _, hD, _⟩ := HST5.out
        exact (hD.1 0 _ rfl).1
      have CE := doneBad q1 hq1 w5 M a n c L HLN.out hn60 e0c (HS.out.below B5.out)
      have HK : Hid (R = L ∧ q1 = Q) := ⟨hk1, hk2.symm⟩
      clear k7 HOF hk1 hk2 e0c
      go_wp2_with fail
      refine CE.mono ?_
      rintro e w6 ⟨v6, rfl, ho6, hb6⟩
      obtain ⟨a6, c6, rfl, _, _⟩ := own_src ho6
      have HF : Hid (w6.ownsRow w.heap.size 59 2 (.slice a6 n c6) R.length (cellsP R) ∧ Below w.heap.size w w6) := ⟨by rw [HK.out.1, HLN.out]; exact own_mono ho6 B5.out.size, B5.out.trans (hb6.mono B5.out.size)⟩
      have HK2 : Hid (q1 = Q) := HK.out.2
      clear CE ho6 hb6
      go_wp2_with fail
      exact bodyPost_ret (v := .tuple #[.slice a6 n c6, .int .i64 q1]) (by simp [results, Tryz.results33, go_sem]) rfl ⟨_, by rw [HK2.out], HF.out⟩
theorem specSetFlagsL (a : Option Addr) (n c : Nat) (L : List PM) (x y : ByteArray) (un fl : Int) (w : World) (hL : L.length = n) (hn : n ≤ 1048576) (hs : ∀ x ∈ L, x.1.size ≤ 1048576 ∧ x.2.size ≤ 1048576) (hcc : n ≤ c ∧ c ≤ maxLen) (hx : x.size ≤ 1048576) (hy : y.size ≤ 1048576) (h : Src w a (cellsP L)) :
    Calls Tryz.prog 32 #[.slice a n c, .string x, .string y, .int .i64 un, .int .i64 fl] w fun e w' => ∃ v R q, e = .returned (.tuple #[v, .int .i64 q]) ∧ sfR L x y un fl = (R, q) ∧ w'.ownsRow w.heap.size 59 2 v R.length (cellsP R) ∧ Below w.heap.size w w' :=
  (specSetFlags a n c L x y un fl w hL hn hcc.1 hcc.2 hs h hx hy _ _ rfl).mono fun e w' ⟨v, h1, h2, h3⟩ => ⟨v, _, _, h1, rfl, h2, h3⟩
theorem implSetFlagsL (a : Option Addr) (n c : Nat) (L : List PM) (x y : ByteArray) (un fl : Int) (w : World) (hL : L.length = n) (hn : n ≤ 1048576) (hs : ∀ x ∈ L, x.1.size ≤ 1048576 ∧ x.2.size ≤ 1048576) (hx : x.size ≤ 1048576) (hy : y.size ≤ 1048576) (hG : Gl w) (h8 : 8 ≤ w.heap.size) (h : Src w a (cellsP L)) :
    Calls Tryz.prog 33 #[.slice a n c, .string x, .string y, .int .i64 un, .int .i64 fl] w fun e w' => ∃ v R q, e = .returned (.tuple #[v, .int .i64 q]) ∧ sfR L x y un fl = (R, q) ∧ w'.ownsRow w.heap.size 59 2 v R.length (cellsP R) ∧ Below w.heap.size w w' :=
  (implSetFlags a n c L x y un fl w hL hn hs h hx hy hG h8 _ _ rfl).mono fun e w' ⟨v, h1, h2, h3⟩ => ⟨v, _, _, h1, rfl, h2, h3⟩
end Go.Proofs.YthejpemiaenfpaaGreatDoor
