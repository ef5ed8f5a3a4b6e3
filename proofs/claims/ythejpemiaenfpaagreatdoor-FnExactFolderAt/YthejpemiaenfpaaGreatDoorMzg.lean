/-
  Mlk Sap Apm Apf Apl Plc Cpm Lof Fom Fol Fot in one. By an AI agent.
-/
import Derived.Test.YthejpemiaenfpaaGreatDoorMzc
namespace Go.Proofs.YthejpemiaenfpaaGreatDoor
open Go.ChangeShapes Go.WideShapes Go.ChangeAt Go.RowKit Go.Deep Go.Lib
set_option linter.unusedVariables false
set_option linter.unusedSimpArgs false
set_option maxRecDepth 100000

theorem conv3 (W : World) (b : Nat) (x y z : Nat) (hx : x < 10) (hy : y < 10) (hz : z < 10) (h : Box W b [.int .u8 (48 + (x : Int)), .int .u8 (48 + (y : Int)), .int .u8 (48 + (z : Int))]) : (convert 102 9 (.slice (some ⟨b, 0, none⟩) 3 3)).run Tryz.prog W = .ok (.string (bs [UInt8.ofNat (48 + x), UInt8.ofNat (48 + y), UInt8.ofNat (48 + z)])) W := by
  refine run_convert_bytes_back (P := Tryz.prog) W 102 9 5 ⟨b, 0, none⟩ 3 [UInt8.ofNat (48 + x), UInt8.ofNat (48 + y), UInt8.ofNat (48 + z)] Tryz.underlying102 Tryz.underlying5 Tryz.underlying9 (fun j hj => ?_)
  have hj2 : j < 3 := hj
  have hd : ∀ d : Nat, d < 10 → ((UInt8.ofNat (48 + d)).toNat : Int) = 48 + (d : Int) := fun d h9 => by
    have h1 : (UInt8.ofNat (48 + d)).toNat = 48 + d := by simp [UInt8.toNat_ofNat']; omega
    rw [h1]
    omega
  match j, hj2 with
  | 0, _ =>
    have h2 : W.cell? ((⟨b, 0, none⟩ : Addr).add 0) = W.cell? ⟨b, 0, none⟩ := rfl
    rw [h2, (h 0 _ rfl).1]
    show some (Value.int .u8 (48 + (x : Int))) = some (Value.int .u8 ((UInt8.ofNat (48 + x)).toNat : Int))
    rw [hd x hx]
  | 1, _ =>
    have h2 : W.cell? ((⟨b, 0, none⟩ : Addr).add 1) = W.cell? ⟨b, 1, none⟩ := rfl
    rw [h2, (h 1 _ rfl).1]
    show some (Value.int .u8 (48 + (y : Int))) = some (Value.int .u8 ((UInt8.ofNat (48 + y)).toNat : Int))
    rw [hd y hy]
  | 2, _ =>
    have h2 : W.cell? ((⟨b, 0, none⟩ : Addr).add 2) = W.cell? ⟨b, 2, none⟩ := rfl
    rw [h2, (h 2 _ rfl).1]
    show some (Value.int .u8 (48 + (z : Int))) = some (Value.int .u8 ((UInt8.ofNat (48 + z)).toNat : Int))
    rw [hd z hz]
set_option maxHeartbeats 4000000 in
theorem l07MailS (u f : ByteArray) (n : Nat) (hn : n < 1000) (hu : u.size ≤ 1000) (hf : f.size ≤ 1000) (w : World) : Calls Tryz.prog 100 #[.string u, .string f, .int .i64 (n : Int)] w fun e w' => e = .returned (.string (mailK u f (n : Int))) ∧ Below w.heap.size w w' := by
  obtain ⟨x, y, z, hx, hy, hz, he⟩ := split3 n hn
  have hd3 : d3 n = [UInt8.ofNat (48 + x), UInt8.ofNat (48 + y), UInt8.ofNat (48 + z)] := by
    rw [he]
    unfold d3
    rw [dec4 x y z hx hy hz]
    rfl
  have CM := fun W => l07MailsS u f W hu hf
  have hps := preK_size u f
  have hcb := fun W b => conv3 W b x y z hx hy hz
  obtain ⟨T, hT⟩ : ∃ T, bs [UInt8.ofNat (48 + x), UInt8.ofNat (48 + y), UInt8.ofNat (48 + z)] = T := ⟨_, rfl⟩
  simp only [hT] at hcb
  have hTs : T.size = 3 := by rw [← hT]; rfl
  have HD : Hid (preK u f ++ T = mailK u f (n : Int)) := by
    show _ = _
    apply bs_inj
    rw [ByteArray.data_append, Array.toList_append, preK_data, ← hT]
    show _ = 109 :: 47 :: (u.data.toList ++ 47 :: (f.data.toList ++ 47 :: d3 n))
    rw [hd3]
    simp [bs]
  obtain ⟨PK, hPK⟩ : ∃ t, preK u f = t := ⟨_, rfl⟩
  rw [hPK] at HD hps
  simp only [hPK] at CM
  obtain ⟨X, hX⟩ : ∃ t : Int, (x : Int) = t := ⟨_, rfl⟩
  obtain ⟨Y, hY⟩ : ∃ t : Int, (y : Int) = t := ⟨_, rfl⟩
  obtain ⟨Z, hZ⟩ : ∃ t : Int, (z : Int) = t := ⟨_, rfl⟩
  obtain ⟨N10, hN10⟩ : ∃ t : Int, (n : Int) / 10 = t := ⟨_, rfl⟩
  have q1 : (n : Int).tdiv 100 = X := by rw [Int.tdiv_eq_ediv_of_nonneg (by omega)]; omega
  have q2 : (n : Int).tdiv 10 = N10 := by rw [Int.tdiv_eq_ediv_of_nonneg (by omega)]; omega
  have q3 : N10.tmod 10 = Y := by rw [Int.tmod_eq_emod_of_nonneg (by omega)]; omega
  have q4 : (n : Int).tmod 10 = Z := by rw [Int.tmod_eq_emod_of_nonneg (by omega)]; omega
  have u1 := wrap8 x hx
  have u2 := wrap8 y hy
  have u3 := wrap8 z hz
  rw [hX] at u1
  rw [hY] at u2
  rw [hZ] at u3
  simp only [hX, hY, hZ] at hcb
  have v1 : IntKind.i64.wrap X = X := wrapI _ (by omega) (by omega)
  have v2 : IntKind.i64.wrap N10 = N10 := wrapI _ (by omega) (by omega)
  have v3 : IntKind.i64.wrap (48 + X) = 48 + X := wrapI _ (by omega) (by omega)
  have v4 : IntKind.i64.wrap (48 + Y) = 48 + Y := wrapI _ (by omega) (by omega)
  have v5 : IntKind.i64.wrap (48 + Z) = 48 + Z := wrapI _ (by omega) (by omega)
  obtain ⟨G, hG⟩ : ∃ t, mailK u f (n : Int) = t := ⟨_, rfl⟩
  rw [hG] at HD ⊢
  have hnc : ¬ 9223372036854775807 < u.size + f.size + 4 + 3 := by omega
  clear hd3 hT hPK hG he
  clear hX hY hZ hN10
  go_enter Tryz.func100, Tryz.ntmps100
  go_wp2_with fail
  refine wp_region_noPanic ?_
  refine wp_region_held_drew (S := fun w' => True) (by kernel_rfl) trivial (fun hHeld => ?_)
  refine tkA (i := 0) (v := .string u) ?_ hHeld ?_
  · intro w9 hSw
    go_simp
  simp only [Act.put, List.setIfInBounds_toArray, List.set_cons_zero, List.set_cons_succ]
  refine tkA (i := 1) (v := .string f) ?_ hHeld ?_
  · intro w9 hSw
    go_simp
  simp only [Act.put, List.setIfInBounds_toArray, List.set_cons_zero, List.set_cons_succ]
  refine tkA (i := 3) (v := .int .i64 (n : Int)) ?_ hHeld ?_
  · intro w9 hSw
    go_simp
  simp only [Act.put, List.setIfInBounds_toArray, List.set_cons_zero, List.set_cons_succ]
  refine tkA (i := 4) (v := .int .i64 X) ?_ hHeld ?_
  · intro w9 hSw
    go_simp
  simp only [Act.put, List.setIfInBounds_toArray, List.set_cons_zero, List.set_cons_succ]
  refine tkA (i := 5) (v := .int .i64 (48 + X)) ?_ hHeld ?_
  · intro w9 hSw
    go_simp
  simp only [Act.put, List.setIfInBounds_toArray, List.set_cons_zero, List.set_cons_succ]
  refine tkA (i := 6) (v := .int .u8 (48 + X)) ?_ hHeld ?_
  · intro w9 hSw
    go_simp
  simp only [Act.put, List.setIfInBounds_toArray, List.set_cons_zero, List.set_cons_succ]
  refine tkA (i := 7) (v := .int .i64 (n : Int)) ?_ hHeld ?_
  · intro w9 hSw
    go_simp
  simp only [Act.put, List.setIfInBounds_toArray, List.set_cons_zero, List.set_cons_succ]
  refine tkA (i := 8) (v := .int .i64 N10) ?_ hHeld ?_
  · intro w9 hSw
    go_simp
  simp only [Act.put, List.setIfInBounds_toArray, List.set_cons_zero, List.set_cons_succ]
  refine tkA (i := 9) (v := .int .i64 Y) ?_ hHeld ?_
  · intro w9 hSw
    go_simp
  simp only [Act.put, List.setIfInBounds_toArray, List.set_cons_zero, List.set_cons_succ]
  refine tkA (i := 10) (v := .int .i64 (48 + Y)) ?_ hHeld ?_
  · intro w9 hSw
    go_simp
  simp only [Act.put, List.setIfInBounds_toArray, List.set_cons_zero, List.set_cons_succ]
  refine tkA (i := 11) (v := .int .u8 (48 + Y)) ?_ hHeld ?_
  · intro w9 hSw
    go_simp
  simp only [Act.put, List.setIfInBounds_toArray, List.set_cons_zero, List.set_cons_succ]
  refine tkA (i := 12) (v := .int .i64 (n : Int)) ?_ hHeld ?_
  · intro w9 hSw
    go_simp
  simp only [Act.put, List.setIfInBounds_toArray, List.set_cons_zero, List.set_cons_succ]
  refine tkA (i := 13) (v := .int .i64 Z) ?_ hHeld ?_
  · intro w9 hSw
    go_simp
  simp only [Act.put, List.setIfInBounds_toArray, List.set_cons_zero, List.set_cons_succ]
  refine tkA (i := 14) (v := .int .i64 (48 + Z)) ?_ hHeld ?_
  · intro w9 hSw
    go_simp
  simp only [Act.put, List.setIfInBounds_toArray, List.set_cons_zero, List.set_cons_succ]
  refine tkA (i := 15) (v := .int .u8 (48 + Z)) ?_ hHeld ?_
  · intro w9 hSw
    go_simp
  simp only [Act.put, List.setIfInBounds_toArray, List.set_cons_zero, List.set_cons_succ]
  refine wpAnyH_ready (rs := [2, 16]) (by kernel_rfl) (by simp) ?_
  refine AllReadyH.cons rfl (fun K hK => ?_) (AllReadyH.cons rfl (fun K hK => ?_) AllReadyH.nil)
  · skip
    go_simp
    refine (CM _).mono ?_
    rintro e wk ⟨rfl, hwk⟩
    obtain rfl := hwk.symm
    dsimp only
    refine hK _ _ trivial (fun hHeld => ?_)
    clear hK K
    refine wpAnyH_ready (rs := [16]) (by kernel_rfl) (by simp) ?_
    refine AllReadyH.cons rfl (fun K hK => ?_) AllReadyH.nil
    go_simp
    have B1 : Hid (Below w.heap.size w ((w).alloc (.cells #[.int .u8 (48 + X), .int .u8 (48 + Y), .int .u8 (48 + Z)] 5))) := (Below.refl w.heap.size w).alloc (Nat.le_refl _) _
    have X1 : Hid (Box ((w).alloc (.cells #[.int .u8 (48 + X), .int .u8 (48 + Y), .int .u8 (48 + Z)] 5)).drew w.heap.size [.int .u8 (48 + X), .int .u8 (48 + Y), .int .u8 (48 + Z)]) := (Box.new (w := w) rfl).drew
    refine hK _ _ trivial (fun hHeld => ?_)
    clear hK K
    refine wpAnyH_ready (rs := [17]) (by kernel_rfl) (by simp) ?_
    refine AllReadyH.cons rfl (fun K hK => ?_) AllReadyH.nil
    have hc2 := hcb (((w).alloc (.cells #[.int .u8 (48 + X), .int .u8 (48 + Y), .int .u8 (48 + Z)] 5)).drew) (w.heap.size) (X1.out)
    go_simp
    refine hK _ _ trivial (fun hHeld => ?_)
    clear hK K
    refine wpAnyH_ready (rs := [18]) (by kernel_rfl) (by simp) ?_
    refine AllReadyH.cons rfl (fun K hK => ?_) AllReadyH.nil
    go_simp
    refine hK _ _ trivial (fun hHeld => ?_)
    clear hK K
    refine wpAnyH_ready (rs := [19]) (by kernel_rfl) (by simp) ?_
    refine AllReadyH.cons rfl (fun K hK => ?_) AllReadyH.nil
    go_simp
    refine hK _ _ trivial (fun hHeld => ?_)
    clear hK K
    refine wpAnyH_done (by kernel_rfl) ?_ _
    refine NoPanic.normal ?_
    clear hHeld
    go_wp2_with fail
    go_ret
    exact ⟨by rw [← HD.out]; rfl, B1.out.drew⟩
  · skip
    go_simp
    have B3 : Hid (Below w.heap.size w ((w).alloc (.cells #[.int .u8 (48 + X), .int .u8 (48 + Y), .int .u8 (48 + Z)] 5))) := (Below.refl w.heap.size w).alloc (Nat.le_refl _) _
    have X3 : Hid (Box ((w).alloc (.cells #[.int .u8 (48 + X), .int .u8 (48 + Y), .int .u8 (48 + Z)] 5)).drew w.heap.size [.int .u8 (48 + X), .int .u8 (48 + Y), .int .u8 (48 + Z)]) := (Box.new (w := w) rfl).drew
    refine hK _ _ trivial (fun hHeld => ?_)
    clear hK K
    refine wpAnyH_ready (rs := [2, 17]) (by kernel_rfl) (by simp) ?_
    refine AllReadyH.cons rfl (fun K hK => ?_) (AllReadyH.cons rfl (fun K hK => ?_) AllReadyH.nil)
    · skip
      go_simp
      refine (CM _).mono ?_
      rintro e wk ⟨rfl, hwk⟩
      obtain rfl := hwk.symm
      dsimp only
      refine hK _ _ trivial (fun hHeld => ?_)
      clear hK K
      refine wpAnyH_ready (rs := [17]) (by kernel_rfl) (by simp) ?_
      refine AllReadyH.cons rfl (fun K hK => ?_) AllReadyH.nil
      have hc4 := hcb (((w).alloc (.cells #[.int .u8 (48 + X), .int .u8 (48 + Y), .int .u8 (48 + Z)] 5)).drew) (w.heap.size) (X3.out)
      go_simp
      refine hK _ _ trivial (fun hHeld => ?_)
      clear hK K
      refine wpAnyH_ready (rs := [18]) (by kernel_rfl) (by simp) ?_
      refine AllReadyH.cons rfl (fun K hK => ?_) AllReadyH.nil
      go_simp
      refine hK _ _ trivial (fun hHeld => ?_)
      clear hK K
      refine wpAnyH_ready (rs := [19]) (by kernel_rfl) (by simp) ?_
      refine AllReadyH.cons rfl (fun K hK => ?_) AllReadyH.nil
      go_simp
      refine hK _ _ trivial (fun hHeld => ?_)
      clear hK K
      refine wpAnyH_done (by kernel_rfl) ?_ _
      refine NoPanic.normal ?_
      clear hHeld
      go_wp2_with fail
      go_ret
      exact ⟨by rw [← HD.out]; rfl, B3.out.drew⟩
    · skip
      have hc5 := hcb (((w).alloc (.cells #[.int .u8 (48 + X), .int .u8 (48 + Y), .int .u8 (48 + Z)] 5)).drew) (w.heap.size) (X3.out)
      go_simp
      refine hK _ _ trivial (fun hHeld => ?_)
      clear hK K
      refine wpAnyH_ready (rs := [2]) (by kernel_rfl) (by simp) ?_
      refine AllReadyH.cons rfl (fun K hK => ?_) AllReadyH.nil
      go_simp
      refine (CM _).mono ?_
      rintro e wk ⟨rfl, hwk⟩
      obtain rfl := hwk.symm
      dsimp only
      refine hK _ _ trivial (fun hHeld => ?_)
      clear hK K
      refine wpAnyH_ready (rs := [18]) (by kernel_rfl) (by simp) ?_
      refine AllReadyH.cons rfl (fun K hK => ?_) AllReadyH.nil
      go_simp
      refine hK _ _ trivial (fun hHeld => ?_)
      clear hK K
      refine wpAnyH_ready (rs := [19]) (by kernel_rfl) (by simp) ?_
      refine AllReadyH.cons rfl (fun K hK => ?_) AllReadyH.nil
      go_simp
      refine hK _ _ trivial (fun hHeld => ?_)
      clear hK K
      refine wpAnyH_done (by kernel_rfl) ?_ _
      refine NoPanic.normal ?_
      clear hHeld
      go_wp2_with fail
      go_ret
      exact ⟨by rw [← HD.out]; rfl, B3.out.drew⟩
end Go.Proofs.YthejpemiaenfpaaGreatDoor
namespace Go.Proofs.YthejpemiaenfpaaGreatDoor
open Go.ChangeShapes Go.WideShapes Go.ChangeAt Go.RowKit Go.Deep Go.Lib
set_option linter.unusedVariables false
set_option linter.unusedSimpArgs false
set_option maxRecDepth 100000

abbrev metaD (L : List PM) (u f : ByteArray) : Int × Int := (metaM L u f).getD (0, 0)
def appY (L : List PM) (u f t : ByteArray) (fl : Int) : List PM := insL (mailK u f (metaD L u f).2) (mailV ((metaD L u f).2, fl, t)) (insL (folderK u f) (metaT (metaD L u f).1 ((metaD L u f).2 + 1)) L)
def appR (L : List PM) (u f t : ByteArray) (fl : Int) : List PM × Int × Int :=
  if knownR L u f ≠ 0 then (L, 0, knownR L u f) else if countM L u = 6 then (L, 0, 12) else if (metaD L u f).2 = 999 then (L, 0, 6) else if 60 < (appY L u f t fl).length then (L, 0, 7) else (appY L u f t fl, (metaD L u f).2, 0)
theorem known_meta {L : List PM} {u f : ByteArray} (h : knownR L u f = 0) : ∃ p, metaM L u f = some p := by
  unfold knownR at h
  split at h
  · cases h
  · split at h
    · cases h
    · rename_i h2
      cases hm : metaM L u f with
      | none => rw [hm] at h2; exact absurd rfl h2
      | some p => exact ⟨p, rfl⟩
theorem app_len {L : List PM} (hg : GoodL L) (u f t : ByteArray) (fl : Int) : (appY L u f t fl).length ≤ 62 ∧ UpL (appY L u f t fl) := by
  have h1 := (ins_len (k := folderK u f) (v := metaT (metaD L u f).1 ((metaD L u f).2 + 1)) hg.2.2).1
  have h3 := ins_up (k := folderK u f) (v := metaT (metaD L u f).1 ((metaD L u f).2 + 1)) hg.2.2
  have h2 := (ins_len (k := mailK u f (metaD L u f).2) (v := mailV ((metaD L u f).2, fl, t)) h3).1
  have := hg.1
  unfold appY
  exact ⟨by omega, ins_up h3⟩
set_option maxHeartbeats 4000000 in
theorem l07AppendS (b o n c : Nat) (L : List PM) (hL : L.length = n) (hc : n ≤ c) (hc9 : c ≤ maxLen) (hg : GoodL L) (u f t : ByteArray) (fl : Int) (hus : u.size ≤ 8) (hfs : f.size ≤ 8) (hts : t.size ≤ 85) (f0 : 0 ≤ fl) (f1 : fl ≤ 3) (w : World) (h : Src w (some ⟨b, o, none⟩) (cellsP L)) (R : List PM) (q1 q2 : Int) (HR : Hid (appR L u f t fl = (R, q1, q2))) :
    Calls Tryz.prog 66 #[.slice (some ⟨b, o, none⟩) n c, .string u, .string f, .string t, .int .i64 fl] w fun e w' => ∃ a2 n2 c2, e = .returned (.tuple #[.slice a2 n2 c2, .int .i64 q1, .int .i64 q2]) ∧ R.length = n2 ∧ Src w' a2 (cellsP R) ∧ Below w.heap.size w w' := by
  have hn60 := hg.1
  rw [hL] at hn60
  have HLN : Hid (L.length = n ∧ Src w (some ⟨b, o, none⟩) (cellsP L)) := ⟨hL, h⟩
  have CK := l07KnownS (some ⟨b, o, none⟩) n c L hL hg u f (by omega) (by omega) w h _ rfl
  have HR1 := HR.out
  unfold appR at HR1
  by_cases hk : knownR L u f ≠ 0
  · rw [if_pos hk] at HR1
    obtain ⟨kk, hkk⟩ : ∃ t, knownR L u f = t := ⟨_, rfl⟩
    rw [hkk] at CK HR1 hk
    obtain ⟨rfl, rfl, rfl⟩ : L = R ∧ 0 = q1 ∧ kk = q2 := by cases HR1; exact ⟨rfl, rfl, rfl⟩
    have hki : (kk != 0) = true := by simpa using hk
    clear hL h hg HR HR1 hkk
    go_enter Tryz.func66, Tryz.ntmps66
    go_wp2_with fail
    refine CK.mono ?_
    rintro e w1 ⟨rfl, hb1⟩
    have B1 : Hid (Below w.heap.size w w1) := hb1
    clear hb1 CK
    go_wp2_with fail
    exact bodyPost_ret (v := .tuple #[.slice (some ⟨b, o, none⟩) n c, .int .i64 0, .int .i64 kk]) (by simp [results, Tryz.results66, go_sem]) rfl ⟨_, _, _, rfl, HLN.out.1, HLN.out.2.below B1.out, B1.out⟩
  have hk0 : knownR L u f = 0 := by
    by_cases e : knownR L u f = 0
    · exact e
    · exact absurd e hk
  rw [if_neg hk] at HR1
  obtain ⟨p, hp⟩ := known_meta hk0
  obtain ⟨p1, p2, p3, p4⟩ := meta_range hp
  have hpd : metaD L u f = p := by unfold metaD; rw [hp]; rfl
  rw [hk0] at CK
  have CM := fun W (hW : Below w.heap.size w W) => l07MetaS (some ⟨b, o, none⟩) n c L u f W hL hg (by omega) (by omega) (h.below hW)
  rw [hp] at CM
  have CC := fun W (hW : Below w.heap.size w W) => l07CountS (some ⟨b, o, none⟩) n c L u W hL hg (by omega) (h.below hW)
  have hyl := (app_len hg u f t fl).1
  unfold appY at HR1 hyl
  rw [hpd] at HR1 hyl
  obtain ⟨va, nx⟩ := p
  dsimp only at HR1 p1 p2 p3 p4 hyl
  obtain ⟨nn, rfl⟩ : ∃ nn : Nat, nx = (nn : Int) := ⟨nx.toNat, by omega⟩
  have CP := fun W (hW : Below w.heap.size w W) => l07PutS b o n c L u f va ((nn : Int) + 1) W hL (by omega) hc hc9 hg.2.2 (h.below hW) (by omega) (by omega) (by omega) (by omega) (by omega) (by omega) _ _ rfl rfl
  have hu1 := ins_up (k := folderK u f) (v := metaT va ((nn : Int) + 1)) hg.2.2
  have hl1 := (ins_len (k := folderK u f) (v := metaT va ((nn : Int) + 1)) hg.2.2).1
  rw [hL] at hl1
  obtain ⟨N1, hN1⟩ : ∃ t, insL (folderK u f) (metaT va ((nn : Int) + 1)) L = t := ⟨_, rfl⟩
  simp only [hN1] at CP hu1 hl1 hyl
  rw [hN1] at HR1
  obtain ⟨n1, hn1⟩ : ∃ t, N1.length = t := ⟨_, rfl⟩
  simp only [hn1] at CP hl1
  have CK2 := fun W => l07MailS u f nn (by omega) (by omega) (by omega) W
  have CD := fun W => digitsI fl f0 (by omega) W
  have zd := itoa_small fl f0 (by omega)
  have HMV : Hid (bs (itoa fl) ++ t = mailV ((nn : Int), fl, t)) := rfl
  obtain ⟨TD, hTD⟩ : ∃ t, bs (itoa fl) = t := ⟨_, rfl⟩
  simp only [hTD] at CD zd HMV
  obtain ⟨MV, hMV⟩ : ∃ x, mailV ((nn : Int), fl, t) = x := ⟨_, rfl⟩
  rw [hMV] at HMV HR1 hyl
  obtain ⟨MK, hMK⟩ : ∃ x, mailK u f (nn : Int) = x := ⟨_, rfl⟩
  rw [hMK] at HR1 hyl
  simp only [hMK] at CK2
  have CQ := fun (g cap : Nat) (W : World) (k1 : n1 ≤ cap) (k2 : cap ≤ maxLen) (k3 : Src W (some ⟨g, 0, none⟩) (cellsP N1)) => l01PutM g 0 n1 cap N1 MK MV W hn1 (by omega) k1 k2 hu1 k3
  obtain ⟨N2, hN2⟩ : ∃ t, insL MK MV N1 = t := ⟨_, rfl⟩
  simp only [hN2] at CQ
  rw [hN2] at HR1 hyl
  obtain ⟨n2, hn2⟩ : ∃ t, N2.length = t := ⟨_, rfl⟩
  simp only [hn2] at CQ
  rw [hn2] at HR1 hyl
  have HN2 : Hid (N2.length = n2) := hn2
  obtain ⟨cn, hcn⟩ : ∃ t, countM L u = t := ⟨_, rfl⟩
  simp only [hcn] at CC
  rw [hcn] at HR1
  have HRX : Hid ((if cn = 6 then (L, 0, 12) else if (nn : Int) = 999 then (L, 0, 6) else if 60 < n2 then (L, 0, 7) else (N2, (nn : Int), 0)) = (R, q1, q2)) := HR1
  have HBAD : Hid (∀ (W : World) (z1 z2 : Int), Below w.heap.size w W → (L, z1, z2) = (R, q1, q2) → ∃ a2 n2 c2, Ending.returned (Value.tuple #[.slice (some ⟨b, o, none⟩) n c, .int .i64 z1, .int .i64 z2]) = Ending.returned (.tuple #[.slice a2 n2 c2, .int .i64 q1, .int .i64 q2]) ∧ R.length = n2 ∧ Src W a2 (cellsP R) ∧ Below w.heap.size w W) := fun W z1 z2 hW he => by
    cases he
    exact ⟨_, _, _, rfl, HLN.out.1, HLN.out.2.below hW, hW⟩
  clear hL h hg HR HR1 hk hk0 hp hpd hN1 hn1 hTD hMV hMK hN2 hn2 hcn hu1
  go_enter Tryz.func66, Tryz.ntmps66
  go_wp2_with fail
  refine CK.mono ?_
  rintro e w1 ⟨rfl, hb1⟩
  have B1 : Hid (Below w.heap.size w w1) := hb1
  have CM1 := CM w1 hb1
  clear hb1 CK CM
  go_wp2_with fail
  refine CM1.mono ?_
  rintro e w2 ⟨x, y, rfl, hpost, hb2⟩
  obtain ⟨hx1, hy1⟩ := hpost _ rfl
  dsimp only at hx1 hy1
  subst hx1 hy1
  have B2 : Hid (Below w.heap.size w w2) := B1.out.trans (hb2.mono B1.out.size)
  have CC2 := CC w2 B2.out
  clear hb2 CM1 CC hpost
  go_wp2_with fail
  refine CC2.mono ?_
  rintro e w3 ⟨rfl, hb3⟩
  have B3 : Hid (Below w.heap.size w w3) := B2.out.trans (hb3.mono B2.out.size)
  clear hb3 CC2
  by_cases h6 : cn = 6
  · have h6i : ((cn : Int) == 6) = true := by rw [h6]; rfl
    have hf := HBAD.out w3 0 12 B3.out (by have h9 := HRX.out; rw [if_pos h6] at h9; exact h9)
    have HF : Hid (∃ a2 n2 c2, Ending.returned (Value.tuple #[.slice (some ⟨b, o, none⟩) n c, .int .i64 0, .int .i64 12]) = Ending.returned (.tuple #[.slice a2 n2 c2, .int .i64 q1, .int .i64 q2]) ∧ R.length = n2 ∧ Src w3 a2 (cellsP R) ∧ Below w.heap.size w w3) := hf
    clear hf HBAD CP CQ CD CK2
    go_wp2_with fail
    exact bodyPost_ret (v := .tuple #[.slice (some ⟨b, o, none⟩) n c, .int .i64 0, .int .i64 12]) (by simp [results, Tryz.results66, go_sem]) rfl HF.out
  have h6i : ((cn : Int) == 6) = false := beq_eq_false_iff_ne.2 (by omega)
  by_cases h9 : (nn : Int) = 999
  · have h9i : ((nn : Int) == 999) = true := by rw [h9]; rfl
    have hf := HBAD.out w3 0 6 B3.out (by have h8 := HRX.out; rw [if_neg h6, if_pos h9] at h8; exact h8)
    have HF : Hid (∃ a2 n2 c2, Ending.returned (Value.tuple #[.slice (some ⟨b, o, none⟩) n c, .int .i64 0, .int .i64 6]) = Ending.returned (.tuple #[.slice a2 n2 c2, .int .i64 q1, .int .i64 q2]) ∧ R.length = n2 ∧ Src w3 a2 (cellsP R) ∧ Below w.heap.size w w3) := hf
    clear hf HBAD CP CQ CD CK2
    go_wp2_with fail
    exact bodyPost_ret (v := .tuple #[.slice (some ⟨b, o, none⟩) n c, .int .i64 0, .int .i64 6]) (by simp [results, Tryz.results66, go_sem]) rfl HF.out
  have h9i : ((nn : Int) == 999) = false := beq_eq_false_iff_ne.2 h9
  have CP3 := CP w3 B3.out
  clear CP
  go_wp2_with fail
  refine CP3.mono ?_
  rintro e w4 ⟨g, cap, rfl, k1, k2, k3, hb4⟩
  have B4 : Hid (Below w.heap.size w w4) := B3.out.trans (hb4.mono B3.out.size)
  have HK4 : Hid (n1 ≤ cap ∧ cap ≤ maxLen ∧ Src w4 (some ⟨g, 0, none⟩) (cellsP N1)) := ⟨k1, k2, k3⟩
  clear hb4 CP3 k1 k2 k3
  go_wp2_with fail
  refine (CK2 _).mono ?_
  rintro e w5 ⟨rfl, hb5⟩
  have B5 : Hid (Below w.heap.size w w5) := B4.out.trans (hb5.mono B4.out.size)
  have HK5 : Hid (n1 ≤ cap ∧ cap ≤ maxLen ∧ Src w5 (some ⟨g, 0, none⟩) (cellsP N1)) := ⟨HK4.out.1, HK4.out.2.1, HK4.out.2.2.below hb5⟩
  clear hb5 CK2 HK4
  go_wp2_with fail
  refine (CD _).mono ?_
  rintro e w6 ⟨rfl, hb6⟩
  have B6 : Hid (Below w.heap.size w w6) := B5.out.trans (hb6.mono B5.out.size)
  have CQ6 := CQ g cap w6 HK5.out.1 HK5.out.2.1 (HK5.out.2.2.below hb6)
  clear hb6 CD HK5 CQ
  have hmv := HMV.out
  go_wp2_with fail
  try rw [hmv]
  refine CQ6.mono ?_
  rintro e w7 ⟨g7, cap7, rfl, k1, k2, k3, hb7⟩
  have B7 : Hid (Below w.heap.size w w7) := B6.out.trans (hb7.mono B6.out.size)
  have H7 : Hid (Src w7 (some ⟨g7, 0, none⟩) (cellsP N2)) := k3
  clear hb7 CQ6 k1 k2 k3
  by_cases h60 : 60 < n2
  · have CF := l07FitsS (some ⟨b, o, none⟩) n c (some ⟨g7, 0, none⟩) n2 cap7 w7 (some ⟨b, o, none⟩) n c 7 (by show ite _ _ _; rw [if_pos h60])
    have hf := HBAD.out w7 0 7 B7.out (by have h8 := HRX.out; rw [if_neg h6, if_neg h9, if_pos h60] at h8; exact h8)
    have HF : Hid (∃ a2 n2 c2, Ending.returned (Value.tuple #[.slice (some ⟨b, o, none⟩) n c, .int .i64 0, .int .i64 7]) = Ending.returned (.tuple #[.slice a2 n2 c2, .int .i64 q1, .int .i64 q2]) ∧ R.length = n2 ∧ Src w7 a2 (cellsP R) ∧ Below w.heap.size w w7) := hf
    clear hf HBAD
    go_wp2_with fail
    refine CF.mono ?_
    rintro e w8 ⟨rfl, hw8⟩
    obtain rfl := hw8
    clear CF
    go_wp2_with fail
    exact bodyPost_ret (v := .tuple #[.slice (some ⟨b, o, none⟩) n c, .int .i64 0, .int .i64 7]) (by simp [results, Tryz.results66, go_sem]) rfl HF.out
  · have CF := l07FitsS (some ⟨b, o, none⟩) n c (some ⟨g7, 0, none⟩) n2 cap7 w7 (some ⟨g7, 0, none⟩) n2 cap7 0 (by show ite _ _ _; rw [if_neg h60])
    obtain ⟨rfl, rfl, rfl⟩ : N2 = R ∧ (nn : Int) = q1 ∧ 0 = q2 := by
      have h8 := HRX.out
      rw [if_neg h6, if_neg h9, if_neg h60] at h8
      cases h8
      exact ⟨rfl, rfl, rfl⟩
    clear HBAD
    go_wp2_with fail
    refine CF.mono ?_
    rintro e w8 ⟨rfl, hw8⟩
    obtain rfl := hw8
    clear CF
    go_wp2_with fail
    exact bodyPost_ret (v := .tuple #[.slice (some ⟨g7, 0, none⟩) n2 cap7, .int .i64 (nn : Int), .int .i64 0]) (by simp [results, Tryz.results66, go_sem]) rfl ⟨_, _, _, rfl, HN2.out, H7.out, B7.out⟩
end Go.Proofs.YthejpemiaenfpaaGreatDoor
namespace Go.Proofs.YthejpemiaenfpaaGreatDoor
open Go.ChangeShapes Go.WideShapes Go.ChangeAt Go.RowKit Go.Deep Go.Lib
set_option linter.unusedVariables false
set_option linter.unusedSimpArgs false
set_option maxRecDepth 100000

theorem wpList_append_srcL {P : Program} (w : World) {ops : Array Oper} {rest : List Oper} {o : Oper} {a : Act} {Q : Exit → Act → World → Prop} (hgd : o.guard = none) (s x : Operand) (t : TypeId)
    (ho : o.op = .call { callee := .builtin .append, args := #[s, x], argTypes := #[t, t] })
    (base : Nat) (e : TypeId) (z : Value) (size bytes : Nat) (ht : P.underlying t = some (.slice e)) (hinfo : (P.info? e).map (fun i => (i.zero, i.size, i.bytes)) = some (some z, size, bytes))
    (hzs : z.cells.size = size) (hsz : 0 < size) (hby : bytes ≤ 64) (v : Value) (n : Nat) (xs : List Value) (hs : a.eval s = v) (hown : w.ownsRow base e size v n xs)
    (ad : Addr) (m c : Nat) (news : List Value) (hx : a.eval x = .slice (some ad) m c) (hl : news.length = m * size) (hsrc : Src w (some ad) news) (h1 : ∀ u ∈ news, u.oneCell' = true) (hn : n + m ≤ 4194304) (hm : 0 < m) (hbase : base ≤ w.heap.size)
    (h : ∀ v' w', w'.ownsRow base e size v' (n + m) (xs ++ news) → w.grownBy w' v.ownBlock → (v'.ownBlock = v.ownBlock ∨ ∀ g, v'.ownBlock = some g → w.heap.size ≤ g) → wpList P ops Q rest (a.put o.dst v') w') : wpList P ops Q (o :: rest) a w :=
  wpList_plain hgd fun _ hK => by
    obtain ⟨v', w', hr, h2, h3, h4⟩ := run_append_src' (P := P) w base t o.type e z size bytes ht hinfo hzs hsz hby v n xs hown ad m c news hl hsrc h1 hn hm hbase
    unfold Oper.wp execOp
    simp only [ho, resolve, invoke, builtin, Sem.run_bind, Sem.run_pure, Result.andThen_ok, List.map_toArray, List.map_cons, List.map_nil, hs, hx, hr]
    exact hK _ _ (h v' w' h2 h3 h4)
abbrev moreF (g : FM) (fl : Int) (t : ByteArray) : FM := ⟨g.name, g.val, g.next + 1, g.mails ++ [(g.next, fl, t)]⟩
def apM (S : SM) (g : FM) (fl : Int) (t : ByteArray) : Int × SM := if 6 ≤ sumF S.fs then (12, S) else if g.next = 999 then (6, S) else (0, ⟨S.aside, S.word, putF (moreF g fl t) S.fs⟩)
set_option maxHeartbeats 4000000 in
theorem appendMailI (w : World) (M : Nat) (a : Option Addr) (n c : Nat) (nx : Int) (u : ByteArray) (S : SM) (k : Nat) (hS : StAt w M a n c nx u S k) (f : ByteArray) (g : FM) (hl : lookF f S.fs = some g) (hfz : f.size ≤ 1000) (hu : u.size ≤ 1000) (x0 fl : Int) (t : ByteArray) (hsum : sumF S.fs ≤ 60) (hk : k ≤ 1000) (q : Int) (S' : SM) (HQ : Hid (apM S g fl t = (q, S'))) :
    Calls Tryz.prog 105 #[.pointer (some ⟨M + 1, 0, none⟩), .string f, .agg #[.int .i64 x0, .int .i64 fl, .string t]] w fun e w' => e = .returned (.int .i64 q) ∧ StAt w' M a n c nx u S' (k + 1) ∧ Below M w w' := by
  obtain ⟨va, X, hD, hV, hN, hf, hkk⟩ := hS
  have hM1 : M + 1 < w.heap.size := World.block_lt_of_cell? _ _ (hD.1 0 _ rfl).1
  obtain ⟨w0, hw0⟩ : ∃ W, w.alloc (.cells #[.int .i64 x0, .int .i64 fl, .string t] 78) = W := ⟨_, rfl⟩
  have A0 : Below w.heap.size w w0 := by rw [← hw0]; exact (Below.refl _ _).alloc (Nat.le_refl _) _
  have X0 : Hid (Box w0 w.heap.size [.int .i64 x0, .int .i64 fl, .string t]) := by show Box _ _ _; rw [← hw0]; exact Box.new rfl
  have HA0 : Hid (Below w.heap.size w w0) := A0
  have D0 : Hid (DeskAt w0 M ⟨a, n, c, va, S.aside, nx, u, S.word, X⟩) := hD.later A0
  have CM := mailsI w0 M _ D0.out (sumF S.fs) (sum_view hV) (by omega)
  obtain ⟨x, hx, hxg⟩ : ∃ x, lookX (folderK u f) X = some x ∧ fmX x = g := by
    have h9 := hV.look f
    rw [hl] at h9
    obtain ⟨x, h1, h2⟩ := Option.map_eq_some_iff.1 h9
    exact ⟨x, h1, h2⟩
  obtain ⟨ax, cx, hxv, _, _⟩ := own_src (hD.2.2.2.1 x (look_mem hx))
  have HX : Hid (lookX (folderK u f) X = some x ∧ fmX x = g ∧ x.v = .slice ax x.mails.length cx) := ⟨hx, hxg, hxv⟩
  have CT := fun W (hW : DeskAt W M ⟨a, n, c, va, S.aside, nx, u, S.word, X⟩) => atI f W M _ (by omega) (by show u.size ≤ 1048576; omega) hW
  have hat : atX (lookX (folderK u f) X) = .agg #[.string x.name, .int .i64 x.val, .int .i64 x.next, .slice ax x.mails.length cx] := by
    rw [hx]
    show valX x = _
    unfold valX
    rw [hxv]
  simp only [hat] at CT
  have hgn : x.name = g.name ∧ x.val = g.val ∧ x.next = g.next ∧ x.mails = g.mails := by rw [← hxg]; exact ⟨rfl, rfl, rfl, rfl⟩
  obtain ⟨ml, hml⟩ : ∃ z, g.mails.length = z := ⟨_, rfl⟩
  rw [hgn.1, hgn.2.1, hgn.2.2.1, hgn.2.2.2, hml] at CT
  obtain ⟨gn, gv, gx, gm⟩ := g
  dsimp only at CT hml hgn
  have hq9 := HQ.out
  unfold apM at hq9
  obtain ⟨sm, hsm⟩ : ∃ z, sumF S.fs = z := ⟨_, rfl⟩
  rw [hsm] at CM hq9 hsum
  have HREST : Hid ((S.fs.map (·.name)).Nodup ∧ (∀ f ∈ S.fs, 1 ≤ f.next ∧ f.next ≤ 999 ∧ f.mails.length ≤ k) ∧ S.aside.length ≤ k ∧ View u X S.fs) := ⟨hN, hf, hkk, hV⟩
  have hgok := hf _ (lookF_mem hl).1
  dsimp only at hgok hq9
  rw [hml] at hgok
  have HD : Hid (DeskAt w M ⟨a, n, c, va, S.aside, nx, u, S.word, X⟩) := hD
  have HO : Hid (w.ownsRow (M + 2) 78 3 (.slice ax ml cx) ml (cellsMl gm)) := by
    have h9 := hD.2.2.2.1 x (look_mem hx)
    rw [hxv, hgn.2.2.2, hml] at h9
    exact h9
  have hnf2 : f = gn := (lookF_mem hl).2.symm
  subst hnf2
  clear hD hV hN hf hkk hat hx hxg hxv hsm
  by_cases h6 : 6 ≤ sm
  · have h6i : (6 : Int) ≤ (sm : Int) := by omega
    rw [if_pos h6] at hq9
    obtain ⟨rfl, rfl⟩ : 12 = q ∧ S = S' := by cases hq9; exact ⟨rfl, rfl⟩
    clear CT hq9 HQ HX
    go_enter Tryz.func105, Tryz.ntmps105
    go_wp2_with fail
    refine CM.mono ?_
    rintro e w1 ⟨rfl, hb1⟩
    have HF : Hid (StAt w1 M a n c nx u S (k + 1) ∧ Below M w w1) := ⟨⟨va, X, D0.out.later hb1, HREST.out.2.2.2, HREST.out.1, fun z hz => by have h9 := HREST.out.2.1 z hz; omega, by have h9 := HREST.out.2.2.1; omega⟩, (HA0.out.trans (hb1.mono HA0.out.size)).mono (by omega)⟩
    clear CM hb1
    go_wp2_with fail
    go_ret
    exact ⟨rfl, HF.out.1, HF.out.2⟩
  have h6i : ¬ (6 : Int) ≤ (sm : Int) := by omega
  rw [if_neg h6] at hq9
  by_cases h9 : gx = 999
  · rw [if_pos h9] at hq9
    subst h9
    obtain ⟨rfl, rfl⟩ : 6 = q ∧ S = S' := by cases hq9; exact ⟨rfl, rfl⟩
    clear hq9 HQ HX
    go_enter Tryz.func105, Tryz.ntmps105
    go_wp2_with fail
    refine CM.mono ?_
    rintro e w1 ⟨rfl, hb1⟩
    have B1 : Hid (Below w.heap.size w w1) := HA0.out.trans (hb1.mono HA0.out.size)
    have D1 : Hid (DeskAt w1 M ⟨a, n, c, va, S.aside, nx, u, S.word, X⟩) := D0.out.later hb1
    have CT1 := CT w1 D1.out
    clear hb1 CM CT
    go_wp2_with fail
    refine CT1.mono ?_
    rintro e w2 ⟨rfl, hb2⟩
    have AL2 := (Below.refl w2.heap.size w2).alloc (Nat.le_refl _) (.cells #[.string f, .int .i64 gv, .int .i64 999, .slice ax ml cx] 26)
    have B2 : Below w.heap.size w w2 := B1.out.trans (hb2.mono B1.out.size)
    have HF : Hid (StAt (w2.alloc (.cells #[.string f, .int .i64 gv, .int .i64 999, .slice ax ml cx] 26)) M a n c nx u S (k + 1) ∧ Below M w (w2.alloc (.cells #[.string f, .int .i64 gv, .int .i64 999, .slice ax ml cx] 26))) := ⟨⟨va, X, (D1.out.later hb2).later AL2, HREST.out.2.2.2, HREST.out.1, fun z hz => by have h9 := HREST.out.2.1 z hz; omega, by have h9 := HREST.out.2.2.1; omega⟩, (B2.trans (AL2.mono B2.size)).mono (by omega)⟩
    clear CT1 hb2 AL2 B2
    go_wp2_with fail
    go_ret
    exact ⟨rfl, HF.out.1, HF.out.2⟩
  have h9i : (gx == 999) = false := beq_eq_false_iff_ne.2 h9
  rw [if_neg h9] at hq9
  have HQ9 : Hid (0 = q ∧ S' = ⟨S.aside, S.word, putF ⟨f, gv, gx + 1, gm ++ [(gx, fl, t)]⟩ S.fs⟩) := by cases hq9; exact ⟨rfl, rfl⟩
  clear hq9 HQ
  go_enter Tryz.func105, Tryz.ntmps105
  go_wp2_with fail
  refine CM.mono ?_
  rintro e w1 ⟨rfl, hb1⟩
  have D1 : Hid (DeskAt w1 M ⟨a, n, c, va, S.aside, nx, u, S.word, X⟩) := D0.out.later hb1
  have X1 : Hid (Box w1 w.heap.size [.int .i64 x0, .int .i64 fl, .string t]) := X0.out.below hb1
  have B1 : Hid (Below w.heap.size w w1) := HA0.out.trans (hb1.mono HA0.out.size)
  have Z1 : Hid (w.heap.size < w1.heap.size) := World.block_lt_of_cell? _ _ (X1.out 0 _ rfl).1
  have CT1 := CT w1 D1.out
  clear hb1 CM CT
  go_wp2_with fail
  refine CT1.mono ?_
  rintro e w2 ⟨rfl, hb2⟩
  have X2 : Box w2 w.heap.size [.int .i64 x0, .int .i64 fl, .string t] := X1.out.below hb2
  have B2 : Below w.heap.size w w2 := B1.out.trans (hb2.mono B1.out.size)
  have z2 : w.heap.size < w2.heap.size := by have h7 := hb2.size; have h8 := Z1.out; omega
  clear hb2 CT1
  obtain ⟨wA, hwA⟩ : ∃ W, w2.alloc (.cells #[.string f, .int .i64 gv, .int .i64 gx, .slice ax ml cx] 26) = W := ⟨_, rfl⟩
  have AA : Below w2.heap.size w2 wA := by rw [← hwA]; exact (Below.refl _ _).alloc (Nat.le_refl _) _
  have FA : Box wA w2.heap.size [.string f, .int .i64 gv, .int .i64 gx, .slice ax ml cx] := by rw [← hwA]; exact Box.new rfl
  have MA : Box wA w.heap.size [.int .i64 x0, .int .i64 fl, .string t] := X2.below AA
  have BA : Below w.heap.size w wA := B2.trans (AA.mono B2.size)
  have zA : wA.heap.size = w2.heap.size + 1 := by rw [← hwA]; simp
  obtain ⟨wB, hwB⟩ : ∃ W, wA.setCell ⟨w.heap.size, 0, none⟩ (.int .i64 gx) = W := ⟨_, rfl⟩
  have MB : Box wB w.heap.size [.int .i64 gx, .int .i64 fl, .string t] := by rw [← hwB]; exact MA.set 0 _
  have FB : Box wB w2.heap.size [.string f, .int .i64 gv, .int .i64 gx, .slice ax ml cx] := by rw [← hwB]; exact FA.other _ (by show w2.heap.size ≠ w.heap.size; omega) _
  have BB : Below w.heap.size w wB := by rw [← hwB]; exact BA.setCell (Nat.le_refl _) _
  have zB : wB.heap.size = w2.heap.size + 1 := by rw [← hwB, ← zA]; simp
  obtain ⟨wC, hwC⟩ : ∃ W, wB.setCell ⟨w2.heap.size, 2, none⟩ (.int .i64 (gx + 1)) = W := ⟨_, rfl⟩
  have MC : Box wC w.heap.size [.int .i64 gx, .int .i64 fl, .string t] := by rw [← hwC]; exact MB.other _ (by show w.heap.size ≠ w2.heap.size; omega) _
  have FC : Box wC w2.heap.size [.string f, .int .i64 gv, .int .i64 (gx + 1), .slice ax ml cx] := by rw [← hwC]; exact FB.set 2 _
  have BC : Below w.heap.size w wC := by rw [← hwC]; exact BB.setCell (by show w.heap.size ≤ w2.heap.size; omega) _
  have zC : wC.heap.size = w2.heap.size + 1 := by rw [← hwC, ← zB]; simp
  obtain ⟨mA0, mA0f⟩ := MA 0 _ rfl
  obtain ⟨fA2, _⟩ := FA 2 _ rfl
  obtain ⟨fB2, fB2f⟩ := FB 2 _ rfl
  obtain ⟨fC3, _⟩ := FC 3 _ rfl
  obtain ⟨mC0, _⟩ := MC 0 _ rfl
  obtain ⟨mC1, _⟩ := MC 1 _ rfl
  obtain ⟨mC2, _⟩ := MC 2 _ rfl
  obtain ⟨wD, hwD⟩ : ∃ W, wC.alloc (.cells #[.int .i64 gx, .int .i64 fl, .string t] 78) = W := ⟨_, rfl⟩
  have AD : Below wC.heap.size wC wD := by rw [← hwD]; exact (Below.refl _ _).alloc (Nat.le_refl _) _
  have BD : Below w.heap.size w wD := BC.trans (AD.mono BC.size)
  have FD : Hid (Box wD w2.heap.size [.string f, .int .i64 gv, .int .i64 (gx + 1), .slice ax ml cx]) := FC.below AD
  have SD : Hid (Src wD (some ⟨w2.heap.size + 1, 0, none⟩) (cellsMl [(gx, fl, t)])) := by show Src _ _ _; rw [← hwD]; exact src_oneMl zC.symm
  have DD : Hid (DeskAt wD M ⟨a, n, c, va, S.aside, nx, u, S.word, X⟩) := HD.out.later BD
  have OD : Hid (wD.ownsRow (M + 2) 78 3 (.slice ax ml cx) ml (cellsMl gm)) := own_below HO.out BD
  have HBD : Hid (Below w.heap.size w wD) := BD
  have zD : wD.heap.size = w2.heap.size + 2 := by rw [← hwD]; simp; omega
  have hg3 : gx + 1 ≤ 1000 := by omega
  clear X2 B2 AA FA MA BA MB FB BB MC FC BC AD BD
  go_wp2_with (at_builtin; refine wpList_append_srcL _ rfl _ _ 24 rfl (M + 2) 78 (.agg #[.int .i64 0, .int .i64 0, .string ⟨#[]⟩]) 3 32 Tryz.underlying24 infoMl rfl (by decide) (by decide) (.slice ax ml cx) ml (cellsMl gm) rfl OD.out ⟨w2.heap.size + 1, 0, none⟩ 1 1 (cellsMl [(gx, fl, t)]) rfl rfl SD.out (cellsMl_one _) (by omega) (by omega) (by omega) ?_)
  intro v6 w6 hown6 hgrow6 hloc6
  obtain ⟨a6, c6, rfl, _, hl6⟩ := own_src hown6
  have hrow : ∀ g, Value.ownBlock (.slice ax ml cx) = some g → M + 2 ≤ g ∧ g < w.heap.size := fun g h9 => ⟨(HO.out.lt g h9).1, (HO.out.lt g h9).2⟩
  have B6 : Below M w w6 := (HBD.out.mono (by omega)).grown hgrow6 (by omega) (fun g h9 => by have := (hrow g h9).1; omega)
  have X6 : Box w6 w2.heap.size [.string f, .int .i64 gv, .int .i64 (gx + 1), .slice ax ml cx] := FD.out.grown hgrow6 (fun h9 => by have := (hrow _ h9).2; omega)
  have K6 : DeskH w6 M ⟨a, n, c, va, S.aside, nx, u, S.word, X⟩ := by
    obtain ⟨k1, ⟨cl, k2⟩, k3, _⟩ := DD.out
    exact ⟨k1.grown hgrow6 (fun h9 => by have := (hrow _ h9).1; omega), ⟨cl, k2.grown hgrow6 (fun h9 => by have := (hrow _ h9).1; omega)⟩, own_grown k3 hgrow6 (fun g h9 h7 => own_ne k3 OD.out (by decide) g h9 h7)⟩
  have R6 : ∀ z ∈ X, z.k ≠ folderK u f → w6.ownsRow (M + 2) 78 3 z.v z.mails.length (cellsMl z.mails) ∧ ∀ g, z.v.ownBlock = some g → Value.ownBlock (.slice a6 (ml + 1) c6) ≠ some g := fun z hz hzk => by
    have k4 := DD.out.2.2.2
    have kd : ∀ g, z.v.ownBlock = some g → Value.ownBlock (.slice ax ml cx) ≠ some g := fun g h9 => by
      have h7 := rows_apart k4 HX.out.1 hz hzk g h9
      rw [HX.out.2.2, hgn.2.2.2, hml] at h7
      exact h7
    refine ⟨own_grown (k4.1 z hz) hgrow6 kd, fun g h9 h7 => ?_⟩
    rcases hloc6 with h5 | h5
    · rw [h5] at h7; exact kd g h9 h7
    · have h6 := h5 g h7
      have h4 := ((HD.out.2.2.2.1 z hz).lt g h9).2
      omega
  have L6 : ∀ g, Value.ownBlock (.slice a6 (ml + 1) c6) = some g → g ≠ w2.heap.size := fun g h9 h7 => by
    rcases hloc6 with h5 | h5
    · rw [h5] at h9; have := (hrow g h9).2; omega
    · have h6 := h5 g h9
      omega
  have hold : ∀ z ∈ X, z.v.ownBlock ≠ some w2.heap.size := fun z hz h9 => by
    have h7 := ((HD.out.2.2.2.1 z hz).lt _ h9).2
    omega
  have hasd : va.ownBlock ≠ some w2.heap.size := fun h9 => by
    have h7 := (HD.out.2.2.1.lt _ h9).2
    omega
  obtain ⟨w7, hw7⟩ : ∃ W, w6.setCell ⟨w2.heap.size, 3, none⟩ (.slice a6 (ml + 1) c6) = W := ⟨_, rfl⟩
  have X7 : Box w7 w2.heap.size [.string f, .int .i64 gv, .int .i64 (gx + 1), .slice a6 (ml + 1) c6] := by rw [← hw7]; exact X6.set 3 _
  have K7 : Hid (DeskH w7 M ⟨a, n, c, va, S.aside, nx, u, S.word, X⟩) := by
    obtain ⟨k1, ⟨cl, k2⟩, k3⟩ := K6
    rw [← hw7]
    exact ⟨box_far k1 _ _ (by show M + 1 ≠ w2.heap.size; omega), ⟨cl, k2.setCell _ _ (by show M ≠ w2.heap.size; omega)⟩, own_setOther k3 hasd _⟩
  have hKN : (X.map (·.k)).Nodup := by
    rw [HREST.out.2.2.2.keys]
    exact nodup_keys HREST.out.1
  have hgml : (gm ++ [(gx, fl, t)]).length = ml + 1 := by rw [List.length_append, hml]; rfl
  have R7 : Hid (∀ clock, Rows w7 M (setX ⟨folderK u f, 0, f, gv, gx + 1, .slice a6 (ml + 1) c6, gm ++ [(gx, fl, t)]⟩ clock X)) := fun clock => by
    refine rows_set' (fun z hz hzk => by rw [← hw7]; exact own_setOther (R6 z hz hzk).1 (hold z hz) _) HD.out.2.2.2.2 ?_ hKN (fun z hz hzk => (R6 z hz hzk).2) clock
    show World.ownsRow _ _ _ _ _ (gm ++ [(gx, fl, t)]).length _
    rw [hgml, ← hw7, cellsMl_append]
    exact own_setOther hown6 (fun h9 => L6 _ h9 rfl) _
  have B7 : Hid (Below M w w7) := by
    rw [← hw7]
    exact B6.setCell (by show M ≤ w2.heap.size; omega) _
  have CP := putI ⟨folderK u f, 0, f, gv, gx + 1, .slice a6 (ml + 1) c6, gm ++ [(gx, fl, t)]⟩ f gv (gx + 1) a6 (ml + 1) c6 w7 M ⟨a, n, c, va, S.aside, nx, u, S.word, X⟩ rfl (by omega) (by show u.size ≤ 1048576; omega) K7.out R7.out
  obtain ⟨e6, f6⟩ := X6 3 _ rfl
  obtain ⟨g0, _⟩ := X7 0 _ rfl
  obtain ⟨g1, _⟩ := X7 1 _ rfl
  obtain ⟨g2, _⟩ := X7 2 _ rfl
  obtain ⟨g3, _⟩ := X7 3 _ rfl
  clear X7 hold hasd hown6 hgrow6 hloc6 hl6 hrow B6 X6 K6 R6 L6 hKN K7 R7 hgml
  go_wp2_with fail
  refine CP.mono ?_
  rintro e w8 ⟨rfl, ⟨clock, hd8⟩, hb8⟩
  have HF : Hid (StAt w8 M a n c nx u S' (k + 1) ∧ Below M w w8) := by
    rw [HQ9.out.2]
    refine ⟨⟨va, _, hd8, ?_, putF_names HREST.out.1, fun z hz => ?_, by have h9 := HREST.out.2.2.1; show S.aside.length ≤ k + 1; omega⟩, B7.out.trans hb8⟩
    · exact HREST.out.2.2.2.put (y := ⟨folderK u f, 0, f, gv, gx + 1, .slice a6 (ml + 1) c6, gm ++ [(gx, fl, t)]⟩) rfl clock
    · rcases putF_mem hz with hz | rfl
      · have h9 := HREST.out.2.1 z hz; omega
      · refine ⟨by show 1 ≤ gx + 1; omega, by show gx + 1 ≤ 999; omega, ?_⟩
        show (gm ++ [(gx, fl, t)]).length ≤ k + 1
        rw [List.length_append, hml]
        show ml + 1 ≤ k + 1
        omega
  have HQ0 : Hid (0 = q) := HQ9.out.1
  clear CP hd8 hb8 g0 g1 g2 g3
  go_wp2_with fail
  go_ret
  exact ⟨ret_int HQ0.out, HF.out.1, HF.out.2⟩
end Go.Proofs.YthejpemiaenfpaaGreatDoor
namespace Go.Proofs.YthejpemiaenfpaaGreatDoor
open Go.ChangeShapes Go.WideShapes Go.ChangeAt Go.RowKit Go.Deep Go.Lib
set_option linter.unusedVariables false
set_option linter.unusedSimpArgs false
set_option maxRecDepth 100000

/-- What a folder on the desk is of the list, and that its uids are below the next. -/
def FolOf (nx : Int) (u : ByteArray) (L : List PM) (g : FM) : Prop := (∃ w f, (folderK u g.name, w) ∈ L ∧ folderM nx g.name w = some f ∧ g.val = f.val ∧ g.next = f.next) ∧ ∀ m ∈ g.mails, m.1 < g.next
theorem fol_take {nx : Int} {u : ByteArray} {L : List PM} {S S' : SM} {q : PM} (hnx : nx ≤ 10000) (hq : q ∈ L) (hS : ∀ g ∈ S.fs, FolOf nx u L g) (h : takeM nx u S q = some S') : ∀ g ∈ S'.fs, FolOf nx u L g := by
  have hput : ∀ {o : Option FM}, putM S o = some S' → (∀ g, o = some g → FolOf nx u L g) → ∀ g ∈ S'.fs, FolOf nx u L g := fun {o} h9 hg => by
    unfold putM at h9
    obtain ⟨g, rfl, rfl⟩ := Option.map_eq_some_iff.1 h9
    intro f hf
    rcases putF_mem hf with hf | rfl
    · exact hS f hf
    · exact hg _ rfl
  have haside : asideM S q = some S' → ∀ g ∈ S'.fs, FolOf nx u L g := fun h9 => by cases h9; exact hS
  unfold takeM takeP at h
  split at h
  · split at h
    · unfold userM at h
      obtain ⟨_, rfl⟩ := ite_some h
      exact hS
    · exact haside h
  · rename_i a b c hG
    split at h
    · rename_i hc
      refine hput h fun g hg => ?_
      have hgf := (folder_meta hnx).1 hg
      have hgn : g.name = bs c := by rw [hgf.2.2.2]
      have hgm : g.mails = [] := by rw [hgf.2.2.2]
      have hsp : splitL 47 q.1.data.toList = [[102], b, c] := by rw [hG, hc.2]
      have hk := (key_folder hsp).1
      rw [hc.1] at hk
      refine ⟨⟨q.2, g, by rw [hgn, ← hk]; exact hq, by rw [hgn]; exact hg, rfl, rfl⟩, fun m hm => ?_⟩
      rw [hgm] at hm
      cases hm
    · exact haside h
  · rename_i a b c d hG
    split at h
    · refine hput h fun g hg => ?_
      unfold mailM at hg
      obtain ⟨f', hl, hg2⟩ := Option.bind_eq_some_iff.1 hg
      obtain ⟨un, m1, m2, m3, m4, m5, m6, m7, m8, hgm⟩ := mailO_some hg2
      obtain ⟨e1, e2⟩ := hS f' (lookF_mem hl).1
      rw [hgm]
      refine ⟨e1, fun m hm => ?_⟩
      rcases List.mem_append.1 (show m ∈ f'.mails ++ [((un : Int), hdV q.2 - 48, q.2.extract 1 q.2.size)] from hm) with hm | hm
      · exact e2 m hm
      · rw [List.mem_singleton.1 hm]
        exact m8
    · exact haside h
  · exact haside h
theorem fol_all {nx : Int} {u : ByteArray} {L : List PM} (hnx : nx ≤ 10000) : ∀ {R : List PM} {S S' : SM}, (∀ q ∈ R, q ∈ L) → (∀ g ∈ S.fs, FolOf nx u L g) → takeAll nx u S R = some S' → ∀ g ∈ S'.fs, FolOf nx u L g
  | [], S, S', _, hS, h => by cases h; exact hS
  | q :: R, S, S', hR, hS, h => by
    unfold takeAll at h
    obtain ⟨S1, h1, h2⟩ := Option.bind_eq_some_iff.1 h
    exact fol_all hnx (fun x hx => hR x (List.mem_cons_of_mem _ hx)) (fol_take hnx (hR q List.mem_cons_self) hS h1) h2
theorem store_fol {L : List PM} {u : ByteArray} {S : SM} (h : storeB L = true) (hS : takeAll (nextM L) u S0 L = some S) : ∀ g ∈ S.fs, FolOf (nextM L) u L g := by
  obtain ⟨hg, nx0, hnm, n1, n2, _, _, _⟩ := store_facts h
  exact fol_all (by omega) (fun q hq => hq) (fun f hf => by cases hf) hS
theorem look_meta {L : List PM} {u f : ByteArray} {S : SM} {g : FM} (h : storeB L = true) (hS : takeAll (nextM L) u S0 L = some S) (hl : lookF f S.fs = some g) : metaM L u f = some (g.val, g.next) := by
  obtain ⟨hg, nx0, hnm, n1, n2, _, _, _⟩ := store_facts h
  obtain ⟨hm, hn⟩ := lookF_mem hl
  obtain ⟨⟨w, f2, k1, k2, k3, k4⟩, _⟩ := store_fol h hS g hm
  rw [hn] at k1 k2
  have k5 := ((folder_meta (by omega)).1 k2).2.1
  unfold metaM
  rw [(getM_mem hg.2.2).2 k1]
  show metaV w = _
  rw [k5, k3, k4]
theorem mail_is {L : List PM} {u : ByteArray} (h : storeB L = true) (hus : (47 : UInt8) ∉ u.data.toList) {q : PM} (hq : q ∈ L) : isMail u q = beginsB q.1 (mailsK u) := by
  rw [Bool.eq_iff_iff]
  refine ⟨mail_begins, fun hb => ?_⟩
  obtain ⟨r, hr⟩ := begins_parts hus hb
  obtain ⟨_, nx0, _, _, _, _, _, k⟩ := store_facts h
  rcases k _ hq with k | ⟨u', k1, _⟩
  · rw [k] at hr
    have h9 : splitL 47 vK.data.toList = [[118]] := rfl
    rw [h9] at hr
    simp at hr
  · unfold ownerM at k1
    rw [hr] at k1
    unfold isMail
    rw [hr]
    match r, k1 with
    | [], k1 => exact absurd k1 (by unfold ownerG; simp)
    | [c], k1 => exact absurd k1 (by unfold ownerG; simp)
    | [c, d], _ => exact decide_eq_true ⟨rfl, data_bs u⟩
    | _ :: _ :: _ :: _, k1 => exact absurd k1 (by unfold ownerG; simp)
theorem sum_count {L : List PM} {u : ByteArray} {S : SM} (h : storeB L = true) (hus : (47 : UInt8) ∉ u.data.toList) (hS : takeAll (nextM L) u S0 L = some S) : sumF S.fs = countM L u := by
  obtain ⟨S', k1, _, hI⟩ := take_all h hus
  rw [hS] at k1
  cases k1
  rw [hI.c]
  unfold countM
  congr 1
  exact List.filter_congr fun q hq => mail_is h hus hq
theorem count_six {L : List PM} {u : ByteArray} {S : SM} (h : storeB L = true) (hus : (47 : UInt8) ∉ u.data.toList) (hS : takeAll (nextM L) u S0 L = some S) (hk : (getM L (userK u)).isSome = true) : sumF S.fs ≤ 6 := by
  obtain ⟨hg, nx0, hnm, n1, n2, _, hlay, _⟩ := store_facts h
  obtain ⟨v, hv⟩ := Option.isSome_iff_exists.1 hk
  have h1 := hlay u ⟨_, (getM_mem hg.2.2).1 hv, rfl⟩
  rw [hnm] at h1
  unfold layF at h1
  rw [hS] at h1
  have h2 : ((lookF inboxT S.fs).isSome && decide (sumF S.fs ≤ 6)) = true := h1
  rw [Bool.and_eq_true, decide_eq_true_eq] at h2
  exact h2.2
def appT (L : List PM) (u f t : ByteArray) (fl : Int) : List PM × Int × Int :=
  if countM L u = 6 then (L, 0, 12) else if (metaD L u f).2 = 999 then (L, 0, 6) else if 60 < (appY L u f t fl).length then (L, 0, 7) else (appY L u f t fl, (metaD L u f).2, 0)
theorem d3_inj {a b : Nat} (ha : a < 1000) (hb : b < 1000) (h : d3 a = d3 b) : a = b := by
  have h1 := (d3_is a ha).2
  rw [h, (d3_is b hb).2] at h1
  exact (Option.some.inj h1).symm
theorem mails_not {u n f : ByteArray} {ms : List MMl} : ∀ p ∈ ms.map (mailP u n), p.1 ≠ folderK u f := fun p hp e => by
  obtain ⟨m, _, rfl⟩ := List.mem_map.1 hp
  have h9 := congrArg (fun x : ByteArray => x.data.toList) e
  simp only [mailP, folderK_data] at h9
  simp [bs] at h9
theorem same_name {fs : List FM} (hn : (fs.map (·.name)).Nodup) {a b : FM} (ha : a ∈ fs) (hb : b ∈ fs) (h : a.name = b.name) : a = b := by
  induction fs with
  | nil => cases ha
  | cons x fs ih =>
    rw [List.map_cons, List.nodup_cons] at hn
    rcases List.mem_cons.1 ha with ha1 | ha1
    · rcases List.mem_cons.1 hb with hb1 | hb1
      · rw [ha1, hb1]
      · exact absurd (List.mem_map.2 ⟨b, hb1, by rw [← h, ha1]⟩) hn.1
    · rcases List.mem_cons.1 hb with hb1 | hb1
      · exact absurd (List.mem_map.2 ⟨a, ha1, by rw [h, hb1]⟩) hn.1
      · exact ih hn.2 ha1 hb1
theorem look_self {fs : List FM} (hn : (fs.map (·.name)).Nodup) {g : FM} (hg : g ∈ fs) : lookF g.name fs = some g := by
  obtain ⟨g2, h2⟩ := Option.isSome_iff_exists.1 (look_mem' hg)
  obtain ⟨h3, h4⟩ := lookF_mem h2
  rw [h2, same_name hn h3 hg h4]
/-- A mail's key in the list is that of a mail on the desk. -/
theorem mail_there {L : List PM} {u f : ByteArray} {S : SM} {g : FM} {n : Nat} {v : ByteArray} (h : storeB L = true) (hus : (47 : UInt8) ∉ u.data.toList) (hfs : (47 : UInt8) ∉ f.data.toList) (hS : takeAll (nextM L) u S0 L = some S) (hl : lookF f S.fs = some g) (hn : n < 1000) (hm : (mailK u f (n : Int), v) ∈ L) : ∃ m ∈ g.mails, m.1 = (n : Int) ∧ mailV m = v := by
  have hnd := names_all (S := S0) List.nodup_nil hS
  have hd := (take_desk h hus hS).mem_iff.2 hm
  have hkd : (mailK u f (n : Int)).data.toList = 109 :: 47 :: (u.data.toList ++ 47 :: (f.data.toList ++ 47 :: d3 n)) := by simp [bs]
  have hsp : splitL 47 (mailK u f (n : Int)).data.toList = [109] :: u.data.toList :: f.data.toList :: splitL 47 (d3 n) := by
    rw [hkd]
    have e : (109 : UInt8) :: 47 :: (u.data.toList ++ 47 :: (f.data.toList ++ 47 :: d3 n)) = [109] ++ 47 :: (u.data.toList ++ 47 :: (f.data.toList ++ 47 :: d3 n)) := rfl
    rw [e, splitL_seg 47 [109] _ (by decide), splitL_seg 47 _ _ hus, splitL_seg 47 _ _ hfs]
  have how : ownerM (mailK u f (n : Int), v) = some u := by
    obtain ⟨_, nx0, _, _, _, _, _, k⟩ := store_facts h
    rcases k _ hm with k | ⟨u', k1, _⟩
    · exact absurd k (mailK_not _ _ _)
    · unfold ownerM at k1 ⊢
      rw [hsp] at k1 ⊢
      match hq : splitL 47 (d3 n), k1 with
      | [], k1 => exact absurd hq (splitL_ne 47 _)
      | [d], k1 =>
        show (if ([109] : List UInt8) = [109] then some (bs u.data.toList) else none) = some u
        rw [if_pos rfl, data_bs]
      | _ :: _ :: _, k1 => cases k1
  unfold deskX at hd
  rcases List.mem_append.1 hd with hd | hd
  · exfalso
    rw [all_aside hS] at hd
    have h3 : (mailK u f (n : Int), v) ∈ L.filter fun p => !isOwn u p := by simpa using hd
    have h5 := (List.mem_filter.1 h3).2
    rw [show isOwn u (mailK u f (n : Int), v) = true from decide_eq_true how] at h5
    cases h5
  · rcases List.mem_append.1 hd with hd | hd
    · exfalso
      unfold wordL at hd
      split at hd
      · cases hd
      · have h9 := congrArg Prod.fst (List.mem_singleton.1 hd)
        have h7 := congrArg (fun x : ByteArray => x.data.toList) h9
        simp [bs, ByteArray.data_append] at h7
    · obtain ⟨g2, hg2, hp⟩ := flat_mem hd
      unfold fPairs at hp
      rcases List.mem_cons.1 hp with hp | hp
      · exfalso
        have h9 := congrArg Prod.fst hp
        have h7 := congrArg (fun x : ByteArray => x.data.toList) h9
        simp only [folderK_data] at h7
        simp [bs] at h7
      · obtain ⟨m, hm1, hm2⟩ := List.mem_map.1 hp
        have h9 := congrArg Prod.fst hm2
        have h7 := congrArg (fun x : ByteArray => x.data.toList) h9
        have h6 : 109 :: 47 :: (u.data.toList ++ 47 :: (g2.name.data.toList ++ 47 :: d3 m.1.toNat)) = 109 :: 47 :: (u.data.toList ++ 47 :: (f.data.toList ++ 47 :: d3 n)) := by
          simpa [mailP, bs] using h7
        simp only [List.cons.injEq, true_and] at h6
        obtain ⟨_, h5⟩ := seg_inj hus hus h6
        obtain ⟨h4, h3⟩ := seg_inj (word_slash (name_short h hus hS hg2)) hfs h5
        have h2 : g2.name = f := bs_inj h4
        have h1 : g2 = g := by
          have h8 := look_self hnd hg2
          rw [h2, hl] at h8
          exact (Option.some.inj h8).symm
        subst h1
        have hft := (store_fit h hS g2 hg2).2.2.2.2.2 m hm1
        have h0 := d3_inj (by omega) hn h3
        exact ⟨m, hm1, by omega, congrArg Prod.snd hm2⟩
/-- The desk and the list, one folder told apart. -/
theorem desk_apart {L : List PM} {u f : ByteArray} {S : SM} {g : FM} (h : storeB L = true) (hus : (47 : UInt8) ∉ u.data.toList) (hfs : (47 : UInt8) ∉ f.data.toList) (hS : takeAll (nextM L) u S0 L = some S) (hw : S.word.toList ≠ []) (hl : lookF f S.fs = some g) :
    (notK (folderK u f) L).Perm ((vK, bs (itoa (nextM L))) :: (userK u, S.word) :: (notK vK S.aside ++ (g.mails.map (mailP u f) ++ flatF u (dropF f S.fs)))) := by
  have hnd := names_all (S := S0) List.nodup_nil hS
  refine (notK_perm (desk_list h hus hS hw)).trans ?_
  rw [notK_cons _ _ _ (folder_not u f).symm, notK_cons _ _ _ (fun e => by
    have h9 := congrArg (fun x : ByteArray => x.data.toList) e
    simp [ByteArray.data_append] at h9), notK_app]
  refine List.Perm.cons _ (List.Perm.cons _ ?_)
  have e1 : notK (folderK u f) (notK vK S.aside) = notK vK S.aside := notK_self fun p hp => by
    have h9 := aside_pass h hus hfs hS hp
    unfold passB at h9
    rw [Bool.and_eq_true, decide_eq_true_eq] at h9
    exact h9.1
  rw [e1]
  refine List.Perm.append_left _ ?_
  refine (notK_perm (flat_perm (drop_perm hl))).trans ?_
  rw [flat_cons, notK_app]
  have hgn := (lookF_mem hl).2
  have e2 : notK (folderK u f) (fPairs u g) = g.mails.map (mailP u f) := by
    unfold fPairs
    rw [hgn, notK_skip (folderK u f) (folderK u f, metaT g.val g.next) _ rfl, notK_self mails_not]
  have e3 : notK (folderK u f) (flatF u (dropF f S.fs)) = flatF u (dropF f S.fs) := notK_self fun p hp => by
    have h8 := rest_pass (fs := dropF f S.fs) hus hfs fun x hx => ⟨drop_names hnd x hx, word_slash (name_short h hus hS ((dropF_sub f S.fs).subset hx))⟩
    have h9 := List.filter_eq_self.1 h8 p hp
    unfold passB at h9
    rw [Bool.and_eq_true, decide_eq_true_eq] at h9
    exact h9.1
  rw [e2, e3]
def AppFits (L : List PM) (nx : Int) (u : ByteArray) (gx : Int) (q : Int) (S' : SM) (A : List PM × Int × Int) : Prop :=
  (q ≠ 0 → A = (L, 0, q)) ∧ (q = 0 → (∀ f ∈ S'.fs, FitF f) ∧ ∃ Y, UpL Y ∧ (deskP nx u S').Perm Y ∧ Y.length ≤ 4000 ∧ A = if 60 < Y.length then (L, 0, 7) else (Y, gx, 0))
theorem app_fits {L : List PM} {u f t : ByteArray} {fl : Int} {S S' : SM} {g : FM} {q : Int} (h : storeB L = true) (hsu : shortB u = true) (hsf : shortB f = true) (hts : t.size ≤ 1000) (f0 : 0 ≤ fl) (f1 : fl ≤ 3) (hS : takeAll (nextM L) u S0 L = some S) (hw : S.word.toList ≠ []) (hl : lookF f S.fs = some g) (hQ : apM S g fl t = (q, S')) : AppFits L (nextM L) u g.next q S' (appT L u f t fl) := by
  have hus := word_slash hsu
  have hfs := word_slash hsf
  obtain ⟨hg, nx0, hnm, n1, n2, _, _, _⟩ := store_facts h
  have hmd : metaD L u f = (g.val, g.next) := by unfold metaD; rw [look_meta h hS hl]; rfl
  have hgm := (lookF_mem hl).1
  have hgn := (lookF_mem hl).2
  have hs : (getM L (userK u)).isSome = true := by
    cases hv : getM L (userK u) with
    | none => exact absurd ((word_iff h hus hS).1.2 hv) hw
    | some v => rfl
  have h6 := count_six h hus hS hs
  have hsc := sum_count h hus hS
  unfold apM at hQ
  unfold appT
  rw [← hsc, hmd]
  by_cases hc : 6 ≤ sumF S.fs
  · rw [if_pos hc] at hQ
    cases hQ
    rw [if_pos (by omega)]
    exact ⟨fun _ => rfl, fun h9 => by cases h9⟩
  · rw [if_neg hc] at hQ
    rw [if_neg (by omega)]
    by_cases hx : g.next = 999
    · rw [if_pos hx] at hQ
      cases hQ
      rw [if_pos hx]
      exact ⟨fun _ => rfl, fun h9 => by cases h9⟩
    · rw [if_neg hx] at hQ
      cases hQ
      rw [if_neg hx]
      have hfit := store_fit h hS g hgm
      obtain ⟨p1, p2, p3, p4⟩ := meta_range (look_meta h hS hl)
      dsimp only at p1 p2 p3 p4
      obtain ⟨k1, k2⟩ := app_len hg u f t fl
      refine ⟨fun h9 => absurd rfl h9, fun _ => ⟨fun z hz => ?_, appY L u f t fl, k2, ?_, by omega, rfl⟩⟩
      · rcases putF_mem hz with hz | rfl
        · exact store_fit h hS z hz
        · obtain ⟨e1, e2, e3, e4, e5, e6⟩ := hfit
          refine ⟨e1, e2, by show 0 ≤ g.next + 1; omega, by show g.next + 1 ≤ 10000; omega, e5, fun m hm => ?_⟩
          rcases List.mem_append.1 (show m ∈ g.mails ++ [(g.next, fl, t)] from hm) with hm | hm
          · exact e6 m hm
          · rw [List.mem_singleton.1 hm]
            exact ⟨by show 0 ≤ g.next; omega, by show g.next < 1000; omega, f0, f1, hts⟩
      · unfold appY
        rw [hmd]
        dsimp only
        have hu1 := ins_up (k := folderK u f) (v := metaT g.val (g.next + 1)) hg.2.2
        refine List.Perm.trans ?_ (ins_perm hu1).symm
        have hno : notK (mailK u f g.next) (insL (folderK u f) (metaT g.val (g.next + 1)) L) = insL (folderK u f) (metaT g.val (g.next + 1)) L := notK_self fun x hx2 e => by
          rcases ins_mem hg.2.2 hx2 with rfl | hx2
          · have h9 := congrArg (fun x : ByteArray => x.data.toList) e
            simp only [folderK_data] at h9
            simp [bs] at h9
          · have hx3 : (mailK u f ((g.next.toNat : Nat) : Int), x.2) ∈ L := by
              rw [show ((g.next.toNat : Nat) : Int) = g.next by omega, ← e]
              exact hx2.1
            obtain ⟨m, hm1, hm2, _⟩ := mail_there h hus hfs hS hl (by omega) hx3
            have h8 := (store_fol h hS g hgm).2 m hm1
            omega
        rw [hno]
        refine List.Perm.trans ?_ (List.Perm.cons _ (ins_perm hg.2.2).symm)
        refine List.Perm.trans ?_ (List.Perm.cons _ (List.Perm.cons _ (desk_apart h hus hfs hS hw hl).symm))
        unfold deskP
        have hfl : (flatF u (putF (moreF g fl t) S.fs)).Perm (fPairs u (moreF g fl t) ++ flatF u (dropF f S.fs)) := by
          have h9 := flat_perm (u := u) (put_perm (g := moreF g fl t) (f := g) (fs := S.fs) (by show lookF g.name S.fs = some g; rw [hgn]; exact hl))
          rw [flat_cons] at h9
          have e9 : (moreF g fl t).name = f := hgn
          rw [e9] at h9
          exact h9
        have hfp : fPairs u (moreF g fl t) = (folderK u f, metaT g.val (g.next + 1)) :: (g.mails.map (mailP u f) ++ [(mailK u f g.next, mailV (g.next, fl, t))]) := by
          unfold fPairs moreF
          dsimp only
          rw [hgn, List.map_append]
          rfl
        refine (List.Perm.cons _ (List.Perm.cons _ (List.Perm.append_left _ hfl))).trans ?_
        rw [hfp]
        -- v, u, A ++ (F :: (ms ++ [m]) ++ r)  against  m :: F :: v :: u :: (A ++ (ms ++ r))
        have e1 : ∀ (v w F m : PM) (A ms r : List PM), (v :: w :: (A ++ ((F :: (ms ++ [m])) ++ r))).Perm (m :: F :: v :: w :: (A ++ (ms ++ r))) := fun v w F m A ms r => by
          have p1 : (A ++ ((F :: (ms ++ [m])) ++ r)).Perm (m :: F :: (A ++ (ms ++ r))) := by
            have p2 : ((F :: (ms ++ [m])) ++ r).Perm (m :: F :: (ms ++ r)) := by
              have p3 : ((ms ++ [m]) ++ r).Perm (m :: (ms ++ r)) := by
                rw [List.append_assoc]
                exact List.perm_middle
              exact (List.Perm.cons F p3).trans (List.Perm.swap _ _ _)
            refine (List.Perm.append_left A p2).trans ?_
            refine (List.perm_middle).trans ?_
            exact List.Perm.cons _ List.perm_middle
          refine (List.Perm.cons v (List.Perm.cons w p1)).trans ?_
          refine (List.Perm.cons v (List.Perm.swap _ _ _)).trans ?_
          refine (List.Perm.swap _ _ _).trans ?_
          refine List.Perm.cons m ?_
          refine (List.Perm.cons v (List.Perm.swap _ _ _)).trans ?_
          exact List.Perm.swap _ _ _
        exact e1 _ _ _ _ _ _ _
theorem appR_T {L : List PM} {u f t : ByteArray} {fl : Int} (h : knownR L u f = 0) : appR L u f t fl = appT L u f t fl := by
  unfold appR appT
  rw [if_neg (by simp [h])]
end Go.Proofs.YthejpemiaenfpaaGreatDoor
namespace Go.Proofs.YthejpemiaenfpaaGreatDoor
open Go.ChangeShapes Go.WideShapes Go.ChangeAt Go.RowKit Go.Deep Go.Lib
set_option linter.unusedVariables false
set_option linter.unusedSimpArgs false
set_option maxRecDepth 100000

set_option maxHeartbeats 4000000 in
theorem appendedI (w : World) (M : Nat) (a : Option Addr) (n c : Nat) (nx : Int) (u : ByteArray) (S : SM) (k : Nat) (hS : StAt w M a n c nx u S k) (f : ByteArray) (g : FM) (hl : lookF f S.fs = some g) (hfz : f.size ≤ 1000) (hu : u.size ≤ 1000) (x0 fl : Int) (t : ByteArray) (hsum : sumF S.fs ≤ 60) (hk : k ≤ 999) (n0 : 0 ≤ nx) (n1 : nx ≤ 10000) (L : List PM) (hL : L.length = n) (hn60 : n ≤ 60) (h : Src w a (cellsP L)) (hG : Gl w) (h8 : 8 ≤ M) (ha : ∀ ad, a = some ad → ad.block < M) (A : List PM × Int × Int) (HAF : ∀ q S', apM S g fl t = (q, S') → AppFits L nx u g.next q S' A) (R : List PM) (q1 q2 : Int) (HA : Hid (A = (R, q1, q2))) :
    Calls Tryz.prog 69 #[.pointer (some ⟨M + 1, 0, none⟩), .string f, .agg #[.int .i64 x0, .int .i64 fl, .string t]] w fun e w' => ∃ v, e = .returned (.tuple #[v, .int .i64 q1, .int .i64 q2]) ∧ w'.ownsRow w.heap.size 59 2 v R.length (cellsP R) ∧ Below M w w' := by
  have hSS := hS
  obtain ⟨va, X, hD, hV, hN, hf, hkk⟩ := hSS
  have hM1 : M + 1 < w.heap.size := World.block_lt_of_cell? _ _ (hD.1 0 _ rfl).1
  obtain ⟨w0, hw0⟩ : ∃ W, w.alloc (.cells #[.int .i64 x0, .int .i64 fl, .string t] 78) = W := ⟨_, rfl⟩
  have A0 : Below w.heap.size w w0 := by rw [← hw0]; exact (Below.refl _ _).alloc (Nat.le_refl _) _
  have X0 : Hid (Box w0 w.heap.size [.int .i64 x0, .int .i64 fl, .string t]) := by show Box _ _ _; rw [← hw0]; exact Box.new rfl
  have HA0 : Hid (Below w.heap.size w w0) := A0
  obtain ⟨x, hx, hxg⟩ : ∃ x, lookX (folderK u f) X = some x ∧ fmX x = g := by
    have h9 := hV.look f
    rw [hl] at h9
    obtain ⟨x, h1, h2⟩ := Option.map_eq_some_iff.1 h9
    exact ⟨x, h1, h2⟩
  obtain ⟨ax, cx, hxv, _, _⟩ := own_src (hD.2.2.2.1 x (look_mem hx))
  have CT := atI f w0 M _ (by omega) (by show u.size ≤ 1048576; omega) (hD.later A0)
  have hat : atX (lookX (folderK u f) X) = .agg #[.string x.name, .int .i64 x.val, .int .i64 x.next, .slice ax x.mails.length cx] := by
    rw [hx]
    show valX x = _
    unfold valX
    rw [hxv]
  simp only [hat] at CT
  have hgx : x.next = g.next := by rw [← hxg]
  rw [hgx] at CT
  obtain ⟨q, S', hop⟩ : ∃ q S', apM S g fl t = (q, S') := ⟨_, _, rfl⟩
  have HOF : Hid (AppFits L nx u g.next q S' A) := HAF q S' hop
  have CA := fun W (hW : Below w.heap.size w W) => appendMailI W M a n c nx u S k (hS.later hW) f g hl hfz hu x0 fl t hsum (by omega) q S' hop
  obtain ⟨gx, hgx2⟩ : ∃ z, g.next = z := ⟨_, rfl⟩
  rw [hgx2] at CT HOF
  obtain ⟨xn, hxn⟩ : ∃ z, x.name = z := ⟨_, rfl⟩
  obtain ⟨xv, hxv2⟩ : ∃ z, x.val = z := ⟨_, rfl⟩
  obtain ⟨ml, hml⟩ : ∃ z, x.mails.length = z := ⟨_, rfl⟩
  rw [hxn, hxv2, hml] at CT
  have HS : Hid (Src w a (cellsP L) ∧ L.length = n ∧ Gl w) := ⟨h, hL, hG⟩
  have HSM : Hid (∀ W, Below M w W → Src W a (cellsP L)) := fun W hW => by
    rcases h with h | ⟨b, o, rfl, hc⟩
    · exact .inl h
    · refine .inr ⟨b, o, rfl, fun j hj => ?_⟩
      have hb : b < M := ha _ rfl
      rw [World.cell?_of_block (a := ⟨b, o + j, none⟩) (hW.block b hb)]
      exact hc j hj
  clear hD hV hN hf hkk hat hx hxg hxv hgx hop HAF hS A0 hgx2 hxn hxv2 hml h hL hG
  have hfl : ∀ W, (Instr.field 26 (.agg #[.string xn, .int .i64 xv, .int .i64 gx, .slice ax ml cx]) 2).run Tryz.prog W = .ok (.int .i64 gx) W := fun W => by
    kernel_rfl
  go_enter Tryz.func69, Tryz.ntmps69
  go_wp2_with fail
  refine CT.mono ?_
  rintro e w1 ⟨rfl, hb1⟩
  have X1 : Hid (Box w1 w.heap.size [.int .i64 x0, .int .i64 fl, .string t]) := X0.out.below hb1
  have B1 : Hid (Below w.heap.size w w1) := HA0.out.trans (hb1.mono HA0.out.size)
  have CA1 := CA w1 B1.out
  obtain ⟨e0', _⟩ := X1.out 0 _ rfl
  obtain ⟨e1', _⟩ := X1.out 1 _ rfl
  obtain ⟨e2', _⟩ := X1.out 2 _ rfl
  clear hb1 CT CA
  go_wp2_with fail
  refine CA1.mono ?_
  rintro e w2 ⟨rfl, hst2, hb2⟩
  have B2 : Hid (Below M w w2) := (B1.out.mono (by omega)).trans hb2
  have Z2 : Hid (w.heap.size ≤ w2.heap.size) := B2.out.size
  have HST2 : Hid (StAt w2 M a n c nx u S' (k + 1)) := hst2
  clear hst2 hb2 CA1 e0' e1' e2'
  by_cases hq : q = 0
  · subst hq
    obtain ⟨k3, Y, k4, k5, k6, k7⟩ := HOF.out.2 rfl
    rw [HA.out] at k7
    by_cases h60 : 60 < Y.length
    · rw [if_pos h60] at k7
      obtain ⟨rfl, rfl, rfl⟩ : R = L ∧ q1 = 0 ∧ q2 = 7 := by cases k7; exact ⟨rfl, rfl, rfl⟩
      have CE := doneOk w2 M a n c nx u S' (k + 1) HST2.out hu n0 n1 k3 (by omega) (HS.out.2.2.below h8 B2.out) h8 Y k4 k5 _ rfl k6 R HS.out.2.1 hn60 (HSM.out w2 B2.out) R 7 (by show _ = _; rw [if_pos h60])
      clear k3 k4 k5 k6 k7 HOF
      go_wp2_with fail
      refine CE.mono ?_
      rintro e w6 ⟨v6, rfl, ho6, hb6⟩
      obtain ⟨a6, c6, rfl, _, _⟩ := own_src ho6
      have HF : Hid (w6.ownsRow w.heap.size 59 2 (.slice a6 R.length c6) R.length (cellsP R) ∧ Below M w w6) := ⟨own_mono ho6 Z2.out, B2.out.trans (hb6.mono (by have := Z2.out; omega))⟩
      clear CE ho6 hb6
      go_wp2_with fail
      exact bodyPost_ret (v := .tuple #[.slice a6 R.length c6, .int .i64 0, .int .i64 7]) (by simp [results, Tryz.results69, go_sem]) rfl ⟨_, rfl, HF.out⟩
    · rw [if_neg h60] at k7
      obtain ⟨rfl, rfl, rfl⟩ : R = Y ∧ q1 = gx ∧ q2 = 0 := by cases k7; exact ⟨rfl, rfl, rfl⟩
      have CE := doneOk w2 M a n c nx u S' (k + 1) HST2.out hu n0 n1 k3 (by omega) (HS.out.2.2.below h8 B2.out) h8 R k4 k5 _ rfl k6 L HS.out.2.1 hn60 (HSM.out w2 B2.out) R 0 (by show _ = _; rw [if_neg h60])
      clear k3 k4 k5 k6 k7 HOF
      go_wp2_with fail
      refine CE.mono ?_
      rintro e w6 ⟨v6, rfl, ho6, hb6⟩
      obtain ⟨a6, c6, rfl, _, _⟩ := own_src ho6
      have HF : Hid (w6.ownsRow w.heap.size 59 2 (.slice a6 R.length c6) R.length (cellsP R) ∧ Below M w w6) := ⟨own_mono ho6 Z2.out, B2.out.trans (hb6.mono (by have := Z2.out; omega))⟩
      clear CE ho6 hb6
      go_wp2_with fail
      exact bodyPost_ret (v := .tuple #[.slice a6 R.length c6, .int .i64 q1, .int .i64 0]) (by simp [results, Tryz.results69, go_sem]) rfl ⟨_, rfl, HF.out⟩
  · have k7 := HOF.out.1 hq
    rw [HA.out] at k7
    obtain ⟨hk1, hk2, hk3⟩ : R = L ∧ 0 = q1 ∧ q = q2 := by cases k7; exact ⟨rfl, rfl, rfl⟩
    have e0c : w2.cell? ⟨M + 1, 0, none⟩ = some (.slice a n c) := by
      obtain ⟨_, _, hD, _⟩ := HST2.out
      exact (hD.1 0 _ rfl).1
    have CE := doneBad q hq w2 M a n c L HS.out.2.1 hn60 e0c (HSM.out w2 B2.out)
    have HK : Hid (R = L ∧ 0 = q1 ∧ q = q2) := ⟨hk1, hk2, hk3⟩
    have hqi : (q != 0) = true := by simpa using hq
    clear k7 HOF hk1 hk2 hk3 e0c
    go_wp2_with fail
    refine CE.mono ?_
    rintro e w6 ⟨v6, rfl, ho6, hb6⟩
    obtain ⟨a6, c6, rfl, _, _⟩ := own_src ho6
    have HF : Hid (w6.ownsRow w.heap.size 59 2 (.slice a6 n c6) R.length (cellsP R) ∧ Below M w w6) := ⟨by rw [HK.out.1, HS.out.2.1]; exact own_mono ho6 Z2.out, B2.out.trans (hb6.mono (by have := Z2.out; omega))⟩
    have HK2 : Hid (0 = q1 ∧ q = q2) := HK.out.2
    clear CE ho6 hb6
    go_wp2_with fail
    exact bodyPost_ret (v := .tuple #[.slice a6 n c6, .int .i64 0, .int .i64 q]) (by simp [results, Tryz.results69, go_sem]) rfl ⟨_, by rw [HK2.out.1, HK2.out.2], HF.out⟩
theorem lack_known {L : List PM} {u f : ByteArray} {S : SM} (h : storeB L = true) (hus : (47 : UInt8) ∉ u.data.toList) (hfs : (47 : UInt8) ∉ f.data.toList) (hS : takeAll (nextM L) u S0 L = some S) : lackM S.word S.fs [f] = knownR L u f := by
  obtain ⟨hwi, _⟩ := word_iff h hus hS
  obtain ⟨hli, _⟩ := look_iff h hus hS hfs
  unfold lackM knownR
  by_cases hw : S.word.toList = []
  · rw [if_pos hw, hwi.1 hw]
    rfl
  · have hs : (getM L (userK u)).isSome = true := by
      cases hv : getM L (userK u) with
      | none => exact absurd (hwi.2 hv) hw
      | some v => rfl
    have hall : [f].all (fun s => (lookF s S.fs).isSome) = (lookF f S.fs).isSome := by simp
    rw [if_neg hw, hs, hall, hli]
    rfl
theorem known_zero {L : List PM} {u f : ByteArray} {S : SM} (h : storeB L = true) (hus : (47 : UInt8) ∉ u.data.toList) (hfs : (47 : UInt8) ∉ f.data.toList) (hS : takeAll (nextM L) u S0 L = some S) (hk : knownR L u f = 0) : S.word.toList ≠ [] ∧ ∃ g, lookF f S.fs = some g := by
  rw [← lack_known h hus hfs hS] at hk
  unfold lackM at hk
  split at hk
  · cases hk
  · rename_i hw
    split at hk
    · cases hk
    · rename_i hb
      refine ⟨hw, Option.isSome_iff_exists.1 ?_⟩
      cases h9 : (lookF f S.fs).isSome with
      | true => rfl
      | false => exact absurd (by show ((lookF f S.fs).isSome && true) = false; rw [h9]; rfl) hb
def flagB (fl : Int) : Bool := decide (0 ≤ fl) && decide (fl ≤ 3)
def amR (L : List PM) (u f t : ByteArray) (fl : Int) : List PM × Int × Int :=
  if 65536 < t.size then ([], 0, 2) else if askM L [u, f] ≠ 0 then ([], 0, askM L [u, f]) else if 85 < t.size ∨ flagB fl = false then ([], 0, 4) else appR L u f t fl
theorem am_bad {L : List PM} {u f t : ByteArray} {fl : Int} {R : List PM} {q1 q2 : Int} (h : amR L u f t fl = (R, q1, q2)) (h1 : 65536 < t.size ∨ askM L [u, f] = 2) : [] = R ∧ 0 = q1 ∧ 2 = q2 := by
  unfold amR at h
  by_cases e : 65536 < t.size
  · rw [if_pos e] at h
    cases h
    exact ⟨rfl, rfl, rfl⟩
  · rcases h1 with h1 | h1
    · exact absurd h1 e
    · rw [if_neg e, if_pos (by rw [h1]; decide), h1] at h
      cases h
      exact ⟨rfl, rfl, rfl⟩
theorem app_small {L : List PM} (hg : GoodL L) (u f t : ByteArray) (fl : Int) : (appR L u f t fl).1.length ≤ 4000 := by
  have h1 := hg.1
  have h2 := (app_len hg u f t fl).1
  unfold appR
  split
  · show L.length ≤ 4000; omega
  · split
    · show L.length ≤ 4000; omega
    · split
      · show L.length ≤ 4000; omega
      · split
        · show L.length ≤ 4000; omega
        · show (appY L u f t fl).length ≤ 4000; omega
theorem l01InS (n lo hi : Int) (b : Bool) (w : World) (h : (decide (lo ≤ n) && decide (n ≤ hi)) = b) : Calls Tryz.prog 65 #[.int .i64 n, .int .i64 lo, .int .i64 hi] w fun e w' => e = .returned (.bool b) ∧ w' = w := by
  by_cases h1 : lo ≤ n
  · by_cases h2 : n ≤ hi
    · obtain rfl : true = b := by rw [← h, decide_eq_true h1, decide_eq_true h2]; rfl
      clear h
      go_enter Tryz.func65, Tryz.ntmps65
      go_wp2_with fail
      go_ret
      exact ⟨rfl, rfl⟩
    · obtain rfl : false = b := by rw [← h, decide_eq_false h2]; simp
      clear h
      go_enter Tryz.func65, Tryz.ntmps65
      go_wp2_with fail
      go_ret
      exact ⟨rfl, rfl⟩
  · obtain rfl : false = b := by rw [← h, decide_eq_false h1]; rfl
    clear h
    go_enter Tryz.func65, Tryz.ntmps65
    go_wp2_with fail
    go_ret
    exact ⟨rfl, rfl⟩
set_option maxHeartbeats 4000000 in
theorem specAppendMail (a : Option Addr) (n c : Nat) (L : List PM) (x y t : ByteArray) (fl : Int) (w : World) (hL : L.length = n) (hn : n ≤ 1048576) (hc : n ≤ c) (hc9 : c ≤ maxLen) (hs : ∀ x ∈ L, x.1.size ≤ 1048576 ∧ x.2.size ≤ 1048576) (h : Src w a (cellsP L)) (hx : x.size ≤ 1048576) (hy : y.size ≤ 1048576) (ht : t.size ≤ 1048576) (R : List PM) (Q1 Q2 : Int) (HQ : Hid (amR L x y t fl = (R, Q1, Q2))) :
    Calls Tryz.prog 30 #[.slice a n c, .string x, .string y, .string t, .int .i64 fl] w fun e w' => ∃ v, e = .returned (.tuple #[v, .int .i64 Q1, .int .i64 Q2]) ∧ w'.ownsRow w.heap.size 59 2 v R.length (cellsP R) ∧ Below w.heap.size w w' := by
  have HLN : Hid (L.length = n) := hL
  have HS : Hid (Src w a (cellsP L)) := h
  have AL : Hid (Below w.heap.size w (w.alloc (.cells #[.string x, .string y] 9))) := (Below.refl _ _).alloc (Nat.le_refl _) _
  obtain ⟨q, hq⟩ : ∃ q, askM L [x, y] = q := ⟨_, rfl⟩
  have HQQ : Hid (askM L [x, y] = q) := hq
  have CA := l07AskS a n c L (some ⟨w.heap.size, 0, none⟩) 2 2 [x, y] (w.alloc (.cells #[.string x, .string y] 9)) hL hn hs (HS.out.below AL.out) rfl (by omega) (fun s hs => by
    rcases List.mem_cons.1 hs with rfl | hs
    · exact hx
    · rw [List.mem_singleton.1 hs]; exact hy) (src_2S rfl) q hq
  have EM : Hid (∀ W, Below w.heap.size w W → (W.alloc (.cells #[] 59)).ownsRow w.heap.size 59 2 (.slice (some ⟨W.heap.size, 0, none⟩) 0 0) ([] : List PM).length (cellsP []) ∧ Below w.heap.size w (W.alloc (.cells #[] 59))) := fun W hW => ⟨own_empty rfl hW.size, hW.alloc hW.size _⟩
  have EM0 := EM.out w (Below.refl _ _)
  have HE0 : Hid ((w.alloc (.cells #[] 59)).ownsRow w.heap.size 59 2 (.slice (some ⟨w.heap.size, 0, none⟩) 0 0) ([] : List PM).length (cellsP []) ∧ Below w.heap.size w (w.alloc (.cells #[] 59))) := EM0
  clear hL h hs hq EM0
  by_cases h1 : 4096 < n
  · have h1i : (4096 : Int) < (n : Int) := by omega
    obtain ⟨rfl, rfl, rfl⟩ := am_bad HQ.out (.inr (by unfold askM; rw [if_pos (.inl (by rw [HLN.out]; exact h1))]))
    go_enter Tryz.func30, Tryz.ntmps30
    go_wp2_with fail
    exact bodyPost_ret (v := .tuple #[.slice (some ⟨w.heap.size, 0, none⟩) 0 0, .int .i64 0, .int .i64 2]) (by simp [results, Tryz.results30, go_sem]) rfl ⟨_, rfl, HE0.out⟩
  have h1i : ¬ (4096 : Int) < (n : Int) := by omega
  by_cases h2 : 65536 < x.size
  · have h2i : (65536 : Int) < (x.size : Int) := by omega
    obtain ⟨rfl, rfl, rfl⟩ := am_bad HQ.out (.inr (by
      unfold askM
      rw [if_pos (.inr (by show (smallT x && _) = false; rw [show smallT x = false from decide_eq_false (by omega)]; rfl))]))
    go_enter Tryz.func30, Tryz.ntmps30
    go_wp2_with fail
    exact bodyPost_ret (v := .tuple #[.slice (some ⟨w.heap.size, 0, none⟩) 0 0, .int .i64 0, .int .i64 2]) (by simp [results, Tryz.results30, go_sem]) rfl ⟨_, rfl, HE0.out⟩
  have h2i : ¬ (65536 : Int) < (x.size : Int) := by omega
  by_cases h3 : 65536 < y.size
  · have h3i : (65536 : Int) < (y.size : Int) := by omega
    obtain ⟨rfl, rfl, rfl⟩ := am_bad HQ.out (.inr (by
      unfold askM
      rw [if_pos (.inr (by show (smallT x && (smallT y && true)) = false; rw [show smallT y = false from decide_eq_false (by omega)]; simp))]))
    go_enter Tryz.func30, Tryz.ntmps30
    go_wp2_with fail
    exact bodyPost_ret (v := .tuple #[.slice (some ⟨w.heap.size, 0, none⟩) 0 0, .int .i64 0, .int .i64 2]) (by simp [results, Tryz.results30, go_sem]) rfl ⟨_, rfl, HE0.out⟩
  have h3i : ¬ (65536 : Int) < (y.size : Int) := by omega
  by_cases h4 : 65536 < t.size
  · have h4i : (65536 : Int) < (t.size : Int) := by omega
    obtain ⟨rfl, rfl, rfl⟩ := am_bad HQ.out (.inl h4)
    go_enter Tryz.func30, Tryz.ntmps30
    go_wp2_with fail
    exact bodyPost_ret (v := .tuple #[.slice (some ⟨w.heap.size, 0, none⟩) 0 0, .int .i64 0, .int .i64 2]) (by simp [results, Tryz.results30, go_sem]) rfl ⟨_, rfl, HE0.out⟩
  have h4i : ¬ (65536 : Int) < (t.size : Int) := by omega
  have HQ1 := HQ.out
  unfold amR at HQ1
  rw [if_neg h4, HQQ.out] at HQ1
  by_cases hq0 : q = 0
  · subst hq0
    rw [if_neg (by decide)] at HQ1
    obtain ⟨hst, hsx, hsy⟩ := ask_zero2 HQQ.out
    have hgl := (store_facts hst).1
    obtain ⟨b, o, rfl⟩ := store_src hst HS.out
    have zx := short_size' hsx
    have zy := short_size' hsy
    by_cases h5 : 85 < t.size
    · have h5i : (85 : Int) < (t.size : Int) := by omega
      rw [if_pos (.inl h5)] at HQ1
      obtain ⟨rfl, rfl, rfl⟩ : [] = R ∧ 0 = Q1 ∧ 4 = Q2 := by cases HQ1; exact ⟨rfl, rfl, rfl⟩
      clear HQ1 HQ hst hsx hsy hgl
      go_enter Tryz.func30, Tryz.ntmps30
      go_wp2_with fail
      refine CA.mono ?_
      rintro e w3 ⟨rfl, hb3⟩
      have B3 : Hid (Below w.heap.size w w3) := AL.out.trans (hb3.mono AL.out.size)
      have HE3 : Hid ((w3.alloc (.cells #[] 59)).ownsRow w.heap.size 59 2 (.slice (some ⟨w3.heap.size, 0, none⟩) 0 0) ([] : List PM).length (cellsP []) ∧ Below w.heap.size w (w3.alloc (.cells #[] 59))) := EM.out w3 B3.out
      clear hb3 CA
      go_wp2_with fail
      exact bodyPost_ret (v := .tuple #[.slice (some ⟨w3.heap.size, 0, none⟩) 0 0, .int .i64 0, .int .i64 4]) (by simp [results, Tryz.results30, go_sem]) rfl ⟨_, rfl, HE3.out⟩
    have h5i : ¬ (85 : Int) < (t.size : Int) := by omega
    cases hfb : flagB fl with
    | false =>
      rw [if_pos (.inr hfb)] at HQ1
      obtain ⟨rfl, rfl, rfl⟩ : [] = R ∧ 0 = Q1 ∧ 4 = Q2 := by cases HQ1; exact ⟨rfl, rfl, rfl⟩
      have CI := fun W => l01InS fl 0 3 false W hfb
      clear HQ1 HQ hst hsx hsy hgl
      go_enter Tryz.func30, Tryz.ntmps30
      go_wp2_with fail
      refine CA.mono ?_
      rintro e w3 ⟨rfl, hb3⟩
      have B3 : Hid (Below w.heap.size w w3) := AL.out.trans (hb3.mono AL.out.size)
      have HE3 : Hid ((w3.alloc (.cells #[] 59)).ownsRow w.heap.size 59 2 (.slice (some ⟨w3.heap.size, 0, none⟩) 0 0) ([] : List PM).length (cellsP []) ∧ Below w.heap.size w (w3.alloc (.cells #[] 59))) := EM.out w3 B3.out
      clear hb3 CA
      go_wp2_with fail
      refine (CI _).mono ?_
      rintro e w4 ⟨rfl, hw4⟩
      obtain rfl := hw4
      go_wp2_with fail
      exact bodyPost_ret (v := .tuple #[.slice (some ⟨w4.heap.size, 0, none⟩) 0 0, .int .i64 0, .int .i64 4]) (by simp [results, Tryz.results30, go_sem]) rfl ⟨_, rfl, HE3.out⟩
    | true =>
      rw [if_neg (by rintro (h9 | h9); exact h5 h9; rw [hfb] at h9; cases h9)] at HQ1
      have hfr : 0 ≤ fl ∧ fl ≤ 3 := by
        have h9 := hfb
        unfold flagB at h9
        simpa using h9
      have CI := fun W => l01InS fl 0 3 true W hfb
      have CP := fun W (hW : Below w.heap.size w W) => l07AppendS b o n c L HLN.out hc hc9 hgl x y t fl zx zy (by omega) hfr.1 hfr.2 W (HS.out.below hW) R Q1 Q2 HQ1
      have hln : R.length ≤ 4000 := by
        have h9 := app_small hgl x y t fl
        rw [HQ1] at h9
        exact h9
      clear HQ1 HQ hst hsx hsy hgl hfb
      go_enter Tryz.func30, Tryz.ntmps30
      go_wp2_with fail
      refine CA.mono ?_
      rintro e w3 ⟨rfl, hb3⟩
      have B3 : Hid (Below w.heap.size w w3) := AL.out.trans (hb3.mono AL.out.size)
      clear hb3 CA
      go_wp2_with fail
      refine (CI _).mono ?_
      rintro e w4 ⟨rfl, hw4⟩
      obtain rfl := hw4
      have CP4 := CP w4 B3.out
      clear CP CI
      go_wp2_with fail
      refine CP4.mono ?_
      rintro e w5 ⟨a5, n5, c5, rfl, k1, k2, hb5⟩
      have B5 : Hid (Below w.heap.size w w5) := B3.out.trans (hb5.mono B3.out.size)
      have CO := l07OwnS a5 n5 c5 R w5 k1 (by omega) k2
      have HN5 : Hid (R.length = n5) := k1
      clear hb5 CP4 k1 k2
      go_wp2_with fail
      refine CO.mono ?_
      rintro e w6 ⟨v6, rfl, ho6, hb6⟩
      obtain ⟨a6, c6, rfl, _, _⟩ := own_src ho6
      have HF : Hid (w6.ownsRow w.heap.size 59 2 (.slice a6 n5 c6) R.length (cellsP R) ∧ Below w.heap.size w w6) := ⟨by rw [HN5.out]; exact own_mono ho6 B5.out.size, B5.out.trans (hb6.mono B5.out.size)⟩
      clear ho6 hb6 CO
      go_wp2_with fail
      exact bodyPost_ret (v := .tuple #[.slice a6 n5 c6, .int .i64 Q1, .int .i64 Q2]) (by simp [results, Tryz.results30, go_sem]) rfl ⟨_, rfl, HF.out⟩
  · rw [if_pos hq0] at HQ1
    obtain ⟨rfl, rfl, rfl⟩ : [] = R ∧ 0 = Q1 ∧ q = Q2 := by cases HQ1; exact ⟨rfl, rfl, rfl⟩
    have hqi : (q != 0) = true := by simpa using hq0
    clear HQ1 HQ
    go_enter Tryz.func30, Tryz.ntmps30
    go_wp2_with fail
    refine CA.mono ?_
    rintro e w3 ⟨rfl, hb3⟩
    have B3 : Hid (Below w.heap.size w w3) := AL.out.trans (hb3.mono AL.out.size)
    have HE3 : Hid ((w3.alloc (.cells #[] 59)).ownsRow w.heap.size 59 2 (.slice (some ⟨w3.heap.size, 0, none⟩) 0 0) ([] : List PM).length (cellsP []) ∧ Below w.heap.size w (w3.alloc (.cells #[] 59))) := EM.out w3 B3.out
    clear hb3 CA
    go_wp2_with fail
    exact bodyPost_ret (v := .tuple #[.slice (some ⟨w3.heap.size, 0, none⟩) 0 0, .int .i64 0, .int .i64 q]) (by simp [results, Tryz.results30, go_sem]) rfl ⟨_, rfl, HE3.out⟩
set_option maxHeartbeats 4000000 in
theorem implAppendMail (a : Option Addr) (n c : Nat) (L : List PM) (x y t : ByteArray) (fl : Int) (w : World) (hL : L.length = n) (hn : n ≤ 1048576) (hs : ∀ x ∈ L, x.1.size ≤ 1048576 ∧ x.2.size ≤ 1048576) (h : Src w a (cellsP L)) (hx : x.size ≤ 1048576) (hy : y.size ≤ 1048576) (ht : t.size ≤ 1048576) (hG : Gl w) (h8 : 8 ≤ w.heap.size) (R : List PM) (Q1 Q2 : Int) (HQ : Hid (amR L x y t fl = (R, Q1, Q2))) :
    Calls Tryz.prog 31 #[.slice a n c, .string x, .string y, .string t, .int .i64 fl] w fun e w' => ∃ v, e = .returned (.tuple #[v, .int .i64 Q1, .int .i64 Q2]) ∧ w'.ownsRow w.heap.size 59 2 v R.length (cellsP R) ∧ Below w.heap.size w w' := by
  have HLN : Hid (L.length = n) := hL
  have HS : Hid (Src w a (cellsP L)) := h
  have HG : Hid (Gl w) := hG
  by_cases h4 : 65536 < t.size
  · have h4i : (65536 : Int) < (t.size : Int) := by omega
    obtain ⟨rfl, rfl, rfl⟩ := am_bad HQ.out (.inl h4)
    clear hL h hs hG HQ
    go_enter Tryz.func31, Tryz.ntmps31
    go_wp2_with fail
    exact bodyPost_ret (v := .tuple #[.slice none 0 0, .int .i64 0, .int .i64 2]) (by simp [results, Tryz.results31, go_sem]) rfl ⟨_, rfl, World.ownsRow_nil _ _ _ _, Below.refl _ _⟩
  have h4i : ¬ (65536 : Int) < (t.size : Int) := by omega
  have AL : Hid (Below w.heap.size w (w.alloc (.cells #[.string x, .string y] 9))) := (Below.refl _ _).alloc (Nat.le_refl _) _
  obtain ⟨q, hq⟩ : ∃ q, askM L [x, y] = q := ⟨_, rfl⟩
  have HQQ : Hid (askM L [x, y] = q) := hq
  have CA := mailFaultI a n c L (some ⟨w.heap.size, 0, none⟩) 2 2 [x, y] (w.alloc (.cells #[.string x, .string y] 9)) hL hn hs (HS.out.below AL.out) rfl (by omega) (fun s hs => by
    rcases List.mem_cons.1 hs with rfl | hs
    · exact hx
    · rw [List.mem_singleton.1 hs]; exact hy) (src_2S rfl) (hG.below h8 AL.out) (by have := AL.out.size; omega) q hq
  have HQ1 := HQ.out
  unfold amR at HQ1
  rw [if_neg h4, HQQ.out] at HQ1
  clear hL h hs hq HQ hG
  by_cases hq0 : q = 0
  · subst hq0
    rw [if_neg (by decide)] at HQ1
    obtain ⟨hst, hsx, hsy⟩ := ask_zero2 HQQ.out
    have hus := word_slash hsx
    have hfs := word_slash hsy
    have hu8 := short_size hsx
    have hy8 := short_size hsy
    obtain ⟨hgl, nx0, hnm, n1, n2, _⟩ := store_facts hst
    rw [hnm] at n1 n2
    have hn60 := hgl.1
    rw [HLN.out] at hn60
    by_cases h5 : 85 < t.size
    · have h5i : (85 : Int) < (t.size : Int) := by omega
      rw [if_pos (.inl h5)] at HQ1
      obtain ⟨rfl, rfl, rfl⟩ : [] = R ∧ 0 = Q1 ∧ 4 = Q2 := by cases HQ1; exact ⟨rfl, rfl, rfl⟩
      clear HQ1 hst hsx hsy hgl hnm n1 n2
      go_enter Tryz.func31, Tryz.ntmps31
      go_wp2_with fail
      refine CA.mono ?_
      rintro e w3 ⟨rfl, hb3⟩
      have B3 : Hid (Below w.heap.size w w3) := AL.out.trans (hb3.mono AL.out.size)
      clear hb3 CA
      go_wp2_with fail
      exact bodyPost_ret (v := .tuple #[.slice none 0 0, .int .i64 0, .int .i64 4]) (by simp [results, Tryz.results31, go_sem]) rfl ⟨_, rfl, World.ownsRow_nil _ _ _ _, B3.out⟩
    have h5i : ¬ (85 : Int) < (t.size : Int) := by omega
    cases hfb : flagB fl with
    | false =>
      rw [if_pos (.inr hfb)] at HQ1
      obtain ⟨rfl, rfl, rfl⟩ : [] = R ∧ 0 = Q1 ∧ 4 = Q2 := by cases HQ1; exact ⟨rfl, rfl, rfl⟩
      have CI := fun W => flagsIs false fl W hfb
      clear HQ1 hst hsx hsy hgl hnm n1 n2 hfb
      go_enter Tryz.func31, Tryz.ntmps31
      go_wp2_with fail
      refine CA.mono ?_
      rintro e w3 ⟨rfl, hb3⟩
      have B3 : Hid (Below w.heap.size w w3) := AL.out.trans (hb3.mono AL.out.size)
      clear hb3 CA
      go_wp2_with fail
      refine (CI _).mono ?_
      rintro e w4 ⟨rfl, hw4⟩
      obtain rfl := hw4
      go_wp2_with fail
      exact bodyPost_ret (v := .tuple #[.slice none 0 0, .int .i64 0, .int .i64 4]) (by simp [results, Tryz.results31, go_sem]) rfl ⟨_, rfl, World.ownsRow_nil _ _ _ _, B3.out⟩
    | true =>
      rw [if_neg (by rintro (h9 | h9); exact h5 h9; rw [hfb] at h9; cases h9)] at HQ1
      have hfr : 0 ≤ fl ∧ fl ≤ 3 := by
        have h9 := hfb
        unfold flagB at h9
        simpa using h9
      have CI := fun W => flagsIs true fl W hfb
      have CD := fun W (hW : Below w.heap.size w W) => deskWithI a n c L x W HLN.out (HS.out.below hW) (HG.out.below h8 hW) (by have := hW.size; omega) hst hus (by omega)
      have HFA : Hid (∀ S, takeAll (nextM L) x S0 L = some S → lackM S.word S.fs [y] = knownR L x y ∧ (knownR L x y = 0 → S.word.toList ≠ [] ∧ ∃ g, lookF y S.fs = some g) ∧ sumF S.fs ≤ 60 ∧ ∀ g, S.word.toList ≠ [] → lookF y S.fs = some g → ∀ q S', apM S g fl t = (q, S') → AppFits L (nextM L) x g.next q S' (appT L x y t fl)) := fun S hS =>
        ⟨lack_known hst hus hfs hS, fun h9 => known_zero hst hus hfs hS h9, by
          rw [sum_count hst hus hS]
          unfold countM
          exact Nat.le_trans (List.length_filter_le _ _) hgl.1, fun g h7 h9 q S' hop => app_fits hst hsx hsy (by omega) hfr.1 hfr.2 hS h7 h9 hop⟩
      have HAR : Hid (appR L x y t fl = (R, Q1, Q2)) := HQ1
      have HBL : Hid (∀ ad, a = some ad → ad.block < w.heap.size) := fun ad e => by
        obtain ⟨b, o, rfl⟩ := store_src hst HS.out
        cases e
        rcases HS.out with h9 | ⟨b', o', e9, hc⟩
        · have h7 := cellsP_length L
          rw [h9] at h7
          have h6 : L = [] := List.eq_nil_of_length_eq_zero (by simp at h7; omega)
          rw [h6] at n1
          have h5' : nextM [] = 0 := rfl
          omega
        · cases e9
          have hl0 : 0 < (cellsP L).length := by
            rw [cellsP_length]
            have : L ≠ [] := fun e => by
              rw [e] at n1
              have h5' : nextM [] = 0 := rfl
              omega
            have := List.length_pos_iff.2 this
            omega
          exact World.block_lt_of_cell? _ _ (hc 0 hl0)
      obtain ⟨nx, hnx⟩ : ∃ z, nextM L = z := ⟨_, rfl⟩
      simp only [hnx] at CD HFA n1 n2
      clear HQ1 hst hsx hsy hgl hnm hfb hnx
      go_enter Tryz.func31, Tryz.ntmps31
      go_wp2_with fail
      refine CA.mono ?_
      rintro e w3 ⟨rfl, hb3⟩
      have B3 : Hid (Below w.heap.size w w3) := AL.out.trans (hb3.mono AL.out.size)
      clear hb3 CA
      go_wp2_with fail
      refine (CI _).mono ?_
      rintro e w4 ⟨rfl, hw4⟩
      obtain rfl := hw4
      clear CI
      go_wp2_with fail
      refine (CD _ B3.out).mono ?_
      rintro e w5 ⟨M, S, rfl, hS, hSt, hM, hb5⟩
      have B5 : Hid (Below w.heap.size w w5) := B3.out.trans (hb5.mono B3.out.size)
      have hM2 : w.heap.size ≤ M := by have h9 := B3.out.size; omega
      obtain ⟨k1, k2, k3, k4⟩ := HFA.out S hS
      have AL5 : Hid (Below w5.heap.size w5 (w5.alloc (.cells #[.string y] 9))) := (Below.refl _ _).alloc (Nat.le_refl _) _
      have CL := lacksI (w5.alloc (.cells #[.string y] 9)) M a n c nx x S n (hSt.later AL5.out) (by omega) (some ⟨w5.heap.size, 0, none⟩) 1 1 [y] rfl (by omega) (fun s hs => by rw [List.mem_singleton.1 hs]; omega) (src_1S rfl) _ k1
      have HST5 : Hid (StAt w5 M a n c nx x S n) := hSt
      have hMw : M + 1 < w5.heap.size := by
        obtain ⟨_, _, hD, _⟩ := hSt
        exact World.block_lt_of_cell? _ _ (hD.1 0 _ rfl).1
      have HK : Hid ((knownR L x y = 0 → S.word.toList ≠ [] ∧ ∃ g, lookF y S.fs = some g) ∧ sumF S.fs ≤ 60 ∧ ∀ g, S.word.toList ≠ [] → lookF y S.fs = some g → ∀ q S', apM S g fl t = (q, S') → AppFits L nx x g.next q S' (appT L x y t fl)) := ⟨k2, k3, k4⟩
      obtain ⟨kk, hkk⟩ : ∃ z, knownR L x y = z := ⟨_, rfl⟩
      rw [hkk] at CL HK
      have HKK : Hid (knownR L x y = kk) := hkk
      clear hS hSt hb5 CD k1 k2 k3 k4 HFA hkk
      go_wp2_with fail
      refine CL.mono ?_
      rintro e w6 ⟨rfl, hb6⟩
      have R6 : Hid (Below w5.heap.size w5 w6) := AL5.out.trans (hb6.mono AL5.out.size)
      have B6 : Hid (Below w.heap.size w w6) := B5.out.trans (R6.out.mono B5.out.size)
      clear hb6 CL
      by_cases hk0 : kk = 0
      · subst hk0
        obtain ⟨hw, g, hl⟩ := HK.out.1 rfl
        have CE := appendedI w6 M a n c nx x S n (HST5.out.later R6.out) y g hl (by omega) (by omega) 0 fl t HK.out.2.1 (by omega) (by omega) n2 L HLN.out hn60 (HS.out.below B6.out) (HG.out.below h8 B6.out) (by omega) (fun ad e => by have h9 := HBL.out ad e; omega) (appT L x y t fl) (HK.out.2.2 g hw hl) R Q1 Q2 (by show _ = _; rw [← appR_T HKK.out]; exact HAR.out)
        clear HK hw hl
        go_wp2_with fail
        refine CE.mono ?_
        rintro e w7 ⟨v7, rfl, ho7, hb7⟩
        obtain ⟨a7, c7, rfl, _, _⟩ := own_src ho7
        have HF : Hid (w7.ownsRow w.heap.size 59 2 (.slice a7 R.length c7) R.length (cellsP R) ∧ Below w.heap.size w w7) := ⟨own_mono ho7 B6.out.size, B6.out.trans (hb7.mono hM2)⟩
        clear CE ho7 hb7
        go_wp2_with fail
        exact bodyPost_ret (v := .tuple #[.slice a7 R.length c7, .int .i64 Q1, .int .i64 Q2]) (by simp [results, Tryz.results31, go_sem]) rfl ⟨_, rfl, HF.out⟩
      · have hki : (kk != 0) = true := by simpa using hk0
        obtain ⟨hR, hq1, hq2⟩ : R = L ∧ 0 = Q1 ∧ kk = Q2 := by
          have h9 := HAR.out
          unfold appR at h9
          rw [HKK.out, if_pos hk0] at h9
          cases h9
          exact ⟨rfl, rfl, rfl⟩
        have CC := copyListI a n c L w6 HLN.out (by omega) (HS.out.below B6.out)
        have HRR : Hid (R = L ∧ 0 = Q1 ∧ kk = Q2) := ⟨hR, hq1, hq2⟩
        clear HK hR hq1 hq2
        go_wp2_with fail
        refine CC.mono ?_
        rintro e w7 ⟨v7, rfl, ho7, hb7⟩
        obtain ⟨a7, c7, rfl, _, _⟩ := own_src ho7
        have HF : Hid (w7.ownsRow w.heap.size 59 2 (.slice a7 n c7) R.length (cellsP R) ∧ Below w.heap.size w w7) := ⟨by rw [HRR.out.1, HLN.out]; exact own_mono ho7 B6.out.size, B6.out.trans (hb7.mono B6.out.size)⟩
        have HR2 : Hid (0 = Q1 ∧ kk = Q2) := HRR.out.2
        clear CC ho7 hb7
        go_wp2_with fail
        exact bodyPost_ret (v := .tuple #[.slice a7 n c7, .int .i64 0, .int .i64 kk]) (by simp [results, Tryz.results31, go_sem]) rfl ⟨_, by rw [HR2.out.1, HR2.out.2], HF.out⟩
  · rw [if_pos hq0] at HQ1
    obtain ⟨rfl, rfl, rfl⟩ : [] = R ∧ 0 = Q1 ∧ q = Q2 := by cases HQ1; exact ⟨rfl, rfl, rfl⟩
    have hqi : (q != 0) = true := by simpa using hq0
    clear HQ1
    go_enter Tryz.func31, Tryz.ntmps31
    go_wp2_with fail
    refine CA.mono ?_
    rintro e w3 ⟨rfl, hb3⟩
    have B3 : Hid (Below w.heap.size w w3) := AL.out.trans (hb3.mono AL.out.size)
    clear hb3 CA
    go_wp2_with fail
    exact bodyPost_ret (v := .tuple #[.slice none 0 0, .int .i64 0, .int .i64 q]) (by simp [results, Tryz.results31, go_sem]) rfl ⟨_, rfl, World.ownsRow_nil _ _ _ _, B3.out⟩
end Go.Proofs.YthejpemiaenfpaaGreatDoor
namespace Go.Proofs.YthejpemiaenfpaaGreatDoor
open Go.ChangeShapes Go.WideShapes Go.ChangeAt Go.RowKit Go.Deep Go.Lib
set_option linter.unusedVariables false
set_option linter.unusedSimpArgs false
set_option maxRecDepth 100000

set_option maxHeartbeats 1000000 in
theorem place1I (x y : Int) (t : ByteArray) (un : Int) (B : Nat) (w : World) (hB : Box w B [.int .i64 un]) (bb : Bool) (hb : (x == un) = bb) :
    Calls Tryz.prog 113 #[.agg #[.int .i64 x, .int .i64 y, .string t], .pointer (some ⟨B, 0, none⟩)] w fun e w' => e = .returned (.bool bb) ∧ Below w.heap.size w w' := by
  have c0 := (hB.below ((Below.refl _ _).alloc (Nat.le_refl _) (.cells #[.int .i64 x, .int .i64 y, .string t] 78)) 0 _ rfl).1
  clear hB
  go_enter Tryz.func113, Tryz.ntmps113
  go_wp2_with fail
  go_ret
  exact ⟨rfl, (Below.refl _ _).alloc (Nat.le_refl _) _⟩
/-- Where a uid is first. -/
def PlaceIs (Ms : List MMl) (un at' : Int) : Prop := (∃ i : Nat, i < Ms.length ∧ at' = (i : Int) ∧ (Ms.getD i ml0).1 = un) ∨ (at' = -1 ∧ ∀ m ∈ Ms, m.1 ≠ un)
set_option maxHeartbeats 2000000 in
theorem indexMailsI (a : Option Addr) (n c : Nat) (Ms : List MMl) (un : Int) (B : Nat) (w : World) (hL : Ms.length = n) (hn : n ≤ 1000) (hB : Box w B [.int .i64 un]) (h : Src w a (cellsMl Ms)) :
    Calls Tryz.prog 106 #[.slice a n c, .func (.func 113) #[] #[.pointer (some ⟨B, 0, none⟩)]] w fun e w' => ∃ i, e = .returned (.int .i64 i) ∧ PlaceIs Ms un i ∧ -1 ≤ i ∧ Below w.heap.size w w' := by
  have HH : Hid (Src w a (cellsMl Ms)) := h
  have HL : Hid (Ms.length = n) := hL
  have HC : ∀ (x y : Int) (t : ByteArray) (W : World) (bb : Bool), Below w.heap.size w W → (x == un) = bb → Calls Tryz.prog 113 #[.agg #[.int .i64 x, .int .i64 y, .string t], .pointer (some ⟨B, 0, none⟩)] W fun e w' => e = .returned (.bool bb) ∧ Below W.heap.size W w' := fun x y t W bb hW hb => place1I x y t un B W (hB.below hW) bb hb
  clear h hL hB
  go_enter Tryz.func106, Tryz.ntmps106
  go_wp2_with fail
  go_loopw [8] (fun i wr => ∃ k : Nat, k ≤ n ∧ i = .int .i64 (k : Int) ∧ Hid (∀ j, j < k → (Ms.getD j ml0).1 ≠ un) ∧ Hid (Below w.heap.size w wr)) (fun i _ => n - (RowKit.intOf i).toNat)
  case atStart => exact ⟨0, by omega, rfl, fun j hj => absurd hj (by omega), Below.refl _ _⟩
  case round =>
    obtain ⟨k, hk, rfl, hno, hb⟩ := hrel
    by_cases hlt : k < n
    · have hlti : (k : Int) < (n : Int) := by omega
      have hkL : k < Ms.length := by rw [HL.out]; exact hlt
      obtain ⟨b, q, x, y, t, rfl, hc0, hc1, hc2, hy⟩ := srcMl (HH.out.below hb.out) hkL
      cases hbb : (x == un) with
      | true =>
        have HP : Hid (PlaceIs Ms un (k : Int) ∧ (-1 : Int) ≤ (k : Int)) := ⟨.inl ⟨k, hkL, rfl, by rw [hy.out]; exact eq_of_beq hbb⟩, by omega⟩
        have C1 := HC x y t wr true hb.out hbb
        clear hy hbb HC
        go_wp2_with fail
        refine C1.mono ?_
        rintro e w5 ⟨rfl, hb5⟩
        have B5 : Hid (Below w.heap.size w w5) := hb.out.trans (hb5.mono hb.out.size)
        clear hb5 C1
        go_wp2_with fail
        go_ret
        exact ⟨_, rfl, HP.out.1, HP.out.2, B5.out⟩
      | false =>
        have HN : Hid (∀ j, j < k + 1 → (Ms.getD j ml0).1 ≠ un) := fun j hj => by
          by_cases e : j = k
          · rw [e, hy.out]
            exact fun h9 => by
              have h8 : (x == un) = true := by rw [show x = un from h9]; simp
              rw [hbb] at h8
              cases h8
          · exact hno.out j (by omega)
        have C1 := HC x y t wr false hb.out hbb
        clear hy hbb
        go_wp2_with fail
        refine C1.mono ?_
        rintro e w5 ⟨rfl, hb5⟩
        have B5 : Hid (Below w.heap.size w w5) := hb.out.trans (hb5.mono hb.out.size)
        clear hb5 C1
        go_wp2_with fail
        exact ⟨⟨k + 1, by omega, by go_num, HN.out, B5.out⟩, by simp [RowKit.intOf]; omega⟩
    · obtain rfl : k = n := by omega
      have hlti : ¬ (k : Int) < (k : Int) := by omega
      have HP : Hid (PlaceIs Ms un (-1)) := .inr ⟨rfl, fun m hm => by
        obtain ⟨j, hj, rfl⟩ := List.mem_iff_getElem.1 hm
        have h9 := hno.out j (by rw [HL.out] at hj; exact hj)
        rw [List.getD_eq_getElem?_getD, List.getElem?_eq_getElem hj] at h9
        exact h9⟩
      clear HC
      go_wp2_with fail
      go_ret
      exact ⟨_, rfl, HP.out, by omega, hb.out⟩
set_option maxHeartbeats 2000000 in
theorem placeI (nm : ByteArray) (vl nx : Int) (ax : Option Addr) (ml cx : Nat) (Ms : List MMl) (un : Int) (w : World) (hL : Ms.length = ml) (hn : ml ≤ 1000) (h : Src w ax (cellsMl Ms)) :
    Calls Tryz.prog 78 #[.agg #[.string nm, .int .i64 vl, .int .i64 nx, .slice ax ml cx], .int .i64 un] w fun e w' => ∃ i : Int, e = .returned (.tuple #[.int .i64 i, .bool (decide (0 ≤ i))]) ∧ PlaceIs Ms un i ∧ -1 ≤ i ∧ Below w.heap.size w w' := by
  obtain ⟨w0, hw0⟩ : ∃ W, w.alloc (.cells #[.string nm, .int .i64 vl, .int .i64 nx, .slice ax ml cx] 26) = W := ⟨_, rfl⟩
  have A0 : Below w.heap.size w w0 := by rw [← hw0]; exact (Below.refl _ _).alloc (Nat.le_refl _) _
  have X0 : Box w0 w.heap.size [.string nm, .int .i64 vl, .int .i64 nx, .slice ax ml cx] := by rw [← hw0]; exact Box.new rfl
  obtain ⟨w1, hw1⟩ : ∃ W, w0.alloc (.cells #[.int .i64 un] 3) = W := ⟨_, rfl⟩
  have A1 : Below w0.heap.size w0 w1 := by rw [← hw1]; exact (Below.refl _ _).alloc (Nat.le_refl _) _
  have X1 : Box w1 w0.heap.size [.int .i64 un] := by rw [← hw1]; exact Box.new rfl
  have BB : Hid (Below w.heap.size w w1) := A0.trans (A1.mono A0.size)
  obtain ⟨c3, _⟩ := (X0.below A1) 3 _ rfl
  have hz : w0.heap.size = w.heap.size + 1 := by rw [← hw0]; simp
  have CI := indexMailsI ax ml cx Ms un w0.heap.size w1 hL hn X1 (h.below BB.out)
  clear h hL A0 X0 A1 X1 hz
  go_enter Tryz.func78, Tryz.ntmps78
  go_wp2_with fail
  refine CI.mono ?_
  rintro e w2 ⟨i, rfl, hp, hi, hb2⟩
  have HF : Hid (PlaceIs Ms un i ∧ -1 ≤ i ∧ Below w.heap.size w w2) := ⟨hp, hi, BB.out.trans (hb2.mono BB.out.size)⟩
  clear hp hi hb2 CI
  go_wp2_with fail
  exact bodyPost_ret (v := .tuple #[.int .i64 i, .bool (decide (0 ≤ i))]) (by simp [results, Tryz.results78, go_sem]) rfl ⟨i, rfl, HF.out⟩
end Go.Proofs.YthejpemiaenfpaaGreatDoor
namespace Go.Proofs.YthejpemiaenfpaaGreatDoor
open Go.ChangeShapes Go.WideShapes Go.ChangeAt Go.RowKit Go.Deep Go.Lib
set_option linter.unusedVariables false
set_option linter.unusedSimpArgs false
set_option maxRecDepth 100000

theorem hasU {L : List PM} {u : ByteArray} {S : SM} (h : storeB L = true) (hus : (47 : UInt8) ∉ u.data.toList) (hS : takeAll (nextM L) u S0 L = some S) (hw : S.word.toList ≠ []) : ∃ q ∈ L, q.1 = userK u := by
  cases hv : getM L (userK u) with
  | none => exact absurd ((word_iff h hus hS).1.2 hv) hw
  | some v => exact ⟨_, (getM_mem (store_facts h).1.2.2).1 hv, rfl⟩
theorem mail_val {L : List PM} {u f : ByteArray} {n : Nat} {v : ByteArray} (h : storeB L = true) (hus : (47 : UInt8) ∉ u.data.toList) (hfs : (47 : UInt8) ∉ f.data.toList) (hU : ∃ q ∈ L, q.1 = userK u) (hn : n < 1000) (hm : (mailK u f (n : Int), v) ∈ L) : 1 ≤ v.size ∧ v.size ≤ 86 ∧ 48 ≤ hdV v ∧ hdV v ≤ 51 ∧ 1 ≤ n := by
  obtain ⟨hg, nx0, hnm, n1, n2, _, hlay, k⟩ := store_facts h
  have hkd : (mailK u f (n : Int)).data.toList = 109 :: 47 :: (u.data.toList ++ 47 :: (f.data.toList ++ 47 :: d3 n)) := by simp [bs]
  have hsp : splitL 47 (mailK u f (n : Int)).data.toList = [109] :: u.data.toList :: f.data.toList :: splitL 47 (d3 n) := by
    rw [hkd]
    have e : (109 : UInt8) :: 47 :: (u.data.toList ++ 47 :: (f.data.toList ++ 47 :: d3 n)) = [109] ++ 47 :: (u.data.toList ++ 47 :: (f.data.toList ++ 47 :: d3 n)) := rfl
    rw [e, splitL_seg 47 [109] _ (by decide), splitL_seg 47 _ _ hus, splitL_seg 47 _ _ hfs]
  have h1 := (lay_iff (nx := nx0) (by omega) hg.2.2 hus).1 (hlay u hU)
  rcases k _ hm with k | ⟨u', k1, _⟩
  · exact absurd k (mailK_not _ _ _)
  · match hq : splitL 47 (d3 n) with
    | [] => exact absurd hq (splitL_ne 47 _)
    | [d] =>
      have hd : d3 n = d := (split_one hq).1
      have how : ownerM (mailK u f (n : Int), v) = some u := by
        unfold ownerM
        rw [hsp, hq]
        show (if ([109] : List UInt8) = [109] then some (bs u.data.toList) else none) = some u
        rw [if_pos rfl, data_bs]
      have h2 := h1.1 _ hm how
      rw [hsp, hq] at h2
      obtain ⟨w, f2, _, _, h3⟩ := h2
      obtain ⟨n9, e1, _, e3, e4, e5, e6, e7, _⟩ := mailO_iff.1 h3
      rw [← hd, (d3_is n hn).2] at e1
      cases e1
      exact ⟨e3, e4, e5, e6, by omega⟩
    | _ :: _ :: _ =>
      unfold ownerM at k1
      rw [hsp, hq] at k1
      cases k1
theorem mail_pair {L : List PM} {u f : ByteArray} {S : SM} {g : FM} {m : MMl} (h : storeB L = true) (hus : (47 : UInt8) ∉ u.data.toList) (hS : takeAll (nextM L) u S0 L = some S) (hl : lookF f S.fs = some g) (hm : m ∈ g.mails) : (mailK u f m.1, mailV m) ∈ L := by
  obtain ⟨h1, h2⟩ := lookF_mem hl
  refine (take_desk h hus hS).mem_iff.1 ?_
  unfold deskX
  refine List.mem_append_right _ (List.mem_append_right _ (List.mem_flatMap.2 ⟨g, h1, ?_⟩))
  unfold fPairs
  refine List.mem_cons_of_mem _ (List.mem_map.2 ⟨m, hm, ?_⟩)
  rw [h2]
  rfl
theorem mailV_parts {m : MMl} (h0 : 0 ≤ m.2.1) (h1 : m.2.1 ≤ 3) : (mailV m).extract 1 (mailV m).size = m.2.2 ∧ hdV (mailV m) - 48 = m.2.1 := by
  have hit : ∃ c : UInt8, itoa m.2.1 = [c] ∧ (c.toNat : Int) = 48 + m.2.1 := by
    refine ⟨UInt8.ofNat (48 + m.2.1.toNat), ?_, ?_⟩
    · unfold itoa
      rw [if_neg (by omega)]
      unfold decDigits
      rw [dif_pos (by omega)]
    · have h2 : (UInt8.ofNat (48 + m.2.1.toNat)).toNat = 48 + m.2.1.toNat := by simp [UInt8.toNat_ofNat']; omega
      rw [h2]
      omega
  obtain ⟨c, hc, hcn⟩ := hit
  have hd : (mailV m).data.toList = c :: m.2.2.data.toList := by
    unfold mailV
    rw [ByteArray.data_append, Array.toList_append, hc]
    simp [bs]
  constructor
  · apply bs_inj
    rw [ByteArray.data_extract, Array.toList_extract, hd]
    have h9 : (mailV m).size = (c :: m.2.2.data.toList).length := by rw [← hd]; simp
    rw [h9]
    simp [List.extract]
    exact List.take_of_length_le (by simp)
  · unfold hdV
    rw [hd]
    show (c.toNat : Int) - 48 = m.2.1
    omega
def cpT (L : List PM) (u f : ByteArray) (un : Int) (tf : ByteArray) : List PM × Int × Int :=
  if (decide (1 ≤ un) && decide (un ≤ 999)) = false then (L, 0, 5) else match getM L (mailK u f un) with
    | none => (L, 0, 5)
    | some v => appR L u tf (v.extract 1 v.size) (hdV v - 48)
def cpR (L : List PM) (u f : ByteArray) (un : Int) (tf : ByteArray) : List PM × Int × Int :=
  if knownR L u f ≠ 0 then (L, 0, knownR L u f) else if knownR L u tf ≠ 0 then (L, 0, knownR L u tf) else cpT L u f un tf
theorem cp_hit {L : List PM} {u f tf : ByteArray} {S : SM} {g : FM} {m : MMl} (h : storeB L = true) (hus : (47 : UInt8) ∉ u.data.toList) (hfs : (47 : UInt8) ∉ f.data.toList) (hS : takeAll (nextM L) u S0 L = some S) (hw : S.word.toList ≠ []) (hl : lookF f S.fs = some g) (hm : m ∈ g.mails) : cpT L u f m.1 tf = appR L u tf m.2.2 m.2.1 ∧ 0 ≤ m.2.1 ∧ m.2.1 ≤ 3 ∧ m.2.2.size ≤ 1000 := by
  obtain ⟨e1, e2, e3, e4, e5⟩ := (store_fit h hS g (lookF_mem hl).1).2.2.2.2.2 m hm
  have hp := mail_pair h hus hS hl hm
  have hp2 : (mailK u f ((m.1.toNat : Nat) : Int), mailV m) ∈ L := by rw [show ((m.1.toNat : Nat) : Int) = m.1 by omega]; exact hp
  obtain ⟨_, _, _, _, h1⟩ := mail_val h hus hfs (hasU h hus hS hw) (by omega) hp2
  obtain ⟨p1, p2⟩ := mailV_parts e3 e4
  refine ⟨?_, e3, e4, e5⟩
  unfold cpT
  rw [if_neg (by rw [decide_eq_true (by omega), decide_eq_true (by omega)]; decide), (getM_mem (store_facts h).1.2.2).2 hp]
  show appR L u tf ((mailV m).extract 1 (mailV m).size) (hdV (mailV m) - 48) = _
  rw [p1, p2]
theorem cp_miss {L : List PM} {u f tf : ByteArray} {S : SM} {g : FM} {un : Int} (h : storeB L = true) (hus : (47 : UInt8) ∉ u.data.toList) (hfs : (47 : UInt8) ∉ f.data.toList) (hS : takeAll (nextM L) u S0 L = some S) (hl : lookF f S.fs = some g) (hm : ∀ m ∈ g.mails, m.1 ≠ un) : cpT L u f un tf = (L, 0, 5) := by
  unfold cpT
  by_cases hr : (decide (1 ≤ un) && decide (un ≤ 999)) = false
  · rw [if_pos hr]
  · rw [if_neg hr]
    cases hv : getM L (mailK u f un) with
    | none => rfl
    | some v =>
      exfalso
      have hr2 : 1 ≤ un ∧ un ≤ 999 := by
        by_cases e : 1 ≤ un ∧ un ≤ 999
        · exact e
        · exact absurd (by
            by_cases e1 : 1 ≤ un
            · have e2 : ¬ un ≤ 999 := fun h9 => e ⟨e1, h9⟩
              rw [decide_eq_false e2]; simp
            · rw [decide_eq_false e1]; rfl) hr
      have hp := (getM_mem (store_facts h).1.2.2).1 hv
      have hp2 : (mailK u f ((un.toNat : Nat) : Int), v) ∈ L := by rw [show ((un.toNat : Nat) : Int) = un by omega]; exact hp
      obtain ⟨m, m1, m2, _⟩ := mail_there h hus hfs hS hl (by omega) hp2
      exact hm m m1 (by omega)
theorem known2 {L : List PM} {u f tf : ByteArray} {S : SM} (h : storeB L = true) (hus : (47 : UInt8) ∉ u.data.toList) (hfs : (47 : UInt8) ∉ f.data.toList) (hto : (47 : UInt8) ∉ tf.data.toList) (hS : takeAll (nextM L) u S0 L = some S) : lackM S.word S.fs [f, tf] = if knownR L u f ≠ 0 then knownR L u f else knownR L u tf := by
  rw [← lack_known h hus hfs hS, ← lack_known h hus hto hS]
  have hall : ∀ a b, [a, b].all (fun s => (lookF s S.fs).isSome) = ((lookF a S.fs).isSome && (lookF b S.fs).isSome) := fun a b => by simp
  have hone : ∀ a, [a].all (fun s => (lookF s S.fs).isSome) = (lookF a S.fs).isSome := fun a => by simp
  unfold lackM
  rw [hall, hone, hone]
  by_cases hw : S.word.toList = []
  · simp [hw]
  · rw [if_neg hw, if_neg hw, if_neg hw]
    cases (lookF f S.fs).isSome <;> cases (lookF tf S.fs).isSome <;> rfl
set_option maxHeartbeats 4000000 in
theorem l07CopyS (b o n c : Nat) (L : List PM) (hL : L.length = n) (hc : n ≤ c) (hc9 : c ≤ maxLen) (hg : GoodL L) (u f tf : ByteArray) (un : Int) (hus : u.size ≤ 8) (hfs : f.size ≤ 8) (hts : tf.size ≤ 8) (hval : knownR L u f = 0 → ∀ v, 1 ≤ un → un ≤ 999 → getM L (mailK u f un) = some v → 1 ≤ v.size ∧ v.size ≤ 86 ∧ 48 ≤ hdV v ∧ hdV v ≤ 51) (w : World) (h : Src w (some ⟨b, o, none⟩) (cellsP L)) (R : List PM) (q1 q2 : Int) (HR : Hid (cpR L u f un tf = (R, q1, q2))) :
    Calls Tryz.prog 77 #[.slice (some ⟨b, o, none⟩) n c, .string u, .string f, .int .i64 un, .string tf] w fun e w' => ∃ a2 n2 c2, e = .returned (.tuple #[.slice a2 n2 c2, .int .i64 q1, .int .i64 q2]) ∧ R.length = n2 ∧ Src w' a2 (cellsP R) ∧ Below w.heap.size w w' := by
  have hn60 := hg.1
  rw [hL] at hn60
  have HLN : Hid (L.length = n ∧ Src w (some ⟨b, o, none⟩) (cellsP L)) := ⟨hL, h⟩
  have HBAD : Hid (∀ (W : World) (z1 z2 : Int), Below w.heap.size w W → (L, z1, z2) = (R, q1, q2) → ∃ a2 n2 c2, Ending.returned (Value.tuple #[.slice (some ⟨b, o, none⟩) n c, .int .i64 z1, .int .i64 z2]) = Ending.returned (.tuple #[.slice a2 n2 c2, .int .i64 q1, .int .i64 q2]) ∧ R.length = n2 ∧ Src W a2 (cellsP R) ∧ Below w.heap.size w W) := fun W z1 z2 hW he => by
    cases he
    exact ⟨_, _, _, rfl, HLN.out.1, HLN.out.2.below hW, hW⟩
  have CK := l07KnownS (some ⟨b, o, none⟩) n c L hL hg u f (by omega) (by omega) w h _ rfl
  have CK2 := fun W (hW : Below w.heap.size w W) => l07KnownS (some ⟨b, o, none⟩) n c L hL hg u tf (by omega) (by omega) W (h.below hW) _ rfl
  have HR1 := HR.out
  unfold cpR at HR1
  obtain ⟨k1, hk1⟩ : ∃ z, knownR L u f = z := ⟨_, rfl⟩
  obtain ⟨k2, hk2⟩ : ∃ z, knownR L u tf = z := ⟨_, rfl⟩
  rw [hk1] at CK HR1 hval
  simp only [hk2] at CK2
  rw [hk2] at HR1
  by_cases e1 : k1 = 0
  case neg =>
    rw [if_pos e1] at HR1
    have HF := fun W hW => HBAD.out W 0 k1 hW HR1
    have HFH : Hid (∀ W, Below w.heap.size w W → ∃ a2 n2 c2, Ending.returned (Value.tuple #[.slice (some ⟨b, o, none⟩) n c, .int .i64 0, .int .i64 k1]) = Ending.returned (.tuple #[.slice a2 n2 c2, .int .i64 q1, .int .i64 q2]) ∧ R.length = n2 ∧ Src W a2 (cellsP R) ∧ Below w.heap.size w W) := HF
    have hki : (k1 != 0) = true := by simpa using e1
    clear hL h hg HR HR1 hk1 hk2 CK2 HF HBAD hval
    go_enter Tryz.func77, Tryz.ntmps77
    go_wp2_with fail
    refine CK.mono ?_
    rintro e w1 ⟨rfl, hb1⟩
    have HG : Hid (∃ a2 n2 c2, Ending.returned (Value.tuple #[.slice (some ⟨b, o, none⟩) n c, .int .i64 0, .int .i64 k1]) = Ending.returned (.tuple #[.slice a2 n2 c2, .int .i64 q1, .int .i64 q2]) ∧ R.length = n2 ∧ Src w1 a2 (cellsP R) ∧ Below w.heap.size w w1) := HFH.out w1 hb1
    clear hb1 CK HFH
    go_wp2_with fail
    exact bodyPost_ret (v := .tuple #[.slice (some ⟨b, o, none⟩) n c, .int .i64 0, .int .i64 k1]) (by simp [results, Tryz.results77, go_sem]) rfl HG.out
  subst e1
  rw [if_neg (by decide)] at HR1
  by_cases e2 : k2 = 0
  case neg =>
    rw [if_pos e2] at HR1
    have HFH : Hid (∀ W, Below w.heap.size w W → ∃ a2 n2 c2, Ending.returned (Value.tuple #[.slice (some ⟨b, o, none⟩) n c, .int .i64 0, .int .i64 k2]) = Ending.returned (.tuple #[.slice a2 n2 c2, .int .i64 q1, .int .i64 q2]) ∧ R.length = n2 ∧ Src W a2 (cellsP R) ∧ Below w.heap.size w W) := fun W hW => HBAD.out W 0 k2 hW HR1
    have hki : (k2 != 0) = true := by simpa using e2
    clear hL h hg HR HR1 hk1 hk2 HBAD hval
    go_enter Tryz.func77, Tryz.ntmps77
    go_wp2_with fail
    refine CK.mono ?_
    rintro e w1 ⟨rfl, hb1⟩
    have B1 : Hid (Below w.heap.size w w1) := hb1
    have CK3 := CK2 w1 hb1
    clear hb1 CK CK2
    go_wp2_with fail
    refine CK3.mono ?_
    rintro e w2 ⟨rfl, hb2⟩
    have HG : Hid (∃ a2 n2 c2, Ending.returned (Value.tuple #[.slice (some ⟨b, o, none⟩) n c, .int .i64 0, .int .i64 k2]) = Ending.returned (.tuple #[.slice a2 n2 c2, .int .i64 q1, .int .i64 q2]) ∧ R.length = n2 ∧ Src w2 a2 (cellsP R) ∧ Below w.heap.size w w2) := HFH.out w2 (B1.out.trans (hb2.mono B1.out.size))
    clear hb2 CK3 HFH
    go_wp2_with fail
    exact bodyPost_ret (v := .tuple #[.slice (some ⟨b, o, none⟩) n c, .int .i64 0, .int .i64 k2]) (by simp [results, Tryz.results77, go_sem]) rfl HG.out
  subst e2
  rw [if_neg (by decide)] at HR1
  unfold cpT at HR1
  cases hrg : (decide (1 ≤ un) && decide (un ≤ 999)) with
  | false =>
    rw [if_pos hrg] at HR1
    have HFH : Hid (∀ W, Below w.heap.size w W → ∃ a2 n2 c2, Ending.returned (Value.tuple #[.slice (some ⟨b, o, none⟩) n c, .int .i64 0, .int .i64 5]) = Ending.returned (.tuple #[.slice a2 n2 c2, .int .i64 q1, .int .i64 q2]) ∧ R.length = n2 ∧ Src W a2 (cellsP R) ∧ Below w.heap.size w W) := fun W hW => HBAD.out W 0 5 hW HR1
    have CI := fun W => l01InS un 1 999 false W hrg
    clear hL h hg HR HR1 hk1 hk2 HBAD hval hrg
    go_enter Tryz.func77, Tryz.ntmps77
    go_wp2_with fail
    refine CK.mono ?_
    rintro e w1 ⟨rfl, hb1⟩
    have B1 : Hid (Below w.heap.size w w1) := hb1
    have CK3 := CK2 w1 hb1
    clear hb1 CK CK2
    go_wp2_with fail
    refine CK3.mono ?_
    rintro e w2 ⟨rfl, hb2⟩
    have HG : Hid (∃ a2 n2 c2, Ending.returned (Value.tuple #[.slice (some ⟨b, o, none⟩) n c, .int .i64 0, .int .i64 5]) = Ending.returned (.tuple #[.slice a2 n2 c2, .int .i64 q1, .int .i64 q2]) ∧ R.length = n2 ∧ Src w2 a2 (cellsP R) ∧ Below w.heap.size w w2) := HFH.out w2 (B1.out.trans (hb2.mono B1.out.size))
    clear hb2 CK3 HFH
    go_wp2_with fail
    refine (CI _).mono ?_
    rintro e w3 ⟨rfl, hw3⟩
    obtain rfl := hw3
    go_wp2_with fail
    exact bodyPost_ret (v := .tuple #[.slice (some ⟨b, o, none⟩) n c, .int .i64 0, .int .i64 5]) (by simp [results, Tryz.results77, go_sem]) rfl HG.out
  | true =>
    rw [if_neg (by rw [hrg]; decide)] at HR1
    have hr2 : 1 ≤ un ∧ un ≤ 999 := by
      rw [Bool.and_eq_true, decide_eq_true_eq, decide_eq_true_eq] at hrg
      exact hrg
    have CI := fun W => l01InS un 1 999 true W hrg
    obtain ⟨nn, rfl⟩ : ∃ nn : Nat, un = (nn : Int) := ⟨un.toNat, by omega⟩
    have CML := fun W => l07MailS u f nn (by omega) (by omega) (by omega) W
    have CG := fun W (hW : Below w.heap.size w W) => l01GetM (some ⟨b, o, none⟩) n c L (mailK u f (nn : Int)) W hL hg (h.below hW)
    have hval2 := fun v => hval rfl v hr2.1 hr2.2
    clear hrg hr2 hval
    cases hv : getM L (mailK u f (nn : Int)) with
    | none =>
      rw [hv] at HR1
      simp only [hv] at CG
      have HFH : Hid (∀ W, Below w.heap.size w W → ∃ a2 n2 c2, Ending.returned (Value.tuple #[.slice (some ⟨b, o, none⟩) n c, .int .i64 0, .int .i64 5]) = Ending.returned (.tuple #[.slice a2 n2 c2, .int .i64 q1, .int .i64 q2]) ∧ R.length = n2 ∧ Src W a2 (cellsP R) ∧ Below w.heap.size w W) := fun W hW => HBAD.out W 0 5 hW HR1
      obtain ⟨MK, hMK⟩ : ∃ x, mailK u f (nn : Int) = x := ⟨_, rfl⟩
      simp only [hMK] at CML CG
      clear hL h hg HR HR1 hk1 hk2 HBAD hval2 hv hMK
      go_enter Tryz.func77, Tryz.ntmps77
      go_wp2_with fail
      refine CK.mono ?_
      rintro e w1 ⟨rfl, hb1⟩
      have B1 : Hid (Below w.heap.size w w1) := hb1
      have CK3 := CK2 w1 hb1
      clear hb1 CK CK2
      go_wp2_with fail
      refine CK3.mono ?_
      rintro e w2 ⟨rfl, hb2⟩
      have B2 : Hid (Below w.heap.size w w2) := B1.out.trans (hb2.mono B1.out.size)
      clear hb2 CK3
      go_wp2_with fail
      refine (CI _).mono ?_
      rintro e w3 ⟨rfl, hw3⟩
      obtain rfl := hw3
      clear CI
      go_wp2_with fail
      refine (CML _).mono ?_
      rintro e w4 ⟨rfl, hb4⟩
      have B4 : Hid (Below w.heap.size w w4) := B2.out.trans (hb4.mono B2.out.size)
      have CG4 := CG w4 B4.out
      have HG : Hid (∃ a2 n2 c2, Ending.returned (Value.tuple #[.slice (some ⟨b, o, none⟩) n c, .int .i64 0, .int .i64 5]) = Ending.returned (.tuple #[.slice a2 n2 c2, .int .i64 q1, .int .i64 q2]) ∧ R.length = n2 ∧ Src w4 a2 (cellsP R) ∧ Below w.heap.size w w4) := HFH.out w4 B4.out
      clear hb4 CML CG HFH
      go_wp2_with fail
      refine CG4.mono ?_
      rintro e w5 ⟨rfl, hw5⟩
      obtain rfl := hw5
      clear CG4
      go_wp2_with fail
      exact bodyPost_ret (v := .tuple #[.slice (some ⟨b, o, none⟩) n c, .int .i64 0, .int .i64 5]) (by simp [results, Tryz.results77, go_sem]) rfl HG.out
    | some v =>
      rw [hv] at HR1
      simp only [hv] at CG
      obtain ⟨z1, z2, z3, z4⟩ := hval2 v hv
      have hts2 : (v.extract 1 v.size).size ≤ 85 := by
        rw [ByteArray.size_extract]
        omega
      have CP := fun W (hW : Below w.heap.size w W) => l07AppendS b o n c L hL hc hc9 hg u tf (v.extract 1 v.size) (hdV v - 48) hus hts hts2 (by omega) (by omega) W (h.below hW) R q1 q2 HR1
      have hv0 : 0 < v.size := by omega
      have hcut : ∀ W : World, (Instr.slice 9 (.string v) (some (.int .i64 1)) none none).run Tryz.prog W = .ok (.string (v.extract 1 v.size)) W := fun W => by
        have := run_slice_string_l (P := Tryz.prog) (w := W) (t := 9) (s := v) Tryz.underlying9 .i64 1 (by omega) (by omega)
        exact this
      have hhd : (v[0].toNat : Int) = hdV v := by
        unfold hdV
        have e9 : v.data.toList.headD 0 = v[0] := by
          cases hvl : v.data.toList with
          | nil =>
            have h9 : v.data.toList.length = v.size := by simp
            rw [hvl] at h9
            simp at h9
            omega
          | cons c0 r0 =>
            have h9 : v[0] = v.data.toList[0]'(by rw [hvl]; simp) := rfl
            rw [h9]
            simp [hvl]
        rw [e9]
      obtain ⟨tx, htx⟩ : ∃ x, v.extract 1 v.size = x := ⟨_, rfl⟩
      simp only [htx] at CP hcut
      obtain ⟨hh, hhh⟩ : ∃ x : Int, hdV v = x := ⟨_, rfl⟩
      rw [hhh] at hhd z3 z4
      simp only [hhh] at CP
      have w8 : IntKind.u8.wrap (hh - 48) = hh - 48 := by
        simp [IntKind.wrap, IntKind.bits, IntKind.signed]
        omega
      have w64 : IntKind.i64.wrap (hh - 48) = hh - 48 := wrapI _ (by omega) (by omega)
      obtain ⟨MK, hMK⟩ : ∃ x, mailK u f (nn : Int) = x := ⟨_, rfl⟩
      simp only [hMK] at CML CG
      clear hL h hg HR HR1 hk1 hk2 HBAD hval2 hv hMK htx hhh hts2
      go_enter Tryz.func77, Tryz.ntmps77
      go_wp2_with fail
      refine CK.mono ?_
      rintro e w1 ⟨rfl, hb1⟩
      have B1 : Hid (Below w.heap.size w w1) := hb1
      have CK3 := CK2 w1 hb1
      clear hb1 CK CK2
      go_wp2_with fail
      refine CK3.mono ?_
      rintro e w2 ⟨rfl, hb2⟩
      have B2 : Hid (Below w.heap.size w w2) := B1.out.trans (hb2.mono B1.out.size)
      clear hb2 CK3
      go_wp2_with fail
      refine (CI _).mono ?_
      rintro e w3 ⟨rfl, hw3⟩
      obtain rfl := hw3
      clear CI
      go_wp2_with fail
      refine (CML _).mono ?_
      rintro e w4 ⟨rfl, hb4⟩
      have B4 : Hid (Below w.heap.size w w4) := B2.out.trans (hb4.mono B2.out.size)
      have CG4 := CG w4 B4.out
      clear hb4 CML CG
      go_wp2_with fail
      refine CG4.mono ?_
      rintro e w5 ⟨rfl, hw5⟩
      obtain rfl := hw5
      clear CG4
      have CP5 := CP w5.drew B4.out.drew
      clear CP
      go_upto_region 12 with fail
      refine wp_region_noPanic ?_
      refine wp_region_held_drew (S := fun w' => True) (by kernel_rfl) trivial (fun hHeld => ?_)
      refine tkA (i := 0) (v := .slice (some ⟨b, o, none⟩) n c) ?_ hHeld ?_
      · intro w9 hSw
        go_simp
      simp only [Act.put, List.setIfInBounds_toArray, List.set_cons_zero, List.set_cons_succ]
      refine tkA (i := 1) (v := .string u) ?_ hHeld ?_
      · intro w9 hSw
        go_simp
      simp only [Act.put, List.setIfInBounds_toArray, List.set_cons_zero, List.set_cons_succ]
      refine tkA (i := 2) (v := .string tf) ?_ hHeld ?_
      · intro w9 hSw
        go_simp
      simp only [Act.put, List.setIfInBounds_toArray, List.set_cons_zero, List.set_cons_succ]
      refine tkA (i := 3) (v := .string v) ?_ hHeld ?_
      · intro w9 hSw
        go_simp
      simp only [Act.put, List.setIfInBounds_toArray, List.set_cons_zero, List.set_cons_succ]
      refine tkA (i := 4) (v := .string tx) ?_ hHeld ?_
      · intro w9 hSw
        have h9 := hcut w9
        go_simp
      simp only [Act.put, List.setIfInBounds_toArray, List.set_cons_zero, List.set_cons_succ]
      refine tkA (i := 5) (v := .string v) ?_ hHeld ?_
      · intro w9 hSw
        go_simp
      simp only [Act.put, List.setIfInBounds_toArray, List.set_cons_zero, List.set_cons_succ]
      refine tkA (i := 6) (v := .int .u8 hh) ?_ hHeld ?_
      · intro w9 hSw
        go_simp
      simp only [Act.put, List.setIfInBounds_toArray, List.set_cons_zero, List.set_cons_succ]
      refine tkA (i := 7) (v := .int .u8 (hh - 48)) ?_ hHeld ?_
      · intro w9 hSw
        go_simp
      simp only [Act.put, List.setIfInBounds_toArray, List.set_cons_zero, List.set_cons_succ]
      refine tkA (i := 8) (v := .int .i64 (hh - 48)) ?_ hHeld ?_
      · intro w9 hSw
        go_simp
      simp only [Act.put, List.setIfInBounds_toArray, List.set_cons_zero, List.set_cons_succ]
      refine wpAnyH_ready (rs := [9]) (by kernel_rfl) (by simp) ?_
      refine AllReadyH.cons rfl (fun K hK => ?_) AllReadyH.nil
      go_simp
      refine CP5.mono ?_
      rintro e w6 ⟨a6, n6, c6, rfl, y1, y2, hb6⟩
      dsimp only
      have HF : Hid (R.length = n6 ∧ Src w6 a6 (cellsP R) ∧ Below w.heap.size w w6) := ⟨y1, y2, B4.out.drew.trans (Below.mono hb6 B4.out.size)⟩
      clear y1 y2 hb6
      refine hK _ _ trivial (fun hHeld => ?_)
      clear hK K
      refine tkA (i := 10) (v := .slice a6 n6 c6) ?_ hHeld ?_
      · intro w9 hSw
        go_simp
      simp only [Act.put, List.setIfInBounds_toArray, List.set_cons_zero, List.set_cons_succ]
      refine tkA (i := 11) (v := .int .i64 q1) ?_ hHeld ?_
      · intro w9 hSw
        go_simp
      simp only [Act.put, List.setIfInBounds_toArray, List.set_cons_zero, List.set_cons_succ]
      refine tkA (i := 12) (v := .int .i64 q2) ?_ hHeld ?_
      · intro w9 hSw
        go_simp
      simp only [Act.put, List.setIfInBounds_toArray, List.set_cons_zero, List.set_cons_succ]
      refine wpAnyH_ready (rs := [13]) (by kernel_rfl) (by simp) ?_
      refine AllReadyH.cons rfl (fun K hK => ?_) AllReadyH.nil
      go_simp
      refine hK _ _ trivial (fun hHeld => ?_)
      clear hK K
      refine wpAnyH_ready (rs := [14]) (by kernel_rfl) (by simp) ?_
      refine AllReadyH.cons rfl (fun K hK => ?_) AllReadyH.nil
      go_simp
      refine hK _ _ trivial (fun hHeld => ?_)
      clear hK K
      refine wpAnyH_ready (rs := [15]) (by kernel_rfl) (by simp) ?_
      refine AllReadyH.cons rfl (fun K hK => ?_) AllReadyH.nil
      go_simp
      refine hK _ _ trivial (fun hHeld => ?_)
      clear hK K
      refine wpAnyH_done (by kernel_rfl) ?_ _
      refine NoPanic.normal ?_
      clear hHeld
      go_wp2_with fail
      exact bodyPost_ret (v := .tuple #[.slice a6 n6 c6, .int .i64 q1, .int .i64 q2]) (by simp [results, Tryz.results77, go_sem]) rfl ⟨_, _, _, rfl, HF.out⟩
end Go.Proofs.YthejpemiaenfpaaGreatDoor
namespace Go.Proofs.YthejpemiaenfpaaGreatDoor
open Go.ChangeShapes Go.WideShapes Go.ChangeAt Go.RowKit Go.Deep Go.Lib
set_option linter.unusedVariables false
set_option linter.unusedSimpArgs false
set_option maxRecDepth 100000

/-- Mails whose pairs can be read back. -/
def FitMs (Ms : List MMl) : Prop := ∀ m ∈ Ms, 0 ≤ m.1 ∧ m.1 < 1000 ∧ 0 ≤ m.2.1 ∧ m.2.1 ≤ 3 ∧ m.2.2.size ≤ 1000
/-- Of three digits the first i, as a number. -/
def partD (x y z : Int) : Nat → Int
  | 0 => 0
  | 1 => x
  | 2 => x * 10 + y
  | _ => (x * 10 + y) * 10 + z
def digD (x y z : Int) : Nat → Int
  | 0 => x
  | 1 => y
  | _ => z
theorem part_step (x y z : Int) (i : Nat) (h : i < 3) : partD x y z (i + 1) = partD x y z i * 10 + digD x y z i := by
  match i, h with
  | 0, _ => simp [partD, digD]
  | 1, _ => rfl
  | 2, _ => rfl
theorem key_digit {K : ByteArray} {p : List UInt8} {x y z : Nat} (hx : x < 10) (hy : y < 10) (hz : z < 10) (h : K.data.toList = p ++ [UInt8.ofNat (48 + x), UInt8.ofNat (48 + y), UInt8.ofNat (48 + z)]) (i : Nat) (hi : i < 3) : K.size = p.length + 3 ∧ ∃ hb : p.length + i < K.size, ((K[p.length + i]'hb).toNat : Int) = 48 + digD (x : Int) (y : Int) (z : Int) i := by
  have hs : K.size = p.length + 3 := by
    rw [size_of, h]
    simp
  refine ⟨hs, by omega, ?_⟩
  have hd : ∀ d : Nat, d < 10 → ((UInt8.ofNat (48 + d)).toNat : Int) = 48 + (d : Int) := fun d h9 => by
    have h1 : (UInt8.ofNat (48 + d)).toNat = 48 + d := by simp [UInt8.toNat_ofNat']; omega
    rw [h1]
    omega
  have hb : p.length + i < K.data.toList.length := by rw [h]; simp; omega
  have e : K[p.length + i]'(by omega) = K.data.toList[p.length + i]'hb := rfl
  rw [e]
  have e2 : K.data.toList[p.length + i]'hb = [UInt8.ofNat (48 + x), UInt8.ofNat (48 + y), UInt8.ofNat (48 + z)][i]'(by simpa using hi) := by
    simp only [h]
    rw [List.getElem_append_right (by omega)]
    simp
  rw [e2]
  match i, hi with
  | 0, _ => exact hd x hx
  | 1, _ => exact hd y hy
  | 2, _ => exact hd z hz
set_option maxHeartbeats 8000000 in
theorem l07OfS (a : Option Addr) (n c : Nat) (L : List PM) (hL : L.length = n) (hg : GoodL L) (u f : ByteArray) (hus : u.size ≤ 1000) (hfs : f.size ≤ 1000) (Ms : List MMl) (hM : FitMs Ms) (hU : (L.filter fun x => beginsB x.1 (preK u f)) = Ms.map (mailP u f)) (w : World) (h : Src w a (cellsP L)) :
    Calls Tryz.prog 84 #[.slice a n c, .string u, .string f] w fun e w' => ∃ v, e = .returned v ∧ w'.ownsRow w.heap.size 78 3 v Ms.length (cellsMl Ms) ∧ Below w.heap.size w w' := by
  have hn60 := hg.1
  rw [hL] at hn60
  have CM := fun W => l07MailsS u f W hus hfs
  have hpz := preK_size u f
  have CU := fun W (hW : Below w.heap.size w W) => l01Under a n c (fK L) (fV L) (preK u f) W (by omega) (by omega) (fun i hi => by
    have hi2 : i < L.length := by omega
    obtain ⟨e1, e2⟩ := at_fst hi2
    rw [e1, e2]
    have := hg.2.1 _ (List.getElem_mem hi2)
    omega) (sp_src (h.below hW) hL)
  have eU : under (fK L) (fV L) (preK u f) n = Ms.map (mailP u f) := by
    rw [under_is L (preK u f) n (by omega), List.take_of_length_le (by omega), hU]
  simp only [eU] at CU
  have hul : (Ms.map (mailP u f)).length ≤ L.length := by rw [← hU]; exact List.length_filter_le _ _
  rw [List.length_map, hL] at hul
  obtain ⟨m, hm⟩ : ∃ t, Ms.length = t := ⟨_, rfl⟩
  rw [hm] at hul
  have hm60 : m ≤ 60 := by omega
  have HUM : Hid (Ms.length = m) := hm
  have HFM : Hid (FitMs Ms) := hM
  have hpl : (preK u f).data.toList.length = (preK u f).size := by rw [size_of]
  have HPD : Hid (∀ x ∈ Ms, ∃ p q r : Nat, p < 10 ∧ q < 10 ∧ r < 10 ∧ x.1 = ((p * 100 + q * 10 + r : Nat) : Int) ∧ (mailK u f x.1).data.toList = (preK u f).data.toList ++ [UInt8.ofNat (48 + p), UInt8.ofNat (48 + q), UInt8.ofNat (48 + r)]) := fun x hx => by
    obtain ⟨e1, e2, _⟩ := hM x hx
    obtain ⟨p, q, r, hp, hq, hr, he⟩ := split3 x.1.toNat (by omega)
    refine ⟨p, q, r, hp, hq, hr, by omega, ?_⟩
    rw [preK_data]
    have hd3 : d3 x.1.toNat = [UInt8.ofNat (48 + p), UInt8.ofNat (48 + q), UInt8.ofNat (48 + r)] := by
      rw [he]
      unfold d3
      rw [dec4 p q r hp hq hr]
      rfl
    show (bs (109 :: 47 :: (u.data.toList ++ 47 :: (f.data.toList ++ 47 :: d3 x.1.toNat)))).data.toList = _
    rw [hd3]
    simp [bs]
  obtain ⟨pl, hpl2⟩ : ∃ t, (preK u f).size = t := ⟨_, rfl⟩
  rw [hpl2] at hpl hpz
  obtain ⟨KP, hKP⟩ : ∃ t, preK u f = t := ⟨_, rfl⟩
  simp only [hKP] at CM CU HPD hpl
  rw [hKP] at hpl2
  have hs60 : pl ≤ 2100 := by omega
  clear hL hg h eU hU hm hKP hul hpz hM
  go_enter Tryz.func84, Tryz.ntmps84
  go_wp2_with fail
  refine (CM _).mono ?_
  rintro e w1 ⟨rfl, hw1⟩
  obtain rfl := hw1
  clear CM
  have A1 : Hid (Below w.heap.size w (w.alloc (.cells #[] 78))) := (Below.refl _ _).alloc (Nat.le_refl _) _
  have OE : Hid ((w.alloc (.cells #[] 78)).ownsRow w.heap.size 78 3 (.slice (some ⟨w.heap.size, 0, none⟩) 0 0) 0 (cellsMl (Ms.take 0))) := own_empty rfl (Nat.le_refl _)
  have CU1 := CU (w.alloc (.cells #[] 78)) A1.out
  clear CU
  go_wp2_with fail
  refine CU1.mono ?_
  rintro e w2 ⟨v2, rfl, ho2, hb2⟩
  have ho3 : w2.ownsRow (w.alloc (.cells #[] 78)).heap.size 59 2 v2 (Ms.map (mailP u f)).length (cellsP (Ms.map (mailP u f))) := ho2
  rw [List.length_map, HUM.out] at ho3
  obtain ⟨au, cu, rfl, hsu, hsb⟩ := own_src ho3
  have B2 : Hid (Below w.heap.size w w2) := A1.out.trans (hb2.mono A1.out.size)
  have HO2 : Hid (w2.ownsRow w.heap.size 78 3 (.slice (some ⟨w.heap.size, 0, none⟩) 0 0) 0 (cellsMl (Ms.take 0))) := own_below OE.out hb2
  have HUR : Hid (w2.ownsRow w.heap.size 59 2 (.slice au m cu) m (cellsP (Ms.map (mailP u f)))) := own_mono ho3 (by have h9 := A1.out.size; omega)
  clear CU1 ho2 ho3 hb2 hsu hsb OE
  go_wp2_with fail
  go_loopw [7, 10] (fun v iv wr => ∃ (j : Nat) (a' : Option Addr) (c' : Nat), j ≤ m ∧ v = .slice a' j c' ∧ iv = .int .i64 (j : Int) ∧ Hid (wr.ownsRow w.heap.size 78 3 (.slice a' j c') j (cellsMl (Ms.take j))) ∧ Hid (wr.ownsRow w.heap.size 59 2 (.slice au m cu) m (cellsP (Ms.map (mailP u f)))) ∧ Hid (Below w.heap.size w wr)) (fun _ i _ => m - (RowKit.intOf i).toNat)
  case atStart => exact ⟨0, _, _, Nat.zero_le _, rfl, rfl, HO2.out, HUR.out, B2.out⟩
  case round =>
    obtain ⟨j, a', c', hj, rfl, rfl, ho, hur, hbr⟩ := hrel
    by_cases hlt : j < m
    · have hltj : (j : Int) < (m : Int) := by omega
      have hjl : j < Ms.length := by rw [HUM.out]; exact hlt
      obtain ⟨gq, capq, hau, _, hsq⟩ := own_someP hur.out (by omega)
      cases hau
      have hjl2 : j < (Ms.map (mailP u f)).length := by rw [List.length_map]; exact hjl
      obtain ⟨bq, oq, x, y, hae, d0, d1, hxy⟩ := srcP hsq hjl2
      cases hae
      rw [Nat.zero_add] at d0 d1
      obtain ⟨mm, hmm⟩ : ∃ t, Ms.getD j ml0 = t := ⟨_, rfl⟩
      have hmem : mm ∈ Ms := by rw [← hmm]; exact mem_getD' Ms ml0 j hjl
      have hxy2 : mailP u f mm = (x, y) := by
        rw [← hxy.out, ← hmm, List.getD_eq_getElem?_getD, List.getD_eq_getElem?_getD, List.getElem?_map, List.getElem?_eq_getElem hjl]
        rfl
      obtain ⟨hmx, hmy⟩ : mailK u f mm.1 = x ∧ mailV mm = y := by
        have h9 : (mailK u f mm.1, mailV mm) = (x, y) := hxy2
        exact ⟨congrArg Prod.fst h9, congrArg Prod.snd h9⟩
      obtain ⟨p1, p2, p3, hp1, hp2, hp3, hpn, hpk⟩ := HPD.out mm hmem
      rw [hmx] at hpk
      obtain ⟨q1, q2, q3, q4, q5⟩ := HFM.out mm hmem
      obtain ⟨t1, t2⟩ := mailV_parts q3 q4
      have hysz : 1 ≤ y.size := by
        rw [← hmy]
        have h9 : (mailV mm).size = (bs (itoa mm.2.1)).size + mm.2.2.size := by unfold mailV; rw [ByteArray.size_append]
        have h8 : 1 ≤ (bs (itoa mm.2.1)).size := by
          rw [size_of]
          show 1 ≤ (itoa mm.2.1).length
          unfold itoa
          rw [if_neg (by omega)]
          unfold decDigits
          rw [dif_pos (by omega)]
          simp
        omega
      rw [hmy] at t1 t2
      have hkd := fun (i : Nat) (hi : i < 3) => key_digit hp1 hp2 hp3 hpk i hi
      simp only [hpl] at hkd
      have hxs : x.size = pl + 3 := (hkd 0 (by omega)).1
      obtain ⟨X, hX⟩ : ∃ t : Int, (p1 : Int) = t := ⟨_, rfl⟩
      obtain ⟨Y, hY⟩ : ∃ t : Int, (p2 : Int) = t := ⟨_, rfl⟩
      obtain ⟨Z, hZ⟩ : ∃ t : Int, (p3 : Int) = t := ⟨_, rfl⟩
      simp only [hX, hY, hZ] at hkd
      have hDG : ∀ i, 0 ≤ digD X Y Z i ∧ digD X Y Z i ≤ 9 := fun i => by
        unfold digD
        split <;> omega
      have hPD : ∀ i, 0 ≤ partD X Y Z i ∧ partD X Y Z i ≤ 1000 := fun i => by
        unfold partD
        split <;> omega
      have hP3 : partD X Y Z 3 = mm.1 := by
        show (X * 10 + Y) * 10 + Z = mm.1
        omega
      have HTK : Hid (cellsMl (Ms.take (j + 1)) = cellsMl (Ms.take j) ++ cellsMl [(mm.1, mm.2.1, mm.2.2)]) := by
        show _ = _
        rw [← cellsMl_append, List.take_add_one, List.getElem?_eq_getElem hjl]
        have h9 : Ms[j] = mm := by rw [← hmm, List.getD_eq_getElem?_getD, List.getElem?_eq_getElem hjl]; rfl
        rw [h9]
        rfl
      obtain ⟨hh, hhh⟩ : ∃ z : Int, hdV y = z := ⟨_, rfl⟩
      have hhd : (y[0].toNat : Int) = hdV y := by
        unfold hdV
        have e9 : y.data.toList.headD 0 = y[0] := by
          cases hvl : y.data.toList with
          | nil =>
            have h9 : y.data.toList.length = y.size := by simp
            rw [hvl] at h9
            simp at h9
            omega
          | cons c0 r0 =>
            have h9 : y[0] = y.data.toList[0]'(by rw [hvl]; simp) := rfl
            rw [h9]
            simp [hvl]
        rw [e9]
      rw [hhh] at hhd t2
      obtain ⟨fl, tx, hfl, htx⟩ : ∃ fl tx, mm.2.1 = fl ∧ mm.2.2 = tx := ⟨_, _, rfl, rfl⟩
      obtain ⟨mu, hmu⟩ : ∃ t, mm.1 = t := ⟨_, rfl⟩
      rw [hfl] at t2 q3 q4 HTK
      rw [htx] at t1 HTK q5
      rw [hmu] at hP3 HTK q1 q2
      have w8 : IntKind.u8.wrap fl = fl := by
        simp [IntKind.wrap, IntKind.bits, IntKind.signed]
        omega
      have w64 : IntKind.i64.wrap fl = fl := wrapI _ (by omega) (by omega)
      have hcut : ∀ W : World, (Instr.slice 9 (.string y) (some (.int .i64 1)) none none).run Tryz.prog W = .ok (.string tx) W := fun W => by
        rw [← t1]
        have := run_slice_string_l (P := Tryz.prog) (w := W) (t := 9) (s := y) Tryz.underlying9 .i64 1 (by omega) (by omega)
        exact this
      clear hsq hjl2 hxy hmm hmem hxy2 hmx hmy hpn hpk hX hY hZ hfl htx hmu hhh t1 hp1 hp2 hp3 HPD
      go_wp2_with fail
      go_loopw [11, 12] (fun nv kv wq => ∃ i : Nat, i ≤ 3 ∧ nv = .int .i64 (partD X Y Z i) ∧ kv = .int .i64 ((pl + i : Nat) : Int) ∧ wq = wr) (fun _ k _ => pl + 3 - (RowKit.intOf k).toNat)
      case atStart => exact ⟨0, by omega, rfl, rfl, rfl⟩
      case round =>
        obtain ⟨i, hi, rfl, rfl, rfl⟩ := hrel
        by_cases hi3 : i < 3
        · obtain ⟨_, hb1, hb2⟩ := hkd i hi3
          have hstep := part_step X Y Z i hi3
          have hD := hDG i
          have hP := hPD i
          have hP2 := hPD (i + 1)
          have hlk : ((pl + i : Nat) : Int) < (x.size : Int) := by omega
          obtain ⟨dg, hdg⟩ : ∃ t, digD X Y Z i = t := ⟨_, rfl⟩
          obtain ⟨pd, hpd⟩ : ∃ t, partD X Y Z i = t := ⟨_, rfl⟩
          rw [hdg] at hb2 hstep hD
          rw [hpd] at hstep hP ⊢
          have wd8 : IntKind.u8.wrap dg = dg := by
            simp [IntKind.wrap, IntKind.bits, IntKind.signed]
            omega
          have hsub : (48 + dg - 48 : Int) = dg := by omega
          go_wp2_with fail
          exact ⟨⟨i + 1, by omega, by rw [hstep], by rw [show ((pl + (i + 1) : Nat) : Int) = (pl : Int) + (i : Int) + 1 by omega], trivial⟩, by simp [RowKit.intOf]; omega⟩
        · obtain rfl : i = 3 := by omega
          have hlk : ¬ ((pl + 3 : Nat) : Int) < (x.size : Int) := by omega
          rw [hP3]
          have HUA : Hid (wr.ownsRow w.heap.size 59 2 (.slice (some ⟨gq, 0, none⟩) m cu) m (cellsP (Ms.map (mailP u f)))) := hur.out
          have hy0 : (0 : Int) < (y.size : Int) := by omega
          have hy1 : ¬ y = ByteArray.empty := fun h9 => by
            rw [h9] at hysz
            exact absurd hysz (by decide)
          have hy2 : 0 < y.size := by omega
          clear hur hkd hDG hPD hP3
          go_upto_region 12 with fail
          refine wp_region_noPanic ?_
          refine wp_region_held_drew (S := fun w' => w'.cell? ⟨gq, j * 2 + 1, none⟩ = some (.string y)) (by kernel_rfl) d1 (fun hHeld => ?_)
          refine tkA (i := 0) (v := .slice a' j c') ?_ hHeld ?_
          · intro w9 hSw
            go_simp
          simp only [Act.put, List.setIfInBounds_toArray, List.set_cons_zero, List.set_cons_succ]
          refine tkA (i := 1) (v := .int .i64 mu) ?_ hHeld ?_
          · intro w9 hSw
            go_simp
          simp only [Act.put, List.setIfInBounds_toArray, List.set_cons_zero, List.set_cons_succ]
          refine tkA (i := 2) (v := .slice (some ⟨gq, 0, none⟩) m cu) ?_ hHeld ?_
          · intro w9 hSw
            go_simp
          simp only [Act.put, List.setIfInBounds_toArray, List.set_cons_zero, List.set_cons_succ]
          refine tkA (i := 3) (v := .int .i64 (j : Int)) ?_ hHeld ?_
          · intro w9 hSw
            go_simp
          simp only [Act.put, List.setIfInBounds_toArray, List.set_cons_zero, List.set_cons_succ]
          refine tkA (i := 4) (v := .pointer (some ⟨gq, j * 2, none⟩)) ?_ hHeld ?_
          · intro w9 hSw
            go_simp
          simp only [Act.put, List.setIfInBounds_toArray, List.set_cons_zero, List.set_cons_succ]
          refine tkA (i := 5) (v := .pointer (some ⟨gq, j * 2 + 1, none⟩)) ?_ hHeld ?_
          · intro w9 hSw
            go_simp
          simp only [Act.put, List.setIfInBounds_toArray, List.set_cons_zero, List.set_cons_succ]
          refine tkA (i := 6) (v := .string y) ?_ hHeld ?_
          · intro w9 hSw
            go_simp
          simp only [Act.put, List.setIfInBounds_toArray, List.set_cons_zero, List.set_cons_succ]
          refine tkA (i := 7) (v := .int .u8 hh) ?_ hHeld ?_
          · intro w9 hSw
            go_simp
          simp only [Act.put, List.setIfInBounds_toArray, List.set_cons_zero, List.set_cons_succ]
          refine tkA (i := 8) (v := .int .u8 fl) ?_ hHeld ?_
          · intro w9 hSw
            go_simp
          simp only [Act.put, List.setIfInBounds_toArray, List.set_cons_zero, List.set_cons_succ]
          refine tkA (i := 9) (v := .int .i64 fl) ?_ hHeld ?_
          · intro w9 hSw
            go_simp
          simp only [Act.put, List.setIfInBounds_toArray, List.set_cons_zero, List.set_cons_succ]
          refine tkA (i := 10) (v := .slice (some ⟨gq, 0, none⟩) m cu) ?_ hHeld ?_
          · intro w9 hSw
            go_simp
          simp only [Act.put, List.setIfInBounds_toArray, List.set_cons_zero, List.set_cons_succ]
          refine tkA (i := 11) (v := .int .i64 (j : Int)) ?_ hHeld ?_
          · intro w9 hSw
            go_simp
          simp only [Act.put, List.setIfInBounds_toArray, List.set_cons_zero, List.set_cons_succ]
          refine tkA (i := 12) (v := .pointer (some ⟨gq, j * 2, none⟩)) ?_ hHeld ?_
          · intro w9 hSw
            go_simp
          simp only [Act.put, List.setIfInBounds_toArray, List.set_cons_zero, List.set_cons_succ]
          refine tkA (i := 13) (v := .pointer (some ⟨gq, j * 2 + 1, none⟩)) ?_ hHeld ?_
          · intro w9 hSw
            go_simp
          simp only [Act.put, List.setIfInBounds_toArray, List.set_cons_zero, List.set_cons_succ]
          refine tkA (i := 14) (v := .string y) ?_ hHeld ?_
          · intro w9 hSw
            go_simp
          simp only [Act.put, List.setIfInBounds_toArray, List.set_cons_zero, List.set_cons_succ]
          refine tkA (i := 15) (v := .string tx) ?_ hHeld ?_
          · intro w9 hSw
            have h9 := hcut w9
            go_simp
          simp only [Act.put, List.setIfInBounds_toArray, List.set_cons_zero, List.set_cons_succ]
          refine tkA (i := 16) (v := .agg #[.int .i64 mu, .int .i64 fl, .string tx]) ?_ hHeld ?_
          · intro w9 hSw
            go_simp
          simp only [Act.put, List.setIfInBounds_toArray, List.set_cons_zero, List.set_cons_succ]
          refine wpAnyH_ready (rs := [17]) (by kernel_rfl) (by simp) ?_
          refine AllReadyH.cons rfl (fun K hK => ?_) AllReadyH.nil
          go_simp
          have A1 : Hid (Below wr.heap.size wr (wr.alloc (.cells #[.int .i64 mu, .int .i64 fl, .string tx] 78)).drew) := (((Below.refl _ _).alloc (Nat.le_refl _) _)).drew
          have d1' := cell_later A1.out d1
          refine hK _ _ d1' (fun hHeld => ?_)
          clear hK K
          refine wpAnyH_ready (rs := [18]) (by kernel_rfl) (by simp) ?_
          refine AllReadyH.cons rfl (fun K hK => ?_) AllReadyH.nil
          refine step_append_src rfl (.tmp 50) (.tmp 67) 24 rfl w.heap.size 78 (.agg #[.int .i64 0, .int .i64 0, .string ⟨#[]⟩]) 3 32 Tryz.underlying24 infoMl rfl (by decide) (by decide) (.slice a' j c') j (cellsMl (Ms.take j)) (by rfl) (own_below ho.out A1.out) ⟨wr.heap.size, 0, none⟩ 1 1 (cellsMl [(mu, fl, tx)]) (by rfl) (by rfl) (src_oneMl rfl) (cellsMl_one _) (by omega) (by omega) (by have h9 := A1.out.size; have h7 := hbr.out.size; omega) ?_
          intro v6 w6 hown6 hgrow6 hloc6
          obtain ⟨a6, c6, rfl, _, _⟩ := own_src hown6
          have UD : (wr.alloc (.cells #[.int .i64 mu, .int .i64 fl, .string tx] 78)).drew.ownsRow w.heap.size 59 2 (.slice (some ⟨gq, 0, none⟩) m cu) m (cellsP (Ms.map (mailP u f))) := own_below HUA.out A1.out
          have U6 : Hid (w6.ownsRow w.heap.size 59 2 (.slice (some ⟨gq, 0, none⟩) m cu) m (cellsP (Ms.map (mailP u f)))) := own_grown (w := (wr.alloc (.cells #[.int .i64 mu, .int .i64 fl, .string tx] 78)).drew) UD hgrow6 (fun g h9 h7 => own_ne UD (own_below ho.out A1.out) (by decide) g h9 h7)
          have O6 : Hid (w6.ownsRow w.heap.size 78 3 (.slice a6 (j + 1) c6) (j + 1) (cellsMl (Ms.take (j + 1)))) := by
            show w6.ownsRow _ _ _ _ _ _
            rw [HTK.out]
            exact hown6
          have B6 : Hid (Below w.heap.size w w6) := (hbr.out.trans (A1.out.mono hbr.out.size)).grown hgrow6 (by have h9 := A1.out.size; have h7 := hbr.out.size; show w.heap.size ≤ (wr.alloc (.cells #[.int .i64 mu, .int .i64 fl, .string tx] 78)).drew.heap.size; omega) (fun g h9 => (ho.out.lt g h9).1)
          have d6 : w6.cell? ⟨gq, j * 2 + 1, none⟩ = some (.string y) := by
            have h9 := World.cell?_of_block (a := ⟨gq, j * 2 + 1, none⟩) (hgrow6.block gq (by have h8 := (UD.lt gq rfl).2; exact h8) (fun h7 => own_ne UD (own_below ho.out A1.out) (by decide) gq rfl h7.symm))
            rw [h9]
            exact d1'
          clear hown6 hgrow6 hloc6 UD
          refine hK _ _ d6 (fun hHeld => ?_)
          clear hK K
          refine wpAnyH_ready (rs := [19]) (by kernel_rfl) (by simp) ?_
          refine AllReadyH.cons rfl (fun K hK => ?_) AllReadyH.nil
          go_simp
          refine hK _ _ d6 (fun hHeld => ?_)
          clear hK K
          refine wpAnyH_done (by kernel_rfl) ?_ _
          refine NoPanic.normal ?_
          clear hHeld
          go_wp2_with fail
          exact ⟨⟨j + 1, a6, c6, by omega, rfl, by go_num, O6.out, U6.out, B6.out⟩, by simp [RowKit.intOf]; omega⟩
    · obtain rfl : j = m := by omega
      have hltj : ¬ (j : Int) < (j : Int) := by omega
      have HFO : Hid (wr.ownsRow w.heap.size 78 3 (.slice a' j c') Ms.length (cellsMl Ms)) := by
        have h9 := ho.out
        rw [List.take_of_length_le (by rw [HUM.out]; exact Nat.le_refl _)] at h9
        rw [HUM.out]
        exact h9
      clear ho hur
      go_wp2_with fail
      go_ret
      exact ⟨_, rfl, HFO.out, hbr.out⟩
end Go.Proofs.YthejpemiaenfpaaGreatDoor
namespace Go.Proofs.YthejpemiaenfpaaGreatDoor
open Go.ChangeShapes Go.WideShapes Go.ChangeAt Go.RowKit Go.Deep Go.Lib
set_option linter.unusedVariables false
set_option linter.unusedSimpArgs false
set_option maxRecDepth 100000

/-- A folder's mails lie in the list in their order. -/
def SubF (u : ByteArray) (P : List PM) (g : FM) : Prop := (g.mails.map (mailP u g.name)).Sublist P
theorem sub_take {nx : Int} {u : ByteArray} {P : List PM} {S S' : SM} {q : PM} (hnx : nx ≤ 10000) (hS : ∀ g ∈ S.fs, SubF u P g) (h : takeM nx u S q = some S') : ∀ g ∈ S'.fs, SubF u (P ++ [q]) g := by
  have hold : ∀ g ∈ S.fs, SubF u (P ++ [q]) g := fun g hg => (hS g hg).trans (List.sublist_append_left P [q])
  have hput : ∀ {o : Option FM}, putM S o = some S' → (∀ g, o = some g → SubF u (P ++ [q]) g) → ∀ g ∈ S'.fs, SubF u (P ++ [q]) g := fun {o} h9 hg => by
    unfold putM at h9
    obtain ⟨g, rfl, rfl⟩ := Option.map_eq_some_iff.1 h9
    intro f hf
    rcases putF_mem hf with hf | rfl
    · exact hold f hf
    · exact hg _ rfl
  have haside : asideM S q = some S' → ∀ g ∈ S'.fs, SubF u (P ++ [q]) g := fun h9 => by cases h9; exact hold
  unfold takeM takeP at h
  split at h
  · split at h
    · unfold userM at h
      obtain ⟨_, rfl⟩ := ite_some h
      exact hold
    · exact haside h
  · rename_i a b c hG
    split at h
    · rename_i hc
      refine hput h fun g hg => ?_
      have hgf := (folder_meta hnx).1 hg
      have hgm : g.mails = [] := by rw [hgf.2.2.2]
      unfold SubF
      rw [hgm]
      exact List.nil_sublist _
    · exact haside h
  · rename_i a b c d hG
    split at h
    · rename_i hc
      refine hput h fun g hg => ?_
      unfold mailM at hg
      obtain ⟨f', hl, hg2⟩ := Option.bind_eq_some_iff.1 hg
      obtain ⟨un, m1, m2, m3, m4, m5, m6, m7, m8, hgm⟩ := mailO_some hg2
      have hfn := (lookF_mem hl).2
      have hG2 : splitL 47 q.1.data.toList = [[109], b, c, d] := by rw [hG, hc.2]
      obtain ⟨hk, hnb, hnc⟩ := key_mail hG2
      have hub : u.data.toList = b := by rw [← hc.1]; simp [bs]
      have hpp : fPairs u g = fPairs u f' ++ [q] := by
        rw [hgm]
        refine mail_pairs m1 m2 m3 m5 m6 ?_
        rw [hk, hub, hfn]
        simp [bs]
      have hgn : g.name = f'.name := by rw [hgm]; rfl
      have e : g.mails.map (mailP u g.name) = f'.mails.map (mailP u f'.name) ++ [q] := by
        unfold fPairs at hpp
        rw [List.cons_append] at hpp
        exact (List.cons.inj hpp).2
      unfold SubF
      rw [e]
      exact (hS f' (lookF_mem hl).1).append_right [q]
    · exact haside h
  · exact haside h
theorem sub_all {nx : Int} {u : ByteArray} (hnx : nx ≤ 10000) : ∀ {R P : List PM} {S S' : SM}, (∀ g ∈ S.fs, SubF u P g) → takeAll nx u S R = some S' → ∀ g ∈ S'.fs, SubF u (P ++ R) g
  | [], P, S, S', hS, h => by cases h; rw [List.append_nil]; exact hS
  | q :: R, P, S, S', hS, h => by
    unfold takeAll at h
    obtain ⟨S1, h1, h2⟩ := Option.bind_eq_some_iff.1 h
    have h3 := sub_all hnx (P := P ++ [q]) (sub_take hnx hS h1) h2
    rw [List.append_assoc] at h3
    exact h3
theorem store_sub {L : List PM} {u : ByteArray} {S : SM} (h : storeB L = true) (hS : takeAll (nextM L) u S0 L = some S) : ∀ g ∈ S.fs, SubF u L g := by
  obtain ⟨hg, nx0, hnm, n1, n2, _, _, _⟩ := store_facts h
  exact sub_all (P := []) (by omega) (fun f hf => by cases hf) hS
theorem pass_not {u f : ByteArray} {p : PM} (h : passB u f p = true) : beginsB p.1 (preK u f) = false := by
  unfold passB at h
  rw [Bool.and_eq_true] at h
  simpa using h.2
theorem fol_mails {L : List PM} {u f : ByteArray} {S : SM} {g : FM} (h : storeB L = true) (hus : (47 : UInt8) ∉ u.data.toList) (hfs : (47 : UInt8) ∉ f.data.toList) (hS : takeAll (nextM L) u S0 L = some S) (hw : S.word.toList ≠ []) (hl : lookF f S.fs = some g) : (L.filter fun x => beginsB x.1 (preK u f)) = g.mails.map (mailP u f) := by
  obtain ⟨hg, nx0, hnm, n1, n2, _, _, _⟩ := store_facts h
  obtain ⟨hgm, hgn⟩ := lookF_mem hl
  have hnd := names_all (S := S0) List.nodup_nil hS
  have hsub := store_sub h hS g hgm
  unfold SubF at hsub
  rw [hgn] at hsub
  refine up_perm (hg.2.2.sublist List.filter_sublist) (hg.2.2.sublist hsub) ?_
  refine ((desk_list h hus hS hw).filter _).trans ?_
  have e1 : beginsB vK (preK u f) = false := by
    cases hb : beginsB vK (preK u f) with
    | false => rfl
    | true =>
      obtain ⟨r, hr⟩ := begins_pre.1 hb
      simp at hr
  have e2 : beginsB (userK u) (preK u f) = false := by
    cases hb : beginsB (userK u) (preK u f) with
    | false => rfl
    | true =>
      obtain ⟨r, hr⟩ := begins_pre.1 hb
      simp [ByteArray.data_append] at hr
  rw [List.filter_cons_of_neg (by simp [e1]), List.filter_cons_of_neg (by simp [e2]), List.filter_append]
  have e3 : ((notK vK S.aside).filter fun x => beginsB x.1 (preK u f)) = [] := by
    rw [List.filter_eq_nil_iff]
    intro p hp
    rw [pass_not (aside_pass h hus hfs hS hp)]
    simp
  rw [e3, List.nil_append]
  refine ((flat_perm (drop_perm hl)).filter _).trans ?_
  have hrest := rest_pass (u := u) (f := f) (fs := dropF f S.fs) hus hfs fun x hx => ⟨drop_names hnd x hx, word_slash (name_short h hus hS ((dropF_sub f S.fs).subset hx))⟩
  rw [List.filter_eq_self] at hrest
  have e4 : ((flatF u (dropF f S.fs)).filter fun x => beginsB x.1 (preK u f)) = [] := by
    rw [List.filter_eq_nil_iff]
    intro p hp
    rw [pass_not (hrest p hp)]
    simp
  rw [flat_cons, List.filter_append, e4, List.append_nil]
  unfold fPairs
  have e5 : beginsB (folderK u g.name) (preK u f) = false := by
    cases hb : beginsB (folderK u g.name) (preK u f) with
    | false => rfl
    | true =>
      obtain ⟨r, hr⟩ := begins_pre.1 hb
      rw [folderK_data] at hr
      simp at hr
  rw [List.filter_cons_of_neg (by simp [e5]), hgn]
  have e6 : ((g.mails.map (mailP u f)).filter fun x => beginsB x.1 (preK u f)) = g.mails.map (mailP u f) := by
    rw [List.filter_eq_self]
    intro p hp
    obtain ⟨m, _, rfl⟩ := List.mem_map.1 hp
    exact begins_pre.2 ⟨d3 m.1.toNat, by simp [mailP, bs]⟩
  rw [e6]
end Go.Proofs.YthejpemiaenfpaaGreatDoor
namespace Go.Proofs.YthejpemiaenfpaaGreatDoor
open Go.ChangeShapes Go.WideShapes Go.ChangeAt Go.RowKit Go.Deep Go.Lib
set_option linter.unusedVariables false
set_option linter.unusedSimpArgs false
set_option maxRecDepth 100000

theorem gb_trans {a b c : World} {row : Option Nat} (h : a.grownBy b row) (k : b.grownBy c row) : a.grownBy c row :=
  ⟨k.os.trans h.os, k.tape.trans h.tape, k.output.trans h.output, Nat.le_trans h.size k.size, fun i hi hne => (k.block i (Nat.lt_of_lt_of_le hi h.size) hne).trans (h.block i hi hne)⟩
theorem eqFolder (nm : ByteArray) (va nx : Int) (a b : Option Addr) (n c d : Nat) (L : List MMl) (w : World) (hL : L.length = n) (hn : n ≤ 9000000000000000000) (ha : Src w a (cellsMl L)) (hb : Src w b (cellsMl L)) :
    Calls Tryz.prog 16 #[.agg #[.string nm, .int .i64 va, .int .i64 nx, .slice a n c], .agg #[.string nm, .int .i64 va, .int .i64 nx, .slice b n d]] w fun e w' => e = .returned (.bool true) ∧ Below w.heap.size w w' := by
  have HA : Hid (Src w a (cellsMl L)) := ha
  have HB : Hid (Src w b (cellsMl L)) := hb
  have HL : Hid (L.length = n) := hL
  have e2 : (va != va) = false := by simp
  have e3 : (nx != nx) = false := by simp
  clear ha hb hL
  go_enter Tryz.func16, Tryz.ntmps16
  go_wp2_with fail
  refine (eqMailS a b n c d L _ HL.out hn (HA.out.below (((Below.refl _ _).alloc (Nat.le_refl _) _).alloc (by simp) _)) (HB.out.below (((Below.refl _ _).alloc (Nat.le_refl _) _).alloc (by simp) _))).mono ?_
  rintro e w1 ⟨rfl, hb1⟩
  have B1 : Hid (Below w.heap.size w w1) := (((Below.refl _ _).alloc (Nat.le_refl _) _).alloc (by simp) _).trans (hb1.mono (by simp; omega))
  clear hb1
  go_wp2_with fail
  go_ret
  exact ⟨rfl, B1.out⟩
theorem markFolder (nm : ByteArray) (va nx : Int) (a : Option Addr) (n c k base : Nat) (xs : List Value) (w : World) (hn : n ≤ 1048576) (hk0 : 0 < k) (hk1 : k ≤ 4194304) (ho : w.ownsRow base 78 3 (.slice a n c) n xs) :
    Calls Tryz.prog 19 #[.agg #[.string nm, .int .i64 va, .int .i64 nx, .slice a n c], .int .i64 (k : Int)] w fun e w' => e = .returned (.int .i64 ((k + n * 3 : Nat) : Int)) ∧ w.grownBy w' (Value.ownBlock (.slice a n c)) ∧ w'.ownsRow base 78 3 (.slice a n c) n (cellsMl (mkMl k n)) := by
  have HO : Hid (w.ownsRow base 78 3 (.slice a n c) n xs) := ho
  have AL : Hid (Below w.heap.size w (w.alloc (.cells #[.string nm, .int .i64 va, .int .i64 nx, .slice a n c] 26))) := (Below.refl _ _).alloc (Nat.le_refl _) _
  have GA : Hid (w.grownBy (w.alloc (.cells #[.string nm, .int .i64 va, .int .i64 nx, .slice a n c] 26)) (Value.ownBlock (.slice a n c))) := World.grownBy_alloc w _ _
  have CM := markMailS (.slice a n c) n k base xs (w.alloc (.cells #[.string nm, .int .i64 va, .int .i64 nx, .slice a n c] 26)) hn hk0 hk1 (own_below ho AL.out)
  clear ho
  go_enter Tryz.func19, Tryz.ntmps19
  go_wp2_with fail
  refine CM.mono ?_
  rintro e w1 ⟨rfl, G1, m1⟩
  have G2 : Hid (w.grownBy w1 (Value.ownBlock (.slice a n c))) := gb_trans GA.out G1
  have M2 : Hid (w1.ownsRow base 78 3 (.slice a n c) n (cellsMl (mkMl k n))) := m1
  clear G1 m1 CM
  obtain ⟨z, hz⟩ : ∃ z : Nat, k + n * 3 = z := ⟨_, rfl⟩
  rw [hz]
  have EZ : Hid (k + n * 3 = z) := hz
  clear hz
  go_wp2_with fail
  go_ret
  exact ⟨by rw [EZ.out]; rfl, G2.out, M2.out⟩
theorem heldFolder (nm : ByteArray) (va nx : Int) (a : Option Addr) (n c k : Nat) (w : World) (hn : n ≤ 1048576) (hk0 : 0 < k) (hk1 : k ≤ 4194304) (ho : Src w a (cellsMl (mkMl k n))) :
    Calls Tryz.prog 20 #[.agg #[.string nm, .int .i64 va, .int .i64 nx, .slice a n c], .int .i64 (k : Int)] w fun e w' => e = .returned (.int .i64 ((k + n * 3 : Nat) : Int)) ∧ Below w.heap.size w w' := by
  have CH := heldMailS a n c k (w.alloc (.cells #[.string nm, .int .i64 va, .int .i64 nx, .slice a n c] 26)) hn hk0 hk1 (ho.below ((Below.refl _ _).alloc (Nat.le_refl _) _))
  clear ho
  go_enter Tryz.func20, Tryz.ntmps20
  go_wp2_with fail
  refine CH.mono ?_
  rintro e w1 ⟨rfl, hb1⟩
  have B1 : Hid (Below w.heap.size w w1) := Below.new hb1
  clear hb1 CH
  obtain ⟨z, hz⟩ : ∃ z : Nat, k + n * 3 = z := ⟨_, rfl⟩
  rw [hz]
  have hz0 : ¬ (z : Int) < 0 := by omega
  have EZ : Hid (k + n * 3 = z) := hz
  clear hz
  go_wp2_with fail
  go_ret
  exact ⟨by rw [EZ.out]; rfl, B1.out⟩
/-- A folder as an answer tells it. -/
abbrev z4 : ByteArray × Int × Int × List MMl := (⟨#[]⟩, 0, 0, [])
def faG (o : Option FM) : ByteArray × Int × Int × List MMl := match o with
  | some g => (g.name, g.val, g.next, g.mails)
  | none => z4
def faO (o : Option SM) (f : ByteArray) : ByteArray × Int × Int × List MMl := match o with
  | some S => faG (lookF f S.fs)
  | none => z4
def faM (L : List PM) (u f : ByteArray) : (ByteArray × Int × Int × List MMl) × Int := if askM L [u, f] = 0 then (if knownR L u f = 0 then (faO (takeAll (nextM L) u S0 L) f, 0) else (z4, knownR L u f)) else (z4, askM L [u, f])
theorem fa_ask {L : List PM} {u f : ByteArray} {q : Int} (h : askM L [u, f] = q) (hq : q ≠ 0) : faM L u f = ((⟨#[]⟩, 0, 0, []), q) := by
  unfold faM
  rw [h, if_neg hq]
theorem fa_known {L : List PM} {u f : ByteArray} {q : Int} (h : askM L [u, f] = 0) (hk : knownR L u f = q) (hq : q ≠ 0) : faM L u f = ((⟨#[]⟩, 0, 0, []), q) := by
  unfold faM
  rw [h, if_pos rfl, hk, if_neg hq]
theorem fa_some {L : List PM} {u f : ByteArray} {S : SM} {g : FM} (h : askM L [u, f] = 0) (hk : knownR L u f = 0) (hS : takeAll (nextM L) u S0 L = some S) (hl : lookF f S.fs = some g) : faM L u f = ((f, g.val, g.next, g.mails), 0) := by
  unfold faM
  rw [h, if_pos rfl, hk, if_pos rfl, hS]
  show (faG (lookF f S.fs), (0 : Int)) = _
  rw [hl]
  show ((g.name, g.val, g.next, g.mails), (0 : Int)) = _
  rw [(lookF_mem hl).2]
theorem fa_desk {L : List PM} {u f : ByteArray} {S : SM} (h : askM L [u, f] = 0) (hS : takeAll (nextM L) u S0 L = some S) : faM L u f = (faG (lookF f S.fs), knownR L u f) := by
  obtain ⟨hst, hsu, hsf⟩ := ask_zero2 h
  have hus := word_slash hsu
  have hfs := word_slash hsf
  unfold faM
  rw [h, if_pos rfl]
  by_cases hk : knownR L u f = 0
  · rw [hk, if_pos rfl, hS]
    rfl
  · rw [if_neg hk]
    have hn : lookF f S.fs = none := by
      obtain ⟨hwi, _⟩ := word_iff hst hus hS
      obtain ⟨hli, _⟩ := look_iff hst hus hS hfs
      cases hu : getM L (userK u) with
      | none => rw [no_folders hst hus hS hu]; rfl
      | some v =>
        cases hl : lookF f S.fs with
        | none => rfl
        | some g =>
          exfalso
          refine hk ?_
          unfold knownR
          rw [hu, ← hli, hl]
          rfl
    rw [hn]
    rfl
theorem fa_small {L : List PM} {u f nm : ByteArray} {va nx q : Int} {R : List MMl} (h : faM L u f = ((nm, va, nx, R), q)) : R.length ≤ 1048576 := by
  by_cases ha : askM L [u, f] = 0
  · obtain ⟨hst, hsu, hsf⟩ := ask_zero2 ha
    have hus := word_slash hsu
    obtain ⟨S, hS, _, _⟩ := take_all hst hus
    rw [fa_desk ha hS] at h
    cases hl : lookF f S.fs with
    | none =>
      rw [hl] at h
      cases h
      simp
    | some g =>
      rw [hl] at h
      have h2 := (store_sub hst hS g (lookF_mem hl).1).length_le
      rw [List.length_map] at h2
      have h3 := (store_facts hst).1.1
      cases h
      show g.mails.length ≤ _
      omega
  · rw [fa_ask rfl ha] at h
    cases h
    simp
theorem fit_ms {g : FM} (h : FitF g) : FitMs g.mails := h.2.2.2.2.2
theorem at_pack {w : World} {M : Nat} {a : Option Addr} {n c : Nat} {nx : Int} {u : ByteArray} {S : SM} {k0 : Nat} (hS : StAt w M a n c nx u S k0) (f : ByteArray) : ∃ va X, DeskAt w M ⟨a, n, c, va, S.aside, nx, u, S.word, X⟩ ∧ ∃ nm v1 v2 a' n' c' R, atX (lookX (folderK u f) X) = .agg #[.string nm, .int .i64 v1, .int .i64 v2, .slice a' n' c'] ∧ R.length = n' ∧ w.ownsRow (M + 2) 78 3 (.slice a' n' c') n' (cellsMl R) ∧ faG (lookF f S.fs) = (nm, v1, v2, R) := by
  obtain ⟨va, X, hD, hV, _⟩ := hS
  refine ⟨va, X, hD, ?_⟩
  have hl := hV.look f
  have hrows := hD.2.2.2
  cases hx : lookX (folderK u f) X with
  | none =>
    rw [hx] at hl
    have hl2 : lookF f S.fs = none := hl.symm
    rw [hl2]
    exact ⟨_, _, _, none, 0, 0, [], rfl, rfl, World.ownsRow_nil _ _ _ _, rfl⟩
  | some x =>
    rw [hx] at hl
    have hl2 : lookF f S.fs = some (fmX x) := hl.symm
    rw [hl2]
    have ho := hrows.1 x (look_mem hx)
    obtain ⟨a', c', hv, _, _⟩ := own_src ho
    rw [hv] at ho
    exact ⟨x.name, x.val, x.next, a', x.mails.length, c', x.mails, by show valX x = _; unfold valX; rw [hv], rfl, ho, rfl⟩
set_option maxHeartbeats 2000000 in
theorem l07AtS (a : Option Addr) (n c : Nat) (L : List PM) (hL : L.length = n) (hg : GoodL L) (u f : ByteArray) (hus : u.size ≤ 1000) (hfs : f.size ≤ 1000) (Ms : List MMl) (hM : FitMs Ms) (hU : (L.filter fun x => beginsB x.1 (preK u f)) = Ms.map (mailP u f)) (va nx : Int) (hm : metaM L u f = some (va, nx)) (w : World) (h : Src w a (cellsP L)) :
    Calls Tryz.prog 44 #[.slice a n c, .string u, .string f] w fun e w' => ∃ a' c', e = .returned (.agg #[.string f, .int .i64 va, .int .i64 nx, .slice a' Ms.length c']) ∧ w'.ownsRow w.heap.size 78 3 (.slice a' Ms.length c') Ms.length (cellsMl Ms) ∧ Below w.heap.size w w' := by
  have AL : Hid (Below w.heap.size w (w.alloc (.cells #[.string ⟨#[]⟩, .int .i64 0, .int .i64 0, .slice none 0 0] 26))) := (Below.refl _ _).alloc (Nat.le_refl _) _
  have CM := l07MetaS a n c L u f (w.alloc (.cells #[.string ⟨#[]⟩, .int .i64 0, .int .i64 0, .slice none 0 0] 26)) hL hg (by omega) (by omega) (h.below AL.out)
  have CO := fun W (hW : Below w.heap.size w W) => l07OfS a n c L hL hg u f hus hfs Ms hM hU W (h.below hW)
  have HM : Hid (metaM L u f = some (va, nx)) := hm
  obtain ⟨tb, htb⟩ : ∃ t, (metaM L u f).isSome = t := ⟨_, rfl⟩
  rw [htb] at CM
  clear hL hg hM hU hm h htb
  go_enter Tryz.func44, Tryz.ntmps44
  go_wp2_with fail
  refine CM.mono ?_
  rintro e w1 ⟨x1, y1, rfl, hp, hb1⟩
  obtain ⟨e1, e2⟩ := hp _ HM.out
  have e1' : x1 = va := e1
  have e2' : y1 = nx := e2
  subst e1' e2'
  have B1 : Hid (Below w.heap.size w w1) := AL.out.trans (hb1.mono AL.out.size)
  have X1 : Hid (Box w1 w.heap.size [.string ⟨#[]⟩, .int .i64 0, .int .i64 0, .slice none 0 0]) := Box.below (Box.new rfl) hb1
  have Z1 : Hid (w.heap.size < w1.heap.size) := by
    have h9 := hb1.size
    have h8 : (w.alloc (.cells #[.string ⟨#[]⟩, .int .i64 0, .int .i64 0, .slice none 0 0] 26)).heap.size = w.heap.size + 1 := by simp
    show w.heap.size < w1.heap.size
    omega
  have CO1 := CO w1 B1.out
  clear hb1 hp e1 e2 CM CO HM
  go_wp2_with fail
  refine CO1.mono ?_
  rintro e w2 ⟨v2, rfl, ho2, hb2⟩
  obtain ⟨a2, c2, rfl, _, _⟩ := own_src ho2
  have B2 : Hid (Below w.heap.size w w2) := B1.out.trans (hb2.mono B1.out.size)
  have X2 : Hid (Box w2 w.heap.size [.string ⟨#[]⟩, .int .i64 0, .int .i64 0, .slice none 0 0]) := Box.below X1.out hb2
  have O2 : Hid (w2.ownsRow w1.heap.size 78 3 (.slice a2 Ms.length c2) Ms.length (cellsMl Ms)) := ho2
  clear ho2 hb2 CO1
  obtain ⟨p0, pf0⟩ := (X2.out) 0 _ rfl
  obtain ⟨p1, pf1⟩ := ((X2.out).set 0 (.string f)) 1 _ rfl
  obtain ⟨p2, pf2⟩ := (((X2.out).set 0 (.string f)).set 1 (.int .i64 x1)) 2 _ rfl
  obtain ⟨p3, pf3⟩ := ((((X2.out).set 0 (.string f)).set 1 (.int .i64 x1)).set 2 (.int .i64 y1)) 3 _ rfl
  have X8 := ((((X2.out).set 0 (.string f)).set 1 (.int .i64 x1)).set 2 (.int .i64 y1)).set 3 (.slice a2 Ms.length c2)
  obtain ⟨r0, _⟩ := X8 0 _ rfl
  obtain ⟨r1, _⟩ := X8 1 _ rfl
  obtain ⟨r2, _⟩ := X8 2 _ rfl
  obtain ⟨r3, _⟩ := X8 3 _ rfl
  clear X8
  have BE : Hid (Below w.heap.size w ((((w2.setCell ⟨w.heap.size, 0, none⟩ (.string f)).setCell ⟨w.heap.size, 1, none⟩ (.int .i64 x1)).setCell ⟨w.heap.size, 2, none⟩ (.int .i64 y1)).setCell ⟨w.heap.size, 3, none⟩ (.slice a2 Ms.length c2))) := (((B2.out.setCell (Nat.le_refl _) _).setCell (Nat.le_refl _) _).setCell (Nat.le_refl _) _).setCell (Nat.le_refl _) _
  have OE : Hid (((((w2.setCell ⟨w.heap.size, 0, none⟩ (.string f)).setCell ⟨w.heap.size, 1, none⟩ (.int .i64 x1)).setCell ⟨w.heap.size, 2, none⟩ (.int .i64 y1)).setCell ⟨w.heap.size, 3, none⟩ (.slice a2 Ms.length c2)).ownsRow w.heap.size 78 3 (.slice a2 Ms.length c2) Ms.length (cellsMl Ms)) := own_mono (own_setLow (own_setLow (own_setLow (own_setLow (O2.out) Z1.out _) Z1.out _) Z1.out _) Z1.out _) B1.out.size
  go_wp2_with fail
  exact bodyPost_ret (v := .agg #[.string f, .int .i64 x1, .int .i64 y1, .slice a2 Ms.length c2]) (by simp [results, Tryz.results44, go_sem, r0, r1, r2, r3]) rfl ⟨_, _, rfl, OE.out, BE.out⟩

end Go.Proofs.YthejpemiaenfpaaGreatDoor
namespace Go.Proofs.YthejpemiaenfpaaGreatDoor
open Go.ChangeShapes Go.WideShapes Go.ChangeAt Go.RowKit Go.Deep Go.Lib
set_option linter.unusedVariables false
set_option linter.unusedSimpArgs false
set_option maxRecDepth 100000

set_option maxHeartbeats 4000000 in
theorem specFolderAt (a : Option Addr) (n c : Nat) (L : List PM) (x y : ByteArray) (w : World) (hL : L.length = n) (hn : n ≤ 1048576) (hs : ∀ x ∈ L, x.1.size ≤ 1048576 ∧ x.2.size ≤ 1048576) (h : Src w a (cellsP L)) (hx : x.size ≤ 1048576) (hy : y.size ≤ 1048576) :
    Calls Tryz.prog 13 #[.slice a n c, .string x, .string y] w fun e w' => ∃ nm va nx a' n' c' R q, e = .returned (.tuple #[.agg #[.string nm, .int .i64 va, .int .i64 nx, .slice a' n' c'], .int .i64 q]) ∧ faM L x y = ((nm, va, nx, R), q) ∧ R.length = n' ∧ w'.ownsRow w.heap.size 78 3 (.slice a' n' c') n' (cellsMl R) ∧ Below w.heap.size w w' := by
  have HLN : Hid (L.length = n) := hL
  have HS : Hid (Src w a (cellsP L)) := h
  have AL : Hid (Below w.heap.size w (w.alloc (.cells #[.string ⟨#[]⟩, .int .i64 0, .int .i64 0, .slice none 0 0] 26))) := (Below.refl _ _).alloc (Nat.le_refl _) _
  have AN : Hid (Below w.heap.size w ((w.alloc (.cells #[.string ⟨#[]⟩, .int .i64 0, .int .i64 0, .slice none 0 0] 26)).alloc (.cells #[.string x, .string y] 9))) := AL.out.alloc (by simp) _
  have XN : Hid (Box ((w.alloc (.cells #[.string ⟨#[]⟩, .int .i64 0, .int .i64 0, .slice none 0 0] 26)).alloc (.cells #[.string x, .string y] 9)) w.heap.size [.string ⟨#[]⟩, .int .i64 0, .int .i64 0, .slice none 0 0]) := (Box.new rfl).old _
  have ZN : Hid (w.heap.size < ((w.alloc (.cells #[.string ⟨#[]⟩, .int .i64 0, .int .i64 0, .slice none 0 0] 26)).alloc (.cells #[.string x, .string y] 9)).heap.size) := by show w.heap.size < ((w.alloc (.cells #[.string ⟨#[]⟩, .int .i64 0, .int .i64 0, .slice none 0 0] 26)).alloc (.cells #[.string x, .string y] 9)).heap.size; simp; omega
  obtain ⟨q, hq⟩ : ∃ q, askM L [x, y] = q := ⟨_, rfl⟩
  have HQQ : Hid (askM L [x, y] = q) := hq
  have CA := l07AskS a n c L (some ⟨w.heap.size + 1, 0, none⟩) 2 2 [x, y] ((w.alloc (.cells #[.string ⟨#[]⟩, .int .i64 0, .int .i64 0, .slice none 0 0] 26)).alloc (.cells #[.string x, .string y] 9)) hL hn hs (HS.out.below AN.out) rfl (by omega) (fun s hs => by
    rcases List.mem_cons.1 hs with rfl | hs
    · exact hx
    · rw [List.mem_singleton.1 hs]; exact hy) (src_2S (by simp)) q hq
  clear hL h hs hq
  by_cases h1 : 4096 < n
  · have h1i : (4096 : Int) < (n : Int) := by omega
    have HE : Hid (faM L x y = ((⟨#[]⟩, 0, 0, []), 2)) := by
      refine fa_ask ?_ (by decide)
      unfold askM
      rw [if_pos (.inl (by rw [HLN.out]; exact h1))]
    have X0 : Hid (Box (w.alloc (.cells #[.string ⟨#[]⟩, .int .i64 0, .int .i64 0, .slice none 0 0] 26)) w.heap.size [.string ⟨#[]⟩, .int .i64 0, .int .i64 0, .slice none 0 0]) := Box.new rfl
    go_enter Tryz.func13, Tryz.ntmps13
    obtain ⟨p0, pf0⟩ := (X0.out) 0 _ rfl
    obtain ⟨p1, pf1⟩ := ((X0.out).set 0 (.string ⟨#[]⟩)) 1 _ rfl
    obtain ⟨p2, pf2⟩ := (((X0.out).set 0 (.string ⟨#[]⟩)).set 1 (.int .i64 0)) 2 _ rfl
    obtain ⟨p3, pf3⟩ := ((((X0.out).set 0 (.string ⟨#[]⟩)).set 1 (.int .i64 0)).set 2 (.int .i64 0)) 3 _ rfl
    have X8 := ((((X0.out).set 0 (.string ⟨#[]⟩)).set 1 (.int .i64 0)).set 2 (.int .i64 0)).set 3 (.slice none 0 0)
    obtain ⟨r0, _⟩ := X8 0 _ rfl
    obtain ⟨r1, _⟩ := X8 1 _ rfl
    obtain ⟨r2, _⟩ := X8 2 _ rfl
    obtain ⟨r3, _⟩ := X8 3 _ rfl
    clear X8
    have BE : Hid (Below w.heap.size w (((((w.alloc (.cells #[.string ⟨#[]⟩, .int .i64 0, .int .i64 0, .slice none 0 0] 26)).setCell ⟨w.heap.size, 0, none⟩ (.string ⟨#[]⟩)).setCell ⟨w.heap.size, 1, none⟩ (.int .i64 0)).setCell ⟨w.heap.size, 2, none⟩ (.int .i64 0)).setCell ⟨w.heap.size, 3, none⟩ (.slice none 0 0))) := (((AL.out.setCell (Nat.le_refl _) _).setCell (Nat.le_refl _) _).setCell (Nat.le_refl _) _).setCell (Nat.le_refl _) _
    go_wp2_with fail
    exact bodyPost_ret (v := .tuple #[.agg #[.string ⟨#[]⟩, .int .i64 0, .int .i64 0, .slice none 0 0], .int .i64 2]) (by simp [results, Tryz.results13, go_sem, r0, r1, r2, r3]) rfl ⟨_, _, _, _, _, _, [], _, rfl, HE.out, rfl, World.ownsRow_nil _ _ _ _, AL.out⟩

  have h1i : ¬ (4096 : Int) < (n : Int) := by omega
  by_cases h2 : 65536 < x.size
  · have h2i : (65536 : Int) < (x.size : Int) := by omega
    have HE : Hid (faM L x y = ((⟨#[]⟩, 0, 0, []), 2)) := by
      refine fa_ask ?_ (by decide)
      unfold askM
      rw [if_pos (.inr (by show (smallT x && _) = false; rw [show smallT x = false from decide_eq_false (by omega)]; rfl))]
    have X0 : Hid (Box (w.alloc (.cells #[.string ⟨#[]⟩, .int .i64 0, .int .i64 0, .slice none 0 0] 26)) w.heap.size [.string ⟨#[]⟩, .int .i64 0, .int .i64 0, .slice none 0 0]) := Box.new rfl
    go_enter Tryz.func13, Tryz.ntmps13
    obtain ⟨p0, pf0⟩ := (X0.out) 0 _ rfl
    obtain ⟨p1, pf1⟩ := ((X0.out).set 0 (.string ⟨#[]⟩)) 1 _ rfl
    obtain ⟨p2, pf2⟩ := (((X0.out).set 0 (.string ⟨#[]⟩)).set 1 (.int .i64 0)) 2 _ rfl
    obtain ⟨p3, pf3⟩ := ((((X0.out).set 0 (.string ⟨#[]⟩)).set 1 (.int .i64 0)).set 2 (.int .i64 0)) 3 _ rfl
    have X8 := ((((X0.out).set 0 (.string ⟨#[]⟩)).set 1 (.int .i64 0)).set 2 (.int .i64 0)).set 3 (.slice none 0 0)
    obtain ⟨r0, _⟩ := X8 0 _ rfl
    obtain ⟨r1, _⟩ := X8 1 _ rfl
    obtain ⟨r2, _⟩ := X8 2 _ rfl
    obtain ⟨r3, _⟩ := X8 3 _ rfl
    clear X8
    have BE : Hid (Below w.heap.size w (((((w.alloc (.cells #[.string ⟨#[]⟩, .int .i64 0, .int .i64 0, .slice none 0 0] 26)).setCell ⟨w.heap.size, 0, none⟩ (.string ⟨#[]⟩)).setCell ⟨w.heap.size, 1, none⟩ (.int .i64 0)).setCell ⟨w.heap.size, 2, none⟩ (.int .i64 0)).setCell ⟨w.heap.size, 3, none⟩ (.slice none 0 0))) := (((AL.out.setCell (Nat.le_refl _) _).setCell (Nat.le_refl _) _).setCell (Nat.le_refl _) _).setCell (Nat.le_refl _) _
    go_wp2_with fail
    exact bodyPost_ret (v := .tuple #[.agg #[.string ⟨#[]⟩, .int .i64 0, .int .i64 0, .slice none 0 0], .int .i64 2]) (by simp [results, Tryz.results13, go_sem, r0, r1, r2, r3]) rfl ⟨_, _, _, _, _, _, [], _, rfl, HE.out, rfl, World.ownsRow_nil _ _ _ _, AL.out⟩

  have h2i : ¬ (65536 : Int) < (x.size : Int) := by omega
  by_cases h3 : 65536 < y.size
  · have h3i : (65536 : Int) < (y.size : Int) := by omega
    have HE : Hid (faM L x y = ((⟨#[]⟩, 0, 0, []), 2)) := by
      refine fa_ask ?_ (by decide)
      unfold askM
      rw [if_pos (.inr (by show (smallT x && (smallT y && true)) = false; rw [show smallT y = false from decide_eq_false (by omega)]; simp))]
    have X0 : Hid (Box (w.alloc (.cells #[.string ⟨#[]⟩, .int .i64 0, .int .i64 0, .slice none 0 0] 26)) w.heap.size [.string ⟨#[]⟩, .int .i64 0, .int .i64 0, .slice none 0 0]) := Box.new rfl
    go_enter Tryz.func13, Tryz.ntmps13
    obtain ⟨p0, pf0⟩ := (X0.out) 0 _ rfl
    obtain ⟨p1, pf1⟩ := ((X0.out).set 0 (.string ⟨#[]⟩)) 1 _ rfl
    obtain ⟨p2, pf2⟩ := (((X0.out).set 0 (.string ⟨#[]⟩)).set 1 (.int .i64 0)) 2 _ rfl
    obtain ⟨p3, pf3⟩ := ((((X0.out).set 0 (.string ⟨#[]⟩)).set 1 (.int .i64 0)).set 2 (.int .i64 0)) 3 _ rfl
    have X8 := ((((X0.out).set 0 (.string ⟨#[]⟩)).set 1 (.int .i64 0)).set 2 (.int .i64 0)).set 3 (.slice none 0 0)
    obtain ⟨r0, _⟩ := X8 0 _ rfl
    obtain ⟨r1, _⟩ := X8 1 _ rfl
    obtain ⟨r2, _⟩ := X8 2 _ rfl
    obtain ⟨r3, _⟩ := X8 3 _ rfl
    clear X8
    have BE : Hid (Below w.heap.size w (((((w.alloc (.cells #[.string ⟨#[]⟩, .int .i64 0, .int .i64 0, .slice none 0 0] 26)).setCell ⟨w.heap.size, 0, none⟩ (.string ⟨#[]⟩)).setCell ⟨w.heap.size, 1, none⟩ (.int .i64 0)).setCell ⟨w.heap.size, 2, none⟩ (.int .i64 0)).setCell ⟨w.heap.size, 3, none⟩ (.slice none 0 0))) := (((AL.out.setCell (Nat.le_refl _) _).setCell (Nat.le_refl _) _).setCell (Nat.le_refl _) _).setCell (Nat.le_refl _) _
    go_wp2_with fail
    exact bodyPost_ret (v := .tuple #[.agg #[.string ⟨#[]⟩, .int .i64 0, .int .i64 0, .slice none 0 0], .int .i64 2]) (by simp [results, Tryz.results13, go_sem, r0, r1, r2, r3]) rfl ⟨_, _, _, _, _, _, [], _, rfl, HE.out, rfl, World.ownsRow_nil _ _ _ _, AL.out⟩

  have h3i : ¬ (65536 : Int) < (y.size : Int) := by omega
  by_cases hq0 : q = 0
  case neg =>
    have hqi : (q != 0) = true := by simpa using hq0
    have HE : Hid (faM L x y = ((⟨#[]⟩, 0, 0, []), q)) := fa_ask HQQ.out hq0
    clear hq0
    go_enter Tryz.func13, Tryz.ntmps13
    go_wp2_with fail
    refine CA.mono ?_
    rintro e w3 ⟨rfl, hb3⟩
    have B3 : Hid (Below w.heap.size w w3) := AN.out.trans (hb3.mono AN.out.size)
    have X3 : Hid (Box w3 w.heap.size [.string ⟨#[]⟩, .int .i64 0, .int .i64 0, .slice none 0 0]) := Box.below XN.out hb3
    have Z3 : Hid (w.heap.size < w3.heap.size) := Nat.lt_of_lt_of_le ZN.out hb3.size
    clear hb3 CA

    obtain ⟨p0, pf0⟩ := (X3.out) 0 _ rfl
    obtain ⟨p1, pf1⟩ := ((X3.out).set 0 (.string ⟨#[]⟩)) 1 _ rfl
    obtain ⟨p2, pf2⟩ := (((X3.out).set 0 (.string ⟨#[]⟩)).set 1 (.int .i64 0)) 2 _ rfl
    obtain ⟨p3, pf3⟩ := ((((X3.out).set 0 (.string ⟨#[]⟩)).set 1 (.int .i64 0)).set 2 (.int .i64 0)) 3 _ rfl
    have X8 := ((((X3.out).set 0 (.string ⟨#[]⟩)).set 1 (.int .i64 0)).set 2 (.int .i64 0)).set 3 (.slice none 0 0)
    obtain ⟨r0, _⟩ := X8 0 _ rfl
    obtain ⟨r1, _⟩ := X8 1 _ rfl
    obtain ⟨r2, _⟩ := X8 2 _ rfl
    obtain ⟨r3, _⟩ := X8 3 _ rfl
    clear X8
    have BE : Hid (Below w.heap.size w ((((w3.setCell ⟨w.heap.size, 0, none⟩ (.string ⟨#[]⟩)).setCell ⟨w.heap.size, 1, none⟩ (.int .i64 0)).setCell ⟨w.heap.size, 2, none⟩ (.int .i64 0)).setCell ⟨w.heap.size, 3, none⟩ (.slice none 0 0))) := (((B3.out.setCell (Nat.le_refl _) _).setCell (Nat.le_refl _) _).setCell (Nat.le_refl _) _).setCell (Nat.le_refl _) _
    go_wp2_with fail
    exact bodyPost_ret (v := .tuple #[.agg #[.string ⟨#[]⟩, .int .i64 0, .int .i64 0, .slice none 0 0], .int .i64 q]) (by simp [results, Tryz.results13, go_sem, r0, r1, r2, r3]) rfl ⟨_, _, _, _, _, _, [], _, rfl, HE.out, rfl, World.ownsRow_nil _ _ _ _, BE.out⟩

  subst hq0
  obtain ⟨hst, hsx, hsy⟩ := ask_zero2 HQQ.out
  have hus := word_slash hsx
  have hfs := word_slash hsy
  obtain ⟨hgl, nx0, hnm, n1, _⟩ := store_facts hst
  have zx := short_size' hsx
  have zy := short_size' hsy
  obtain ⟨kk, hkk⟩ : ∃ z, knownR L x y = z := ⟨_, rfl⟩
  have HKK : Hid (knownR L x y = kk) := hkk
  have CK := fun W (hW : Below w.heap.size w W) => l07KnownS a n c L HLN.out hgl x y (by omega) (by omega) W (HS.out.below hW) kk hkk
  by_cases hk0 : kk = 0
  case neg =>
    have hki : (kk != 0) = true := by simpa using hk0
    have HE : Hid (faM L x y = ((⟨#[]⟩, 0, 0, []), kk)) := fa_known HQQ.out hkk hk0
    clear hk0 hkk hst hsx hsy hus hfs hgl hnm n1
    go_enter Tryz.func13, Tryz.ntmps13
    go_wp2_with fail
    refine CA.mono ?_
    rintro e w3 ⟨rfl, hb3⟩
    have B3 : Hid (Below w.heap.size w w3) := AN.out.trans (hb3.mono AN.out.size)
    have X3 : Hid (Box w3 w.heap.size [.string ⟨#[]⟩, .int .i64 0, .int .i64 0, .slice none 0 0]) := Box.below XN.out hb3
    have Z3 : Hid (w.heap.size < w3.heap.size) := Nat.lt_of_lt_of_le ZN.out hb3.size
    clear hb3 CA

    have CK3 := CK w3 B3.out
    clear CK
    go_wp2_with fail
    refine CK3.mono ?_
    rintro e w4 ⟨rfl, hb4⟩
    have B4 : Hid (Below w.heap.size w w4) := B3.out.trans (hb4.mono B3.out.size)
    have X4 : Hid (Box w4 w.heap.size [.string ⟨#[]⟩, .int .i64 0, .int .i64 0, .slice none 0 0]) := Box.below X3.out hb4
    clear hb4 CK3
    obtain ⟨p0, pf0⟩ := (X4.out) 0 _ rfl
    obtain ⟨p1, pf1⟩ := ((X4.out).set 0 (.string ⟨#[]⟩)) 1 _ rfl
    obtain ⟨p2, pf2⟩ := (((X4.out).set 0 (.string ⟨#[]⟩)).set 1 (.int .i64 0)) 2 _ rfl
    obtain ⟨p3, pf3⟩ := ((((X4.out).set 0 (.string ⟨#[]⟩)).set 1 (.int .i64 0)).set 2 (.int .i64 0)) 3 _ rfl
    have X8 := ((((X4.out).set 0 (.string ⟨#[]⟩)).set 1 (.int .i64 0)).set 2 (.int .i64 0)).set 3 (.slice none 0 0)
    obtain ⟨r0, _⟩ := X8 0 _ rfl
    obtain ⟨r1, _⟩ := X8 1 _ rfl
    obtain ⟨r2, _⟩ := X8 2 _ rfl
    obtain ⟨r3, _⟩ := X8 3 _ rfl
    clear X8
    have BE : Hid (Below w.heap.size w ((((w4.setCell ⟨w.heap.size, 0, none⟩ (.string ⟨#[]⟩)).setCell ⟨w.heap.size, 1, none⟩ (.int .i64 0)).setCell ⟨w.heap.size, 2, none⟩ (.int .i64 0)).setCell ⟨w.heap.size, 3, none⟩ (.slice none 0 0))) := (((B4.out.setCell (Nat.le_refl _) _).setCell (Nat.le_refl _) _).setCell (Nat.le_refl _) _).setCell (Nat.le_refl _) _
    go_wp2_with fail
    exact bodyPost_ret (v := .tuple #[.agg #[.string ⟨#[]⟩, .int .i64 0, .int .i64 0, .slice none 0 0], .int .i64 kk]) (by simp [results, Tryz.results13, go_sem, r0, r1, r2, r3]) rfl ⟨_, _, _, _, _, _, [], _, rfl, HE.out, rfl, World.ownsRow_nil _ _ _ _, BE.out⟩

  subst hk0
  obtain ⟨S, hS, _, _⟩ := take_all hst hus
  obtain ⟨hw, g, hl⟩ := known_zero hst hus hfs hS hkk
  have HE : Hid (faM L x y = ((y, g.val, g.next, g.mails), 0)) := fa_some HQQ.out hkk hS hl
  obtain ⟨gv, hgv⟩ : ∃ z, g.val = z := ⟨_, rfl⟩
  obtain ⟨gn, hgn⟩ : ∃ z, g.next = z := ⟨_, rfl⟩
  obtain ⟨gl, hgm⟩ : ∃ z, g.mails.length = z := ⟨_, rfl⟩
  have HGM : Hid (g.mails.length = gl) := hgm
  have CT := fun W (hW : Below w.heap.size w W) => l07AtS a n c L HLN.out hgl x y (by omega) (by omega) g.mails (fit_ms (store_fit hst hS g (lookF_mem hl).1)) (fol_mails hst hus hfs hS hw hl) g.val g.next (look_meta hst hS hl) W (HS.out.below hW)
  simp only [hgv, hgn, hgm] at CT HE
  clear hkk hst hsx hsy hus hfs hgl hnm n1 hS hw hl hgv hgn hgm
  go_enter Tryz.func13, Tryz.ntmps13
  go_wp2_with fail
  refine CA.mono ?_
  rintro e w3 ⟨rfl, hb3⟩
  have B3 : Hid (Below w.heap.size w w3) := AN.out.trans (hb3.mono AN.out.size)
  have X3 : Hid (Box w3 w.heap.size [.string ⟨#[]⟩, .int .i64 0, .int .i64 0, .slice none 0 0]) := Box.below XN.out hb3
  have Z3 : Hid (w.heap.size < w3.heap.size) := Nat.lt_of_lt_of_le ZN.out hb3.size
  clear hb3 CA

  have CK3 := CK w3 B3.out
  clear CK
  go_wp2_with fail
  refine CK3.mono ?_
  rintro e w4 ⟨rfl, hb4⟩
  have B4 : Hid (Below w.heap.size w w4) := B3.out.trans (hb4.mono B3.out.size)
  have X4 : Hid (Box w4 w.heap.size [.string ⟨#[]⟩, .int .i64 0, .int .i64 0, .slice none 0 0]) := Box.below X3.out hb4
  have Z4 : Hid (w.heap.size < w4.heap.size) := Nat.lt_of_lt_of_le Z3.out hb4.size
  have CT4 := CT w4 B4.out
  clear hb4 CK3 CT
  go_wp2_with fail
  refine CT4.mono ?_
  rintro e w5 ⟨a5, c5, rfl, ho5, hb5⟩
  have B5 : Hid (Below w.heap.size w w5) := B4.out.trans (hb5.mono B4.out.size)
  have X5 : Hid (Box w5 w.heap.size [.string ⟨#[]⟩, .int .i64 0, .int .i64 0, .slice none 0 0]) := Box.below X4.out hb5
  have O5 : Hid (w5.ownsRow w4.heap.size 78 3 (.slice a5 gl c5) gl (cellsMl g.mails)) := ho5
  clear ho5 hb5 CT4
  obtain ⟨p0, pf0⟩ := (X5.out) 0 _ rfl
  obtain ⟨p1, pf1⟩ := ((X5.out).set 0 (.string y)) 1 _ rfl
  obtain ⟨p2, pf2⟩ := (((X5.out).set 0 (.string y)).set 1 (.int .i64 gv)) 2 _ rfl
  obtain ⟨p3, pf3⟩ := ((((X5.out).set 0 (.string y)).set 1 (.int .i64 gv)).set 2 (.int .i64 gn)) 3 _ rfl
  have X8 := ((((X5.out).set 0 (.string y)).set 1 (.int .i64 gv)).set 2 (.int .i64 gn)).set 3 (.slice a5 gl c5)
  obtain ⟨r0, _⟩ := X8 0 _ rfl
  obtain ⟨r1, _⟩ := X8 1 _ rfl
  obtain ⟨r2, _⟩ := X8 2 _ rfl
  obtain ⟨r3, _⟩ := X8 3 _ rfl
  clear X8
  have BE : Hid (Below w.heap.size w ((((w5.setCell ⟨w.heap.size, 0, none⟩ (.string y)).setCell ⟨w.heap.size, 1, none⟩ (.int .i64 gv)).setCell ⟨w.heap.size, 2, none⟩ (.int .i64 gn)).setCell ⟨w.heap.size, 3, none⟩ (.slice a5 gl c5))) := (((B5.out.setCell (Nat.le_refl _) _).setCell (Nat.le_refl _) _).setCell (Nat.le_refl _) _).setCell (Nat.le_refl _) _
  have OE : Hid (((((w5.setCell ⟨w.heap.size, 0, none⟩ (.string y)).setCell ⟨w.heap.size, 1, none⟩ (.int .i64 gv)).setCell ⟨w.heap.size, 2, none⟩ (.int .i64 gn)).setCell ⟨w.heap.size, 3, none⟩ (.slice a5 gl c5)).ownsRow w.heap.size 78 3 (.slice a5 gl c5) gl (cellsMl g.mails)) := own_mono (own_setLow (own_setLow (own_setLow (own_setLow (O5.out) Z4.out _) Z4.out _) Z4.out _) Z4.out _) B4.out.size
  go_wp2_with fail
  exact bodyPost_ret (v := .tuple #[.agg #[.string y, .int .i64 gv, .int .i64 gn, .slice a5 gl c5], .int .i64 0]) (by simp [results, Tryz.results13, go_sem, r0, r1, r2, r3]) rfl ⟨_, _, _, _, _, _, g.mails, _, rfl, HE.out, HGM.out, OE.out, BE.out⟩

set_option maxHeartbeats 4000000 in
theorem implFolderAt (a : Option Addr) (n c : Nat) (L : List PM) (x y : ByteArray) (w : World) (hL : L.length = n) (hn : n ≤ 1048576) (hs : ∀ x ∈ L, x.1.size ≤ 1048576 ∧ x.2.size ≤ 1048576) (h : Src w a (cellsP L)) (hx : x.size ≤ 1048576) (hy : y.size ≤ 1048576) (hG : Gl w) (h8 : 8 ≤ w.heap.size) :
    Calls Tryz.prog 15 #[.slice a n c, .string x, .string y] w fun e w' => ∃ nm va nx a' n' c' R q, e = .returned (.tuple #[.agg #[.string nm, .int .i64 va, .int .i64 nx, .slice a' n' c'], .int .i64 q]) ∧ faM L x y = ((nm, va, nx, R), q) ∧ R.length = n' ∧ w'.ownsRow w.heap.size 78 3 (.slice a' n' c') n' (cellsMl R) ∧ Below w.heap.size w w' := by
  have HLN : Hid (L.length = n) := hL
  have HS : Hid (Src w a (cellsP L)) := h
  have AL : Hid (Below w.heap.size w (w.alloc (.cells #[.string ⟨#[]⟩, .int .i64 0, .int .i64 0, .slice none 0 0] 26))) := (Below.refl _ _).alloc (Nat.le_refl _) _
  have AN : Hid (Below w.heap.size w ((w.alloc (.cells #[.string ⟨#[]⟩, .int .i64 0, .int .i64 0, .slice none 0 0] 26)).alloc (.cells #[.string x, .string y] 9))) := AL.out.alloc (by simp) _
  have XN : Hid (Box ((w.alloc (.cells #[.string ⟨#[]⟩, .int .i64 0, .int .i64 0, .slice none 0 0] 26)).alloc (.cells #[.string x, .string y] 9)) w.heap.size [.string ⟨#[]⟩, .int .i64 0, .int .i64 0, .slice none 0 0]) := (Box.new rfl).old _
  have ZN : Hid (w.heap.size < ((w.alloc (.cells #[.string ⟨#[]⟩, .int .i64 0, .int .i64 0, .slice none 0 0] 26)).alloc (.cells #[.string x, .string y] 9)).heap.size) := by show w.heap.size < ((w.alloc (.cells #[.string ⟨#[]⟩, .int .i64 0, .int .i64 0, .slice none 0 0] 26)).alloc (.cells #[.string x, .string y] 9)).heap.size; simp; omega
  obtain ⟨q, hq⟩ : ∃ q, askM L [x, y] = q := ⟨_, rfl⟩
  have HQQ : Hid (askM L [x, y] = q) := hq
  have CA := mailFaultI a n c L (some ⟨w.heap.size + 1, 0, none⟩) 2 2 [x, y] ((w.alloc (.cells #[.string ⟨#[]⟩, .int .i64 0, .int .i64 0, .slice none 0 0] 26)).alloc (.cells #[.string x, .string y] 9)) hL hn hs (HS.out.below AN.out) rfl (by omega) (fun s hs => by
    rcases List.mem_cons.1 hs with rfl | hs
    · exact hx
    · rw [List.mem_singleton.1 hs]; exact hy) (src_2S (by simp)) (hG.below h8 AN.out) (by have := AN.out.size; omega) q hq
  have HG : Hid (Gl w) := hG
  clear hL h hs hq hG
  by_cases hq0 : q = 0
  case neg =>
    have hqi : (q != 0) = true := by simpa using hq0
    have HE : Hid (faM L x y = ((⟨#[]⟩, 0, 0, []), q)) := fa_ask HQQ.out hq0
    clear hq0
    go_enter Tryz.func15, Tryz.ntmps15
    go_wp2_with fail
    refine CA.mono ?_
    rintro e w3 ⟨rfl, hb3⟩
    have B3 : Hid (Below w.heap.size w w3) := AN.out.trans (hb3.mono AN.out.size)
    have X3 : Hid (Box w3 w.heap.size [.string ⟨#[]⟩, .int .i64 0, .int .i64 0, .slice none 0 0]) := Box.below XN.out hb3
    have Z3 : Hid (w.heap.size < w3.heap.size) := Nat.lt_of_lt_of_le ZN.out hb3.size
    clear hb3 CA

    obtain ⟨p0, pf0⟩ := (X3.out) 0 _ rfl
    obtain ⟨p1, pf1⟩ := ((X3.out).set 0 (.string ⟨#[]⟩)) 1 _ rfl
    obtain ⟨p2, pf2⟩ := (((X3.out).set 0 (.string ⟨#[]⟩)).set 1 (.int .i64 0)) 2 _ rfl
    obtain ⟨p3, pf3⟩ := ((((X3.out).set 0 (.string ⟨#[]⟩)).set 1 (.int .i64 0)).set 2 (.int .i64 0)) 3 _ rfl
    have X8 := ((((X3.out).set 0 (.string ⟨#[]⟩)).set 1 (.int .i64 0)).set 2 (.int .i64 0)).set 3 (.slice none 0 0)
    obtain ⟨r0, _⟩ := X8 0 _ rfl
    obtain ⟨r1, _⟩ := X8 1 _ rfl
    obtain ⟨r2, _⟩ := X8 2 _ rfl
    obtain ⟨r3, _⟩ := X8 3 _ rfl
    clear X8
    have BE : Hid (Below w.heap.size w ((((w3.setCell ⟨w.heap.size, 0, none⟩ (.string ⟨#[]⟩)).setCell ⟨w.heap.size, 1, none⟩ (.int .i64 0)).setCell ⟨w.heap.size, 2, none⟩ (.int .i64 0)).setCell ⟨w.heap.size, 3, none⟩ (.slice none 0 0))) := (((B3.out.setCell (Nat.le_refl _) _).setCell (Nat.le_refl _) _).setCell (Nat.le_refl _) _).setCell (Nat.le_refl _) _
    go_wp2_with fail
    exact bodyPost_ret (v := .tuple #[.agg #[.string ⟨#[]⟩, .int .i64 0, .int .i64 0, .slice none 0 0], .int .i64 q]) (by simp [results, Tryz.results15, go_sem, r0, r1, r2, r3]) rfl ⟨_, _, _, _, _, _, [], _, rfl, HE.out, rfl, World.ownsRow_nil _ _ _ _, BE.out⟩

  subst hq0
  obtain ⟨hst, hsx, hsy⟩ := ask_zero2 HQQ.out
  have hus := word_slash hsx
  have hfs := word_slash hsy
  have hu8 := short_size hsx
  have hy8 := short_size hsy
  have CD := fun W (hW : Below w.heap.size w W) => deskWithI a n c L x W HLN.out (HS.out.below hW) (HG.out.below h8 hW) (by have := hW.size; omega) hst hus (by omega)
  have HFA : Hid (∀ S, takeAll (nextM L) x S0 L = some S → lackM S.word S.fs [y] = knownR L x y ∧ faM L x y = (faG (lookF y S.fs), knownR L x y)) := fun S hS => ⟨lack_known hst hus hfs hS, fa_desk HQQ.out hS⟩
  obtain ⟨nx, hnx⟩ : ∃ z, nextM L = z := ⟨_, rfl⟩
  simp only [hnx] at CD HFA
  clear hst hsx hsy hus hfs hnx
  go_enter Tryz.func15, Tryz.ntmps15
  go_wp2_with fail
  refine CA.mono ?_
  rintro e w3 ⟨rfl, hb3⟩
  have B3 : Hid (Below w.heap.size w w3) := AN.out.trans (hb3.mono AN.out.size)
  have X3 : Hid (Box w3 w.heap.size [.string ⟨#[]⟩, .int .i64 0, .int .i64 0, .slice none 0 0]) := Box.below XN.out hb3
  have Z3 : Hid (w.heap.size < w3.heap.size) := Nat.lt_of_lt_of_le ZN.out hb3.size
  clear hb3 CA

  have CD3 := CD w3 B3.out
  clear CD
  go_wp2_with fail
  refine CD3.mono ?_
  rintro e w5 ⟨M, S, rfl, hS, hSt, hM, hb5⟩
  have B5 : Hid (Below w.heap.size w w5) := B3.out.trans (hb5.mono B3.out.size)
  have X5 : Hid (Box w5 w.heap.size [.string ⟨#[]⟩, .int .i64 0, .int .i64 0, .slice none 0 0]) := Box.below X3.out hb5
  have ZM : Hid (w.heap.size < M + 2) := by have h9 := Z3.out; show w.heap.size < M + 2; omega
  obtain ⟨k1, k2⟩ := HFA.out S hS
  obtain ⟨va0, X, hD, nm, v1, v2, a', n', c', R, hat, hR, hown, hfg⟩ := at_pack hSt y
  have CT := atI y w5 M ⟨a, n, c, va0, S.aside, nx, x, S.word, X⟩ (by omega) (by show x.size ≤ _; omega) hD
  have hat2 : atX (lookX (folderK x y) X) = .agg #[.string nm, .int .i64 v1, .int .i64 v2, .slice a' n' c'] := hat
  have CT2 : Calls Tryz.prog 48 #[.pointer (some ⟨M + 1, 0, none⟩), .string y] w5 fun e w' => e = .returned (.agg #[.string nm, .int .i64 v1, .int .i64 v2, .slice a' n' c']) ∧ Below w5.heap.size w5 w' := by rw [← hat2]; exact CT
  obtain ⟨kk, hkk⟩ : ∃ z, knownR L x y = z := ⟨_, rfl⟩
  have HE : Hid (faM L x y = ((nm, v1, v2, R), kk)) := by show _ = _; rw [k2, hfg, hkk]
  have HGM : Hid (R.length = n') := hR
  have O5 : Hid (w5.ownsRow (M + 2) 78 3 (.slice a' n' c') n' (cellsMl R)) := hown
  have HST : Hid (StAt w5 M a n c nx x S n) := hSt
  have hk1 : lackM S.word S.fs [y] = kk := by rw [k1, hkk]
  have CL := fun W (hW : Below w5.heap.size w5 W) => lacksI (W.alloc (.cells #[.string y] 9)) M a n c nx x S n (hSt.later (hW.alloc hW.size _)) (by omega) (some ⟨W.heap.size, 0, none⟩) 1 1 [y] rfl (by omega) (fun s hs => by rw [List.mem_singleton.1 hs]; omega) (src_1S rfl) kk hk1
  have hB5 : Hid (M + 2 ≤ w5.heap.size) := by
    have h9 : M + 1 < w5.heap.size := World.block_lt_of_cell? _ _ (hD.1 0 _ rfl).1
    show M + 2 ≤ w5.heap.size
    omega
  clear hS hSt hb5 CD3 k1 k2 hD hat hR hown hfg CT hat2 hkk hk1 HFA hM
  go_wp2_with fail
  refine CT2.mono ?_
  rintro e w6 ⟨rfl, hb6⟩
  have CL6 := CL w6 hb6
  have B6 : Hid (Below w.heap.size w w6) := B5.out.trans (hb6.mono B5.out.size)
  have X6 : Hid (Box w6 w.heap.size [.string ⟨#[]⟩, .int .i64 0, .int .i64 0, .slice none 0 0]) := Box.below X5.out hb6
  have O6 : Hid (w6.ownsRow (M + 2) 78 3 (.slice a' n' c') n' (cellsMl R)) := own_below O5.out hb6
  clear hb6 CT2 CL
  go_wp2_with fail
  refine CL6.mono ?_
  rintro e w7 ⟨rfl, hb7⟩
  have A7 : Hid (Below w6.heap.size w6 (w6.alloc (.cells #[.string y] 9))) := (Below.refl _ _).alloc (Nat.le_refl _) _
  have B67 : Hid (Below w6.heap.size w6 w7) := A7.out.trans (hb7.mono A7.out.size)
  have B7 : Hid (Below w.heap.size w w7) := B6.out.trans (B67.out.mono B6.out.size)
  have X7 : Hid (Box w7 w.heap.size [.string ⟨#[]⟩, .int .i64 0, .int .i64 0, .slice none 0 0]) := Box.below X6.out B67.out
  have O7 : Hid (w7.ownsRow (M + 2) 78 3 (.slice a' n' c') n' (cellsMl R)) := own_below O6.out B67.out
  clear hb7 CL6
  obtain ⟨p0, pf0⟩ := (X7.out) 0 _ rfl
  obtain ⟨p1, pf1⟩ := ((X7.out).set 0 (.string nm)) 1 _ rfl
  obtain ⟨p2, pf2⟩ := (((X7.out).set 0 (.string nm)).set 1 (.int .i64 v1)) 2 _ rfl
  obtain ⟨p3, pf3⟩ := ((((X7.out).set 0 (.string nm)).set 1 (.int .i64 v1)).set 2 (.int .i64 v2)) 3 _ rfl
  have X8 := ((((X7.out).set 0 (.string nm)).set 1 (.int .i64 v1)).set 2 (.int .i64 v2)).set 3 (.slice a' n' c')
  obtain ⟨r0, _⟩ := X8 0 _ rfl
  obtain ⟨r1, _⟩ := X8 1 _ rfl
  obtain ⟨r2, _⟩ := X8 2 _ rfl
  obtain ⟨r3, _⟩ := X8 3 _ rfl
  clear X8
  have BE : Hid (Below w.heap.size w ((((w7.setCell ⟨w.heap.size, 0, none⟩ (.string nm)).setCell ⟨w.heap.size, 1, none⟩ (.int .i64 v1)).setCell ⟨w.heap.size, 2, none⟩ (.int .i64 v2)).setCell ⟨w.heap.size, 3, none⟩ (.slice a' n' c'))) := (((B7.out.setCell (Nat.le_refl _) _).setCell (Nat.le_refl _) _).setCell (Nat.le_refl _) _).setCell (Nat.le_refl _) _
  have OE : Hid (((((w7.setCell ⟨w.heap.size, 0, none⟩ (.string nm)).setCell ⟨w.heap.size, 1, none⟩ (.int .i64 v1)).setCell ⟨w.heap.size, 2, none⟩ (.int .i64 v2)).setCell ⟨w.heap.size, 3, none⟩ (.slice a' n' c')).ownsRow w.heap.size 78 3 (.slice a' n' c') n' (cellsMl R)) := own_mono (own_setLow (own_setLow (own_setLow (own_setLow (O7.out) ZM.out _) ZM.out _) ZM.out _) ZM.out _) (Nat.le_of_lt ZM.out)
  go_wp2_with fail
  exact bodyPost_ret (v := .tuple #[.agg #[.string nm, .int .i64 v1, .int .i64 v2, .slice a' n' c'], .int .i64 kk]) (by simp [results, Tryz.results15, go_sem, r0, r1, r2, r3]) rfl ⟨_, _, _, _, _, _, R, _, rfl, HE.out, HGM.out, OE.out, BE.out⟩

end Go.Proofs.YthejpemiaenfpaaGreatDoor
