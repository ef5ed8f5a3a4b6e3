/-
  Mlk Sap Apm Apf Apl Plc Cpm Lof Fom Fol Sfl Sfs Rnp Rns Rnf Ltr Ltrs in one. By an AI agent.
-/
import Derived.Test.YtbpgncgmolpkiaaGreatDoorMzb
namespace Go.Proofs.YtbpgncgmolpkiaaGreatDoor
open Go.ChangeShapes Go.WideShapes Go.ChangeAt Go.RowKit Go.Deep Go.Lib
set_option linter.unusedVariables false
set_option linter.unusedSimpArgs false
set_option maxRecDepth 100000

theorem conv3 (W : World) (b : Nat) (x y z : Nat) (hx : x < 10) (hy : y < 10) (hz : z < 10) (h : Box W b [.int .u8 (48 + (x : Int)), .int .u8 (48 + (y : Int)), .int .u8 (48 + (z : Int))]) : (convert 88 9 (.slice (some ⟨b, 0, none⟩) 3 3)).run Tryz.prog W = .ok (.string (bs [UInt8.ofNat (48 + x), UInt8.ofNat (48 + y), UInt8.ofNat (48 + z)])) W := by
  refine run_convert_bytes_back (P := Tryz.prog) W 88 9 5 ⟨b, 0, none⟩ 3 [UInt8.ofNat (48 + x), UInt8.ofNat (48 + y), UInt8.ofNat (48 + z)] Tryz.underlying88 Tryz.underlying5 Tryz.underlying9 (fun j hj => ?_)
  have hj2 : j < 3 := hj
  have hd : ∀ d : Nat, d < 10 → ((UInt8.ofNat (48 + d)).toNat : Int) = 48 + (d : Int) := fun d h9 => by
    have h1 : (UInt8.ofNat (48 + d)).toNat = 48 + d := by simp [UInt8.toNat_ofNat']; omega
    rw [h1]
    omega
  match j, hj2 with
  | 0, _ =>
    have h2 : W.cell? ((⟨b, 0, none⟩ : Addr).add 0) = W.cell? ⟨b, 0, none⟩ := rfl
    rw [h2, (h 0 _ rfl).1]
    show some (Value.int .u8 (48 + (x : Int))) = some (Value.int .u8 ((UInt8.ofNat (48 + x)).toNat : Int))
    rw [hd x hx]
  | 1, _ =>
    have h2 : W.cell? ((⟨b, 0, none⟩ : Addr).add 1) = W.cell? ⟨b, 1, none⟩ := rfl
    rw [h2, (h 1 _ rfl).1]
    show some (Value.int .u8 (48 + (y : Int))) = some (Value.int .u8 ((UInt8.ofNat (48 + y)).toNat : Int))
    rw [hd y hy]
  | 2, _ =>
    have h2 : W.cell? ((⟨b, 0, none⟩ : Addr).add 2) = W.cell? ⟨b, 2, none⟩ := rfl
    rw [h2, (h 2 _ rfl).1]
    show some (Value.int .u8 (48 + (z : Int))) = some (Value.int .u8 ((UInt8.ofNat (48 + z)).toNat : Int))
    rw [hd z hz]
set_option maxHeartbeats 4000000 in
theorem l07MailS (u f : ByteArray) (n : Nat) (hn : n < 1000) (hu : u.size ≤ 1000) (hf : f.size ≤ 1000) (w : World) : Calls Tryz.prog 56 #[.string u, .string f, .int .i64 (n : Int)] w fun e w' => e = .returned (.string (mailK u f (n : Int))) ∧ Below w.heap.size w w' := by
  obtain ⟨x, y, z, hx, hy, hz, he⟩ := split3 n hn
  have hd3 : d3 n = [UInt8.ofNat (48 + x), UInt8.ofNat (48 + y), UInt8.ofNat (48 + z)] := by
    rw [he]
    unfold d3
    rw [dec4 x y z hx hy hz]
    rfl
  have CM := fun W => l07MailsS u f W hu hf
  have hps := preK_size u f
  have hcb := fun W b => conv3 W b x y z hx hy hz
  obtain ⟨T, hT⟩ : ∃ T, bs [UInt8.ofNat (48 + x), UInt8.ofNat (48 + y), UInt8.ofNat (48 + z)] = T := ⟨_, rfl⟩
  simp only [hT] at hcb
  have hTs : T.size = 3 := by rw [← hT]; rfl
  have HD : Hid (preK u f ++ T = mailK u f (n : Int)) := by
    show _ = _
    apply bs_inj
    rw [ByteArray.data_append, Array.toList_append, preK_data, ← hT]
    show _ = 109 :: 47 :: (u.data.toList ++ 47 :: (f.data.toList ++ 47 :: d3 n))
    rw [hd3]
    simp [bs]
  obtain ⟨PK, hPK⟩ : ∃ t, preK u f = t := ⟨_, rfl⟩
  rw [hPK] at HD hps
  simp only [hPK] at CM
  obtain ⟨X, hX⟩ : ∃ t : Int, (x : Int) = t := ⟨_, rfl⟩
  obtain ⟨Y, hY⟩ : ∃ t : Int, (y : Int) = t := ⟨_, rfl⟩
  obtain ⟨Z, hZ⟩ : ∃ t : Int, (z : Int) = t := ⟨_, rfl⟩
  obtain ⟨N10, hN10⟩ : ∃ t : Int, (n : Int) / 10 = t := ⟨_, rfl⟩
  have q1 : (n : Int).tdiv 100 = X := by rw [Int.tdiv_eq_ediv_of_nonneg (by omega)]; omega
  have q2 : (n : Int).tdiv 10 = N10 := by rw [Int.tdiv_eq_ediv_of_nonneg (by omega)]; omega
  have q3 : N10.tmod 10 = Y := by rw [Int.tmod_eq_emod_of_nonneg (by omega)]; omega
  have q4 : (n : Int).tmod 10 = Z := by rw [Int.tmod_eq_emod_of_nonneg (by omega)]; omega
  have u1 := wrap8 x hx
  have u2 := wrap8 y hy
  have u3 := wrap8 z hz
  rw [hX] at u1
  rw [hY] at u2
  rw [hZ] at u3
  simp only [hX, hY, hZ] at hcb
  have v1 : IntKind.i64.wrap X = X := wrapI _ (by omega) (by omega)
  have v2 : IntKind.i64.wrap N10 = N10 := wrapI _ (by omega) (by omega)
  have v3 : IntKind.i64.wrap (48 + X) = 48 + X := wrapI _ (by omega) (by omega)
  have v4 : IntKind.i64.wrap (48 + Y) = 48 + Y := wrapI _ (by omega) (by omega)
  have v5 : IntKind.i64.wrap (48 + Z) = 48 + Z := wrapI _ (by omega) (by omega)
  obtain ⟨G, hG⟩ : ∃ t, mailK u f (n : Int) = t := ⟨_, rfl⟩
  rw [hG] at HD ⊢
  have hnc : ¬ 9223372036854775807 < u.size + f.size + 4 + 3 := by omega
  clear hd3 hT hPK hG he
  clear hX hY hZ hN10
  go_enter Tryz.func56, Tryz.ntmps56
  go_wp2_with fail
  refine wp_region_noPanic ?_
  refine wp_region_held_drew (S := fun w' => True) (by kernel_rfl) trivial (fun hHeld => ?_)
  refine tkA (i := 0) (v := .string u) ?_ hHeld ?_
  · intro w9 hSw
    go_simp
  simp only [Act.put, List.setIfInBounds_toArray, List.set_cons_zero, List.set_cons_succ]
  refine tkA (i := 1) (v := .string f) ?_ hHeld ?_
  · intro w9 hSw
    go_simp
  simp only [Act.put, List.setIfInBounds_toArray, List.set_cons_zero, List.set_cons_succ]
  refine tkA (i := 3) (v := .int .i64 (n : Int)) ?_ hHeld ?_
  · intro w9 hSw
    go_simp
  simp only [Act.put, List.setIfInBounds_toArray, List.set_cons_zero, List.set_cons_succ]
  refine tkA (i := 4) (v := .int .i64 X) ?_ hHeld ?_
  · intro w9 hSw
    go_simp
  simp only [Act.put, List.setIfInBounds_toArray, List.set_cons_zero, List.set_cons_succ]
  refine tkA (i := 5) (v := .int .i64 (48 + X)) ?_ hHeld ?_
  · intro w9 hSw
    go_simp
  simp only [Act.put, List.setIfInBounds_toArray, List.set_cons_zero, List.set_cons_succ]
  refine tkA (i := 6) (v := .int .u8 (48 + X)) ?_ hHeld ?_
  · intro w9 hSw
    go_simp
  simp only [Act.put, List.setIfInBounds_toArray, List.set_cons_zero, List.set_cons_succ]
  refine tkA (i := 7) (v := .int .i64 (n : Int)) ?_ hHeld ?_
  · intro w9 hSw
    go_simp
  simp only [Act.put, List.setIfInBounds_toArray, List.set_cons_zero, List.set_cons_succ]
  refine tkA (i := 8) (v := .int .i64 N10) ?_ hHeld ?_
  · intro w9 hSw
    go_simp
  simp only [Act.put, List.setIfInBounds_toArray, List.set_cons_zero, List.set_cons_succ]
  refine tkA (i := 9) (v := .int .i64 Y) ?_ hHeld ?_
  · intro w9 hSw
    go_simp
  simp only [Act.put, List.setIfInBounds_toArray, List.set_cons_zero, List.set_cons_succ]
  refine tkA (i := 10) (v := .int .i64 (48 + Y)) ?_ hHeld ?_
  · intro w9 hSw
    go_simp
  simp only [Act.put, List.setIfInBounds_toArray, List.set_cons_zero, List.set_cons_succ]
  refine tkA (i := 11) (v := .int .u8 (48 + Y)) ?_ hHeld ?_
  · intro w9 hSw
    go_simp
  simp only [Act.put, List.setIfInBounds_toArray, List.set_cons_zero, List.set_cons_succ]
  refine tkA (i := 12) (v := .int .i64 (n : Int)) ?_ hHeld ?_
  · intro w9 hSw
    go_simp
  simp only [Act.put, List.setIfInBounds_toArray, List.set_cons_zero, List.set_cons_succ]
  refine tkA (i := 13) (v := .int .i64 Z) ?_ hHeld ?_
  · intro w9 hSw
    go_simp
  simp only [Act.put, List.setIfInBounds_toArray, List.set_cons_zero, List.set_cons_succ]
  refine tkA (i := 14) (v := .int .i64 (48 + Z)) ?_ hHeld ?_
  · intro w9 hSw
    go_simp
  simp only [Act.put, List.setIfInBounds_toArray, List.set_cons_zero, List.set_cons_succ]
  refine tkA (i := 15) (v := .int .u8 (48 + Z)) ?_ hHeld ?_
  · intro w9 hSw
    go_simp
  simp only [Act.put, List.setIfInBounds_toArray, List.set_cons_zero, List.set_cons_succ]
  refine wpAnyH_ready (rs := [2, 16]) (by kernel_rfl) (by simp) ?_
  refine AllReadyH.cons rfl (fun K hK => ?_) (AllReadyH.cons rfl (fun K hK => ?_) AllReadyH.nil)
  · skip
    go_simp
    refine (CM _).mono ?_
    rintro e wk ⟨rfl, hwk⟩
    obtain rfl := hwk.symm
    dsimp only
    refine hK _ _ trivial (fun hHeld => ?_)
    clear hK K
    refine wpAnyH_ready (rs := [16]) (by kernel_rfl) (by simp) ?_
    refine AllReadyH.cons rfl (fun K hK => ?_) AllReadyH.nil
    go_simp
    have B1 : Hid (Below w.heap.size w ((w).alloc (.cells #[.int .u8 (48 + X), .int .u8 (48 + Y), .int .u8 (48 + Z)] 5))) := (Below.refl w.heap.size w).alloc (Nat.le_refl _) _
    have X1 : Hid (Box ((w).alloc (.cells #[.int .u8 (48 + X), .int .u8 (48 + Y), .int .u8 (48 + Z)] 5)).drew w.heap.size [.int .u8 (48 + X), .int .u8 (48 + Y), .int .u8 (48 + Z)]) := (Box.new (w := w) rfl).drew
    refine hK _ _ trivial (fun hHeld => ?_)
    clear hK K
    refine wpAnyH_ready (rs := [17]) (by kernel_rfl) (by simp) ?_
    refine AllReadyH.cons rfl (fun K hK => ?_) AllReadyH.nil
    have hc2 := hcb (((w).alloc (.cells #[.int .u8 (48 + X), .int .u8 (48 + Y), .int .u8 (48 + Z)] 5)).drew) (w.heap.size) (X1.out)
    go_simp
    refine hK _ _ trivial (fun hHeld => ?_)
    clear hK K
    refine wpAnyH_ready (rs := [18]) (by kernel_rfl) (by simp) ?_
    refine AllReadyH.cons rfl (fun K hK => ?_) AllReadyH.nil
    go_simp
    refine hK _ _ trivial (fun hHeld => ?_)
    clear hK K
    refine wpAnyH_ready (rs := [19]) (by kernel_rfl) (by simp) ?_
    refine AllReadyH.cons rfl (fun K hK => ?_) AllReadyH.nil
    go_simp
    refine hK _ _ trivial (fun hHeld => ?_)
    clear hK K
    refine wpAnyH_done (by kernel_rfl) ?_ _
    refine NoPanic.normal ?_
    clear hHeld
    go_wp2_with fail
    go_ret
    exact ⟨by rw [← HD.out]; rfl, B1.out.drew⟩
  · skip
    go_simp
    have B3 : Hid (Below w.heap.size w ((w).alloc (.cells #[.int .u8 (48 + X), .int .u8 (48 + Y), .int .u8 (48 + Z)] 5))) := (Below.refl w.heap.size w).alloc (Nat.le_refl _) _
    have X3 : Hid (Box ((w).alloc (.cells #[.int .u8 (48 + X), .int .u8 (48 + Y), .int .u8 (48 + Z)] 5)).drew w.heap.size [.int .u8 (48 + X), .int .u8 (48 + Y), .int .u8 (48 + Z)]) := (Box.new (w := w) rfl).drew
    refine hK _ _ trivial (fun hHeld => ?_)
    clear hK K
    refine wpAnyH_ready (rs := [2, 17]) (by kernel_rfl) (by simp) ?_
    refine AllReadyH.cons rfl (fun K hK => ?_) (AllReadyH.cons rfl (fun K hK => ?_) AllReadyH.nil)
    · skip
      go_simp
      refine (CM _).mono ?_
      rintro e wk ⟨rfl, hwk⟩
      obtain rfl := hwk.symm
      dsimp only
      refine hK _ _ trivial (fun hHeld => ?_)
      clear hK K
      refine wpAnyH_ready (rs := [17]) (by kernel_rfl) (by simp) ?_
      refine AllReadyH.cons rfl (fun K hK => ?_) AllReadyH.nil
      have hc4 := hcb (((w).alloc (.cells #[.int .u8 (48 + X), .int .u8 (48 + Y), .int .u8 (48 + Z)] 5)).drew) (w.heap.size) (X3.out)
      go_simp
      refine hK _ _ trivial (fun hHeld => ?_)
      clear hK K
      refine wpAnyH_ready (rs := [18]) (by kernel_rfl) (by simp) ?_
      refine AllReadyH.cons rfl (fun K hK => ?_) AllReadyH.nil
      go_simp
      refine hK _ _ trivial (fun hHeld => ?_)
      clear hK K
      refine wpAnyH_ready (rs := [19]) (by kernel_rfl) (by simp) ?_
      refine AllReadyH.cons rfl (fun K hK => ?_) AllReadyH.nil
      go_simp
      refine hK _ _ trivial (fun hHeld => ?_)
      clear hK K
      refine wpAnyH_done (by kernel_rfl) ?_ _
      refine NoPanic.normal ?_
      clear hHeld
      go_wp2_with fail
      go_ret
      exact ⟨by rw [← HD.out]; rfl, B3.out.drew⟩
    · skip
      have hc5 := hcb (((w).alloc (.cells #[.int .u8 (48 + X), .int .u8 (48 + Y), .int .u8 (48 + Z)] 5)).drew) (w.heap.size) (X3.out)
      go_simp
      refine hK _ _ trivial (fun hHeld => ?_)
      clear hK K
      refine wpAnyH_ready (rs := [2]) (by kernel_rfl) (by simp) ?_
      refine AllReadyH.cons rfl (fun K hK => ?_) AllReadyH.nil
      go_simp
      refine (CM _).mono ?_
      rintro e wk ⟨rfl, hwk⟩
      obtain rfl := hwk.symm
      dsimp only
      refine hK _ _ trivial (fun hHeld => ?_)
      clear hK K
      refine wpAnyH_ready (rs := [18]) (by kernel_rfl) (by simp) ?_
      refine AllReadyH.cons rfl (fun K hK => ?_) AllReadyH.nil
      go_simp
      refine hK _ _ trivial (fun hHeld => ?_)
      clear hK K
      refine wpAnyH_ready (rs := [19]) (by kernel_rfl) (by simp) ?_
      refine AllReadyH.cons rfl (fun K hK => ?_) AllReadyH.nil
      go_simp
      refine hK _ _ trivial (fun hHeld => ?_)
      clear hK K
      refine wpAnyH_done (by kernel_rfl) ?_ _
      refine NoPanic.normal ?_
      clear hHeld
      go_wp2_with fail
      go_ret
      exact ⟨by rw [← HD.out]; rfl, B3.out.drew⟩
end Go.Proofs.YtbpgncgmolpkiaaGreatDoor
namespace Go.Proofs.YtbpgncgmolpkiaaGreatDoor
open Go.ChangeShapes Go.WideShapes Go.ChangeAt Go.RowKit Go.Deep Go.Lib
set_option linter.unusedVariables false
set_option linter.unusedSimpArgs false
set_option maxRecDepth 100000

abbrev metaD (L : List PM) (u f : ByteArray) : Int × Int := (metaM L u f).getD (0, 0)
def appY (L : List PM) (u f t : ByteArray) (fl : Int) : List PM := insL (mailK u f (metaD L u f).2) (mailV ((metaD L u f).2, fl, t)) (insL (folderK u f) (metaT (metaD L u f).1 ((metaD L u f).2 + 1)) L)
def appR (L : List PM) (u f t : ByteArray) (fl : Int) : List PM × Int × Int :=
  if knownR L u f ≠ 0 then (L, 0, knownR L u f) else if countM L u = 6 then (L, 0, 12) else if (metaD L u f).2 = 999 then (L, 0, 6) else if 60 < (appY L u f t fl).length then (L, 0, 7) else (appY L u f t fl, (metaD L u f).2, 0)
theorem known_meta {L : List PM} {u f : ByteArray} (h : knownR L u f = 0) : ∃ p, metaM L u f = some p := by
  unfold knownR at h
  split at h
  · cases h
  · split at h
    · cases h
    · rename_i h2
      cases hm : metaM L u f with
      | none => rw [hm] at h2; exact absurd rfl h2
      | some p => exact ⟨p, rfl⟩
theorem app_len {L : List PM} (hg : GoodL L) (u f t : ByteArray) (fl : Int) : (appY L u f t fl).length ≤ 62 ∧ UpL (appY L u f t fl) := by
  have h1 := (ins_len (k := folderK u f) (v := metaT (metaD L u f).1 ((metaD L u f).2 + 1)) hg.2.2).1
  have h3 := ins_up (k := folderK u f) (v := metaT (metaD L u f).1 ((metaD L u f).2 + 1)) hg.2.2
  have h2 := (ins_len (k := mailK u f (metaD L u f).2) (v := mailV ((metaD L u f).2, fl, t)) h3).1
  have := hg.1
  unfold appY
  exact ⟨by omega, ins_up h3⟩
end Go.Proofs.YtbpgncgmolpkiaaGreatDoor
namespace Go.Proofs.YtbpgncgmolpkiaaGreatDoor
open Go.ChangeShapes Go.WideShapes Go.ChangeAt Go.RowKit Go.Deep Go.Lib
set_option linter.unusedVariables false
set_option linter.unusedSimpArgs false
set_option maxRecDepth 100000

theorem wpList_append_srcL {P : Program} (w : World) {ops : Array Oper} {rest : List Oper} {o : Oper} {a : Act} {Q : Exit → Act → World → Prop} (hgd : o.guard = none) (s x : Operand) (t : TypeId)
    (ho : o.op = .call { callee := .builtin .append, args := #[s, x], argTypes := #[t, t] })
    (base : Nat) (e : TypeId) (z : Value) (size bytes : Nat) (ht : P.underlying t = some (.slice e)) (hinfo : (P.info? e).map (fun i => (i.zero, i.size, i.bytes)) = some (some z, size, bytes))
    (hzs : z.cells.size = size) (hsz : 0 < size) (hby : bytes ≤ 64) (v : Value) (n : Nat) (xs : List Value) (hs : a.eval s = v) (hown : w.ownsRow base e size v n xs)
    (ad : Addr) (m c : Nat) (news : List Value) (hx : a.eval x = .slice (some ad) m c) (hl : news.length = m * size) (hsrc : Src w (some ad) news) (h1 : ∀ u ∈ news, u.oneCell' = true) (hn : n + m ≤ 4194304) (hm : 0 < m) (hbase : base ≤ w.heap.size)
    (h : ∀ v' w', w'.ownsRow base e size v' (n + m) (xs ++ news) → w.grownBy w' v.ownBlock → (v'.ownBlock = v.ownBlock ∨ ∀ g, v'.ownBlock = some g → w.heap.size ≤ g) → wpList P ops Q rest (a.put o.dst v') w') : wpList P ops Q (o :: rest) a w :=
  wpList_plain hgd fun _ hK => by
    obtain ⟨v', w', hr, h2, h3, h4⟩ := run_append_src' (P := P) w base t o.type e z size bytes ht hinfo hzs hsz hby v n xs hown ad m c news hl hsrc h1 hn hm hbase
    unfold Oper.wp execOp
    simp only [ho, resolve, invoke, builtin, Sem.run_bind, Sem.run_pure, Result.andThen_ok, List.map_toArray, List.map_cons, List.map_nil, hs, hx, hr]
    exact hK _ _ (h v' w' h2 h3 h4)
abbrev moreF (g : FM) (fl : Int) (t : ByteArray) : FM := ⟨g.name, g.val, g.next + 1, g.mails ++ [(g.next, fl, t)]⟩
def apM (S : SM) (g : FM) (fl : Int) (t : ByteArray) : Int × SM := if 6 ≤ sumF S.fs then (12, S) else if g.next = 999 then (6, S) else (0, ⟨S.aside, S.word, putF (moreF g fl t) S.fs⟩)
end Go.Proofs.YtbpgncgmolpkiaaGreatDoor
namespace Go.Proofs.YtbpgncgmolpkiaaGreatDoor
open Go.ChangeShapes Go.WideShapes Go.ChangeAt Go.RowKit Go.Deep Go.Lib
set_option linter.unusedVariables false
set_option linter.unusedSimpArgs false
set_option maxRecDepth 100000

/-- What a folder on the desk is of the list, and that its uids are below the next. -/
def FolOf (nx : Int) (u : ByteArray) (L : List PM) (g : FM) : Prop := (∃ w f, (folderK u g.name, w) ∈ L ∧ folderM nx g.name w = some f ∧ g.val = f.val ∧ g.next = f.next) ∧ ∀ m ∈ g.mails, m.1 < g.next
theorem fol_take {nx : Int} {u : ByteArray} {L : List PM} {S S' : SM} {q : PM} (hnx : nx ≤ 10000) (hq : q ∈ L) (hS : ∀ g ∈ S.fs, FolOf nx u L g) (h : takeM nx u S q = some S') : ∀ g ∈ S'.fs, FolOf nx u L g := by
  have hput : ∀ {o : Option FM}, putM S o = some S' → (∀ g, o = some g → FolOf nx u L g) → ∀ g ∈ S'.fs, FolOf nx u L g := fun {o} h9 hg => by
    unfold putM at h9
    obtain ⟨g, rfl, rfl⟩ := Option.map_eq_some_iff.1 h9
    intro f hf
    rcases putF_mem hf with hf | rfl
    · exact hS f hf
    · exact hg _ rfl
  have haside : asideM S q = some S' → ∀ g ∈ S'.fs, FolOf nx u L g := fun h9 => by cases h9; exact hS
  unfold takeM takeP at h
  split at h
  · split at h
    · unfold userM at h
      obtain ⟨_, rfl⟩ := ite_some h
      exact hS
    · exact haside h
  · rename_i a b c hG
    split at h
    · rename_i hc
      refine hput h fun g hg => ?_
      have hgf := (folder_meta hnx).1 hg
      have hgn : g.name = bs c := by rw [hgf.2.2.2]
      have hgm : g.mails = [] := by rw [hgf.2.2.2]
      have hsp : splitL 47 q.1.data.toList = [[102], b, c] := by rw [hG, hc.2]
      have hk := (key_folder hsp).1
      rw [hc.1] at hk
      refine ⟨⟨q.2, g, by rw [hgn, ← hk]; exact hq, by rw [hgn]; exact hg, rfl, rfl⟩, fun m hm => ?_⟩
      rw [hgm] at hm
      cases hm
    · exact haside h
  · rename_i a b c d hG
    split at h
    · refine hput h fun g hg => ?_
      unfold mailM at hg
      obtain ⟨f', hl, hg2⟩ := Option.bind_eq_some_iff.1 hg
      obtain ⟨un, m1, m2, m3, m4, m5, m6, m7, m8, hgm⟩ := mailO_some hg2
      obtain ⟨e1, e2⟩ := hS f' (lookF_mem hl).1
      rw [hgm]
      refine ⟨e1, fun m hm => ?_⟩
      rcases List.mem_append.1 (show m ∈ f'.mails ++ [((un : Int), hdV q.2 - 48, q.2.extract 1 q.2.size)] from hm) with hm | hm
      · exact e2 m hm
      · rw [List.mem_singleton.1 hm]
        exact m8
    · exact haside h
  · exact haside h
theorem fol_all {nx : Int} {u : ByteArray} {L : List PM} (hnx : nx ≤ 10000) : ∀ {R : List PM} {S S' : SM}, (∀ q ∈ R, q ∈ L) → (∀ g ∈ S.fs, FolOf nx u L g) → takeAll nx u S R = some S' → ∀ g ∈ S'.fs, FolOf nx u L g
  | [], S, S', _, hS, h => by cases h; exact hS
  | q :: R, S, S', hR, hS, h => by
    unfold takeAll at h
    obtain ⟨S1, h1, h2⟩ := Option.bind_eq_some_iff.1 h
    exact fol_all hnx (fun x hx => hR x (List.mem_cons_of_mem _ hx)) (fol_take hnx (hR q List.mem_cons_self) hS h1) h2
theorem store_fol {L : List PM} {u : ByteArray} {S : SM} (h : storeB L = true) (hS : takeAll (nextM L) u S0 L = some S) : ∀ g ∈ S.fs, FolOf (nextM L) u L g := by
  obtain ⟨hg, nx0, hnm, n1, n2, _, _, _⟩ := store_facts h
  exact fol_all (by omega) (fun q hq => hq) (fun f hf => by cases hf) hS
theorem look_meta {L : List PM} {u f : ByteArray} {S : SM} {g : FM} (h : storeB L = true) (hS : takeAll (nextM L) u S0 L = some S) (hl : lookF f S.fs = some g) : metaM L u f = some (g.val, g.next) := by
  obtain ⟨hg, nx0, hnm, n1, n2, _, _, _⟩ := store_facts h
  obtain ⟨hm, hn⟩ := lookF_mem hl
  obtain ⟨⟨w, f2, k1, k2, k3, k4⟩, _⟩ := store_fol h hS g hm
  rw [hn] at k1 k2
  have k5 := ((folder_meta (by omega)).1 k2).2.1
  unfold metaM
  rw [(getM_mem hg.2.2).2 k1]
  show metaV w = _
  rw [k5, k3, k4]
theorem mail_is {L : List PM} {u : ByteArray} (h : storeB L = true) (hus : (47 : UInt8) ∉ u.data.toList) {q : PM} (hq : q ∈ L) : isMail u q = beginsB q.1 (mailsK u) := by
  rw [Bool.eq_iff_iff]
  refine ⟨mail_begins, fun hb => ?_⟩
  obtain ⟨r, hr⟩ := begins_parts hus hb
  obtain ⟨_, nx0, _, _, _, _, _, k⟩ := store_facts h
  rcases k _ hq with k | ⟨u', k1, _⟩
  · rw [k] at hr
    have h9 : splitL 47 vK.data.toList = [[118]] := rfl
    rw [h9] at hr
    simp at hr
  · unfold ownerM at k1
    rw [hr] at k1
    unfold isMail
    rw [hr]
    match r, k1 with
    | [], k1 => exact absurd k1 (by unfold ownerG; simp)
    | [c], k1 => exact absurd k1 (by unfold ownerG; simp)
    | [c, d], _ => exact decide_eq_true ⟨rfl, data_bs u⟩
    | _ :: _ :: _ :: _, k1 => exact absurd k1 (by unfold ownerG; simp)
theorem sum_count {L : List PM} {u : ByteArray} {S : SM} (h : storeB L = true) (hus : (47 : UInt8) ∉ u.data.toList) (hS : takeAll (nextM L) u S0 L = some S) : sumF S.fs = countM L u := by
  obtain ⟨S', k1, _, hI⟩ := take_all h hus
  rw [hS] at k1
  cases k1
  rw [hI.c]
  unfold countM
  congr 1
  exact List.filter_congr fun q hq => mail_is h hus hq
theorem count_six {L : List PM} {u : ByteArray} {S : SM} (h : storeB L = true) (hus : (47 : UInt8) ∉ u.data.toList) (hS : takeAll (nextM L) u S0 L = some S) (hk : (getM L (userK u)).isSome = true) : sumF S.fs ≤ 6 := by
  obtain ⟨hg, nx0, hnm, n1, n2, _, hlay, _⟩ := store_facts h
  obtain ⟨v, hv⟩ := Option.isSome_iff_exists.1 hk
  have h1 := hlay u ⟨_, (getM_mem hg.2.2).1 hv, rfl⟩
  rw [hnm] at h1
  unfold layF at h1
  rw [hS] at h1
  have h2 : ((lookF inboxT S.fs).isSome && decide (sumF S.fs ≤ 6)) = true := h1
  rw [Bool.and_eq_true, decide_eq_true_eq] at h2
  exact h2.2
def appT (L : List PM) (u f t : ByteArray) (fl : Int) : List PM × Int × Int :=
  if countM L u = 6 then (L, 0, 12) else if (metaD L u f).2 = 999 then (L, 0, 6) else if 60 < (appY L u f t fl).length then (L, 0, 7) else (appY L u f t fl, (metaD L u f).2, 0)
theorem d3_inj {a b : Nat} (ha : a < 1000) (hb : b < 1000) (h : d3 a = d3 b) : a = b := by
  have h1 := (d3_is a ha).2
  rw [h, (d3_is b hb).2] at h1
  exact (Option.some.inj h1).symm
theorem mails_not {u n f : ByteArray} {ms : List MMl} : ∀ p ∈ ms.map (mailP u n), p.1 ≠ folderK u f := fun p hp e => by
  obtain ⟨m, _, rfl⟩ := List.mem_map.1 hp
  have h9 := congrArg (fun x : ByteArray => x.data.toList) e
  simp only [mailP, folderK_data] at h9
  simp [bs] at h9
theorem same_name {fs : List FM} (hn : (fs.map (·.name)).Nodup) {a b : FM} (ha : a ∈ fs) (hb : b ∈ fs) (h : a.name = b.name) : a = b := by
  induction fs with
  | nil => cases ha
  | cons x fs ih =>
    rw [List.map_cons, List.nodup_cons] at hn
    rcases List.mem_cons.1 ha with ha1 | ha1
    · rcases List.mem_cons.1 hb with hb1 | hb1
      · rw [ha1, hb1]
      · exact absurd (List.mem_map.2 ⟨b, hb1, by rw [← h, ha1]⟩) hn.1
    · rcases List.mem_cons.1 hb with hb1 | hb1
      · exact absurd (List.mem_map.2 ⟨a, ha1, by rw [h, hb1]⟩) hn.1
      · exact ih hn.2 ha1 hb1
theorem look_self {fs : List FM} (hn : (fs.map (·.name)).Nodup) {g : FM} (hg : g ∈ fs) : lookF g.name fs = some g := by
  obtain ⟨g2, h2⟩ := Option.isSome_iff_exists.1 (look_mem' hg)
  obtain ⟨h3, h4⟩ := lookF_mem h2
  rw [h2, same_name hn h3 hg h4]
/-- A mail's key in the list is that of a mail on the desk. -/
theorem mail_there {L : List PM} {u f : ByteArray} {S : SM} {g : FM} {n : Nat} {v : ByteArray} (h : storeB L = true) (hus : (47 : UInt8) ∉ u.data.toList) (hfs : (47 : UInt8) ∉ f.data.toList) (hS : takeAll (nextM L) u S0 L = some S) (hl : lookF f S.fs = some g) (hn : n < 1000) (hm : (mailK u f (n : Int), v) ∈ L) : ∃ m ∈ g.mails, m.1 = (n : Int) ∧ mailV m = v := by
  have hnd := names_all (S := S0) List.nodup_nil hS
  have hd := (take_desk h hus hS).mem_iff.2 hm
  have hkd : (mailK u f (n : Int)).data.toList = 109 :: 47 :: (u.data.toList ++ 47 :: (f.data.toList ++ 47 :: d3 n)) := by simp [bs]
  have hsp : splitL 47 (mailK u f (n : Int)).data.toList = [109] :: u.data.toList :: f.data.toList :: splitL 47 (d3 n) := by
    rw [hkd]
    have e : (109 : UInt8) :: 47 :: (u.data.toList ++ 47 :: (f.data.toList ++ 47 :: d3 n)) = [109] ++ 47 :: (u.data.toList ++ 47 :: (f.data.toList ++ 47 :: d3 n)) := rfl
    rw [e, splitL_seg 47 [109] _ (by decide), splitL_seg 47 _ _ hus, splitL_seg 47 _ _ hfs]
  have how : ownerM (mailK u f (n : Int), v) = some u := by
    obtain ⟨_, nx0, _, _, _, _, _, k⟩ := store_facts h
    rcases k _ hm with k | ⟨u', k1, _⟩
    · exact absurd k (mailK_not _ _ _)
    · unfold ownerM at k1 ⊢
      rw [hsp] at k1 ⊢
      match hq : splitL 47 (d3 n), k1 with
      | [], k1 => exact absurd hq (splitL_ne 47 _)
      | [d], k1 =>
        show (if ([109] : List UInt8) = [109] then some (bs u.data.toList) else none) = some u
        rw [if_pos rfl, data_bs]
      | _ :: _ :: _, k1 => cases k1
  unfold deskX at hd
  rcases List.mem_append.1 hd with hd | hd
  · exfalso
    rw [all_aside hS] at hd
    have h3 : (mailK u f (n : Int), v) ∈ L.filter fun p => !isOwn u p := by simpa using hd
    have h5 := (List.mem_filter.1 h3).2
    rw [show isOwn u (mailK u f (n : Int), v) = true from decide_eq_true how] at h5
    cases h5
  · rcases List.mem_append.1 hd with hd | hd
    · exfalso
      unfold wordL at hd
      split at hd
      · cases hd
      · have h9 := congrArg Prod.fst (List.mem_singleton.1 hd)
        have h7 := congrArg (fun x : ByteArray => x.data.toList) h9
        simp [bs, ByteArray.data_append] at h7
    · obtain ⟨g2, hg2, hp⟩ := flat_mem hd
      unfold fPairs at hp
      rcases List.mem_cons.1 hp with hp | hp
      · exfalso
        have h9 := congrArg Prod.fst hp
        have h7 := congrArg (fun x : ByteArray => x.data.toList) h9
        simp only [folderK_data] at h7
        simp [bs] at h7
      · obtain ⟨m, hm1, hm2⟩ := List.mem_map.1 hp
        have h9 := congrArg Prod.fst hm2
        have h7 := congrArg (fun x : ByteArray => x.data.toList) h9
        have h6 : 109 :: 47 :: (u.data.toList ++ 47 :: (g2.name.data.toList ++ 47 :: d3 m.1.toNat)) = 109 :: 47 :: (u.data.toList ++ 47 :: (f.data.toList ++ 47 :: d3 n)) := by
          simpa [mailP, bs] using h7
        simp only [List.cons.injEq, true_and] at h6
        obtain ⟨_, h5⟩ := seg_inj hus hus h6
        obtain ⟨h4, h3⟩ := seg_inj (word_slash (name_short h hus hS hg2)) hfs h5
        have h2 : g2.name = f := bs_inj h4
        have h1 : g2 = g := by
          have h8 := look_self hnd hg2
          rw [h2, hl] at h8
          exact (Option.some.inj h8).symm
        subst h1
        have hft := (store_fit h hS g2 hg2).2.2.2.2.2 m hm1
        have h0 := d3_inj (by omega) hn h3
        exact ⟨m, hm1, by omega, congrArg Prod.snd hm2⟩
/-- The desk and the list, one folder told apart. -/
theorem desk_apart {L : List PM} {u f : ByteArray} {S : SM} {g : FM} (h : storeB L = true) (hus : (47 : UInt8) ∉ u.data.toList) (hfs : (47 : UInt8) ∉ f.data.toList) (hS : takeAll (nextM L) u S0 L = some S) (hw : S.word.toList ≠ []) (hl : lookF f S.fs = some g) :
    (notK (folderK u f) L).Perm ((vK, bs (itoa (nextM L))) :: (userK u, S.word) :: (notK vK S.aside ++ (g.mails.map (mailP u f) ++ flatF u (dropF f S.fs)))) := by
  have hnd := names_all (S := S0) List.nodup_nil hS
  refine (notK_perm (desk_list h hus hS hw)).trans ?_
  rw [notK_cons _ _ _ (folder_not u f).symm, notK_cons _ _ _ (fun e => by
    have h9 := congrArg (fun x : ByteArray => x.data.toList) e
    simp [ByteArray.data_append] at h9), notK_app]
  refine List.Perm.cons _ (List.Perm.cons _ ?_)
  have e1 : notK (folderK u f) (notK vK S.aside) = notK vK S.aside := notK_self fun p hp => by
    have h9 := aside_pass h hus hfs hS hp
    unfold passB at h9
    rw [Bool.and_eq_true, decide_eq_true_eq] at h9
    exact h9.1
  rw [e1]
  refine List.Perm.append_left _ ?_
  refine (notK_perm (flat_perm (drop_perm hl))).trans ?_
  rw [flat_cons, notK_app]
  have hgn := (lookF_mem hl).2
  have e2 : notK (folderK u f) (fPairs u g) = g.mails.map (mailP u f) := by
    unfold fPairs
    rw [hgn, notK_skip (folderK u f) (folderK u f, metaT g.val g.next) _ rfl, notK_self mails_not]
  have e3 : notK (folderK u f) (flatF u (dropF f S.fs)) = flatF u (dropF f S.fs) := notK_self fun p hp => by
    have h8 := rest_pass (fs := dropF f S.fs) hus hfs fun x hx => ⟨drop_names hnd x hx, word_slash (name_short h hus hS ((dropF_sub f S.fs).subset hx))⟩
    have h9 := List.filter_eq_self.1 h8 p hp
    unfold passB at h9
    rw [Bool.and_eq_true, decide_eq_true_eq] at h9
    exact h9.1
  rw [e2, e3]
def AppFits (L : List PM) (nx : Int) (u : ByteArray) (gx : Int) (q : Int) (S' : SM) (A : List PM × Int × Int) : Prop :=
  (q ≠ 0 → A = (L, 0, q)) ∧ (q = 0 → (∀ f ∈ S'.fs, FitF f) ∧ ∃ Y, UpL Y ∧ (deskP nx u S').Perm Y ∧ Y.length ≤ 4000 ∧ A = if 60 < Y.length then (L, 0, 7) else (Y, gx, 0))
theorem app_fits {L : List PM} {u f t : ByteArray} {fl : Int} {S S' : SM} {g : FM} {q : Int} (h : storeB L = true) (hsu : shortB u = true) (hsf : shortB f = true) (hts : t.size ≤ 1000) (f0 : 0 ≤ fl) (f1 : fl ≤ 3) (hS : takeAll (nextM L) u S0 L = some S) (hw : S.word.toList ≠ []) (hl : lookF f S.fs = some g) (hQ : apM S g fl t = (q, S')) : AppFits L (nextM L) u g.next q S' (appT L u f t fl) := by
  have hus := word_slash hsu
  have hfs := word_slash hsf
  obtain ⟨hg, nx0, hnm, n1, n2, _, _, _⟩ := store_facts h
  have hmd : metaD L u f = (g.val, g.next) := by unfold metaD; rw [look_meta h hS hl]; rfl
  have hgm := (lookF_mem hl).1
  have hgn := (lookF_mem hl).2
  have hs : (getM L (userK u)).isSome = true := by
    cases hv : getM L (userK u) with
    | none => exact absurd ((word_iff h hus hS).1.2 hv) hw
    | some v => rfl
  have h6 := count_six h hus hS hs
  have hsc := sum_count h hus hS
  unfold apM at hQ
  unfold appT
  rw [← hsc, hmd]
  by_cases hc : 6 ≤ sumF S.fs
  · rw [if_pos hc] at hQ
    cases hQ
    rw [if_pos (by omega)]
    exact ⟨fun _ => rfl, fun h9 => by cases h9⟩
  · rw [if_neg hc] at hQ
    rw [if_neg (by omega)]
    by_cases hx : g.next = 999
    · rw [if_pos hx] at hQ
      cases hQ
      rw [if_pos hx]
      exact ⟨fun _ => rfl, fun h9 => by cases h9⟩
    · rw [if_neg hx] at hQ
      cases hQ
      rw [if_neg hx]
      have hfit := store_fit h hS g hgm
      obtain ⟨p1, p2, p3, p4⟩ := meta_range (look_meta h hS hl)
      dsimp only at p1 p2 p3 p4
      obtain ⟨k1, k2⟩ := app_len hg u f t fl
      refine ⟨fun h9 => absurd rfl h9, fun _ => ⟨fun z hz => ?_, appY L u f t fl, k2, ?_, by omega, rfl⟩⟩
      · rcases putF_mem hz with hz | rfl
        · exact store_fit h hS z hz
        · obtain ⟨e1, e2, e3, e4, e5, e6⟩ := hfit
          refine ⟨e1, e2, by show 0 ≤ g.next + 1; omega, by show g.next + 1 ≤ 10000; omega, e5, fun m hm => ?_⟩
          rcases List.mem_append.1 (show m ∈ g.mails ++ [(g.next, fl, t)] from hm) with hm | hm
          · exact e6 m hm
          · rw [List.mem_singleton.1 hm]
            exact ⟨by show 0 ≤ g.next; omega, by show g.next < 1000; omega, f0, f1, hts⟩
      · unfold appY
        rw [hmd]
        dsimp only
        have hu1 := ins_up (k := folderK u f) (v := metaT g.val (g.next + 1)) hg.2.2
        refine List.Perm.trans ?_ (ins_perm hu1).symm
        have hno : notK (mailK u f g.next) (insL (folderK u f) (metaT g.val (g.next + 1)) L) = insL (folderK u f) (metaT g.val (g.next + 1)) L := notK_self fun x hx2 e => by
          rcases ins_mem hg.2.2 hx2 with rfl | hx2
          · have h9 := congrArg (fun x : ByteArray => x.data.toList) e
            simp only [folderK_data] at h9
            simp [bs] at h9
          · have hx3 : (mailK u f ((g.next.toNat : Nat) : Int), x.2) ∈ L := by
              rw [show ((g.next.toNat : Nat) : Int) = g.next by omega, ← e]
              exact hx2.1
            obtain ⟨m, hm1, hm2, _⟩ := mail_there h hus hfs hS hl (by omega) hx3
            have h8 := (store_fol h hS g hgm).2 m hm1
            omega
        rw [hno]
        refine List.Perm.trans ?_ (List.Perm.cons _ (ins_perm hg.2.2).symm)
        refine List.Perm.trans ?_ (List.Perm.cons _ (List.Perm.cons _ (desk_apart h hus hfs hS hw hl).symm))
        unfold deskP
        have hfl : (flatF u (putF (moreF g fl t) S.fs)).Perm (fPairs u (moreF g fl t) ++ flatF u (dropF f S.fs)) := by
          have h9 := flat_perm (u := u) (put_perm (g := moreF g fl t) (f := g) (fs := S.fs) (by show lookF g.name S.fs = some g; rw [hgn]; exact hl))
          rw [flat_cons] at h9
          have e9 : (moreF g fl t).name = f := hgn
          rw [e9] at h9
          exact h9
        have hfp : fPairs u (moreF g fl t) = (folderK u f, metaT g.val (g.next + 1)) :: (g.mails.map (mailP u f) ++ [(mailK u f g.next, mailV (g.next, fl, t))]) := by
          unfold fPairs moreF
          dsimp only
          rw [hgn, List.map_append]
          rfl
        refine (List.Perm.cons _ (List.Perm.cons _ (List.Perm.append_left _ hfl))).trans ?_
        rw [hfp]
        -- v, u, A ++ (F :: (ms ++ [m]) ++ r)  against  m :: F :: v :: u :: (A ++ (ms ++ r))
        have e1 : ∀ (v w F m : PM) (A ms r : List PM), (v :: w :: (A ++ ((F :: (ms ++ [m])) ++ r))).Perm (m :: F :: v :: w :: (A ++ (ms ++ r))) := fun v w F m A ms r => by
          have p1 : (A ++ ((F :: (ms ++ [m])) ++ r)).Perm (m :: F :: (A ++ (ms ++ r))) := by
            have p2 : ((F :: (ms ++ [m])) ++ r).Perm (m :: F :: (ms ++ r)) := by
              have p3 : ((ms ++ [m]) ++ r).Perm (m :: (ms ++ r)) := by
                rw [List.append_assoc]
                exact List.perm_middle
              exact (List.Perm.cons F p3).trans (List.Perm.swap _ _ _)
            refine (List.Perm.append_left A p2).trans ?_
            refine (List.perm_middle).trans ?_
            exact List.Perm.cons _ List.perm_middle
          refine (List.Perm.cons v (List.Perm.cons w p1)).trans ?_
          refine (List.Perm.cons v (List.Perm.swap _ _ _)).trans ?_
          refine (List.Perm.swap _ _ _).trans ?_
          refine List.Perm.cons m ?_
          refine (List.Perm.cons v (List.Perm.swap _ _ _)).trans ?_
          exact List.Perm.swap _ _ _
        exact e1 _ _ _ _ _ _ _
theorem appR_T {L : List PM} {u f t : ByteArray} {fl : Int} (h : knownR L u f = 0) : appR L u f t fl = appT L u f t fl := by
  unfold appR appT
  rw [if_neg (by simp [h])]
end Go.Proofs.YtbpgncgmolpkiaaGreatDoor
namespace Go.Proofs.YtbpgncgmolpkiaaGreatDoor
open Go.ChangeShapes Go.WideShapes Go.ChangeAt Go.RowKit Go.Deep Go.Lib
set_option linter.unusedVariables false
set_option linter.unusedSimpArgs false
set_option maxRecDepth 100000

theorem lack_known {L : List PM} {u f : ByteArray} {S : SM} (h : storeB L = true) (hus : (47 : UInt8) ∉ u.data.toList) (hfs : (47 : UInt8) ∉ f.data.toList) (hS : takeAll (nextM L) u S0 L = some S) : lackM S.word S.fs [f] = knownR L u f := by
  obtain ⟨hwi, _⟩ := word_iff h hus hS
  obtain ⟨hli, _⟩ := look_iff h hus hS hfs
  unfold lackM knownR
  by_cases hw : S.word.toList = []
  · rw [if_pos hw, hwi.1 hw]
    rfl
  · have hs : (getM L (userK u)).isSome = true := by
      cases hv : getM L (userK u) with
      | none => exact absurd (hwi.2 hv) hw
      | some v => rfl
    have hall : [f].all (fun s => (lookF s S.fs).isSome) = (lookF f S.fs).isSome := by simp
    rw [if_neg hw, hs, hall, hli]
    rfl
theorem known_zero {L : List PM} {u f : ByteArray} {S : SM} (h : storeB L = true) (hus : (47 : UInt8) ∉ u.data.toList) (hfs : (47 : UInt8) ∉ f.data.toList) (hS : takeAll (nextM L) u S0 L = some S) (hk : knownR L u f = 0) : S.word.toList ≠ [] ∧ ∃ g, lookF f S.fs = some g := by
  rw [← lack_known h hus hfs hS] at hk
  unfold lackM at hk
  split at hk
  · cases hk
  · rename_i hw
    split at hk
    · cases hk
    · rename_i hb
      refine ⟨hw, Option.isSome_iff_exists.1 ?_⟩
      cases h9 : (lookF f S.fs).isSome with
      | true => rfl
      | false => exact absurd (by show ((lookF f S.fs).isSome && true) = false; rw [h9]; rfl) hb
def flagB (fl : Int) : Bool := decide (0 ≤ fl) && decide (fl ≤ 3)
def amR (L : List PM) (u f t : ByteArray) (fl : Int) : List PM × Int × Int :=
  if 65536 < t.size then ([], 0, 2) else if askM L [u, f] ≠ 0 then ([], 0, askM L [u, f]) else if 85 < t.size ∨ flagB fl = false then ([], 0, 4) else appR L u f t fl
theorem am_bad {L : List PM} {u f t : ByteArray} {fl : Int} {R : List PM} {q1 q2 : Int} (h : amR L u f t fl = (R, q1, q2)) (h1 : 65536 < t.size ∨ askM L [u, f] = 2) : [] = R ∧ 0 = q1 ∧ 2 = q2 := by
  unfold amR at h
  by_cases e : 65536 < t.size
  · rw [if_pos e] at h
    cases h
    exact ⟨rfl, rfl, rfl⟩
  · rcases h1 with h1 | h1
    · exact absurd h1 e
    · rw [if_neg e, if_pos (by rw [h1]; decide), h1] at h
      cases h
      exact ⟨rfl, rfl, rfl⟩
theorem app_small {L : List PM} (hg : GoodL L) (u f t : ByteArray) (fl : Int) : (appR L u f t fl).1.length ≤ 4000 := by
  have h1 := hg.1
  have h2 := (app_len hg u f t fl).1
  unfold appR
  split
  · show L.length ≤ 4000; omega
  · split
    · show L.length ≤ 4000; omega
    · split
      · show L.length ≤ 4000; omega
      · split
        · show L.length ≤ 4000; omega
        · show (appY L u f t fl).length ≤ 4000; omega
theorem l01InS (n lo hi : Int) (b : Bool) (w : World) (h : (decide (lo ≤ n) && decide (n ≤ hi)) = b) : Calls Tryz.prog 77 #[.int .i64 n, .int .i64 lo, .int .i64 hi] w fun e w' => e = .returned (.bool b) ∧ w' = w := by
  by_cases h1 : lo ≤ n
  · by_cases h2 : n ≤ hi
    · obtain rfl : true = b := by rw [← h, decide_eq_true h1, decide_eq_true h2]; rfl
      clear h
      go_enter Tryz.func77, Tryz.ntmps77
      go_wp2_with fail
      go_ret
      exact ⟨rfl, rfl⟩
    · obtain rfl : false = b := by rw [← h, decide_eq_false h2]; simp
      clear h
      go_enter Tryz.func77, Tryz.ntmps77
      go_wp2_with fail
      go_ret
      exact ⟨rfl, rfl⟩
  · obtain rfl : false = b := by rw [← h, decide_eq_false h1]; rfl
    clear h
    go_enter Tryz.func77, Tryz.ntmps77
    go_wp2_with fail
    go_ret
    exact ⟨rfl, rfl⟩
end Go.Proofs.YtbpgncgmolpkiaaGreatDoor
namespace Go.Proofs.YtbpgncgmolpkiaaGreatDoor
open Go.ChangeShapes Go.WideShapes Go.ChangeAt Go.RowKit Go.Deep Go.Lib
set_option linter.unusedVariables false
set_option linter.unusedSimpArgs false
set_option maxRecDepth 100000

/-- Where a uid is first. -/
def PlaceIs (Ms : List MMl) (un at' : Int) : Prop := (∃ i : Nat, i < Ms.length ∧ at' = (i : Int) ∧ (Ms.getD i ml0).1 = un) ∨ (at' = -1 ∧ ∀ m ∈ Ms, m.1 ≠ un)
end Go.Proofs.YtbpgncgmolpkiaaGreatDoor
namespace Go.Proofs.YtbpgncgmolpkiaaGreatDoor
open Go.ChangeShapes Go.WideShapes Go.ChangeAt Go.RowKit Go.Deep Go.Lib
set_option linter.unusedVariables false
set_option linter.unusedSimpArgs false
set_option maxRecDepth 100000

theorem hasU {L : List PM} {u : ByteArray} {S : SM} (h : storeB L = true) (hus : (47 : UInt8) ∉ u.data.toList) (hS : takeAll (nextM L) u S0 L = some S) (hw : S.word.toList ≠ []) : ∃ q ∈ L, q.1 = userK u := by
  cases hv : getM L (userK u) with
  | none => exact absurd ((word_iff h hus hS).1.2 hv) hw
  | some v => exact ⟨_, (getM_mem (store_facts h).1.2.2).1 hv, rfl⟩
theorem mail_val {L : List PM} {u f : ByteArray} {n : Nat} {v : ByteArray} (h : storeB L = true) (hus : (47 : UInt8) ∉ u.data.toList) (hfs : (47 : UInt8) ∉ f.data.toList) (hU : ∃ q ∈ L, q.1 = userK u) (hn : n < 1000) (hm : (mailK u f (n : Int), v) ∈ L) : 1 ≤ v.size ∧ v.size ≤ 86 ∧ 48 ≤ hdV v ∧ hdV v ≤ 51 ∧ 1 ≤ n := by
  obtain ⟨hg, nx0, hnm, n1, n2, _, hlay, k⟩ := store_facts h
  have hkd : (mailK u f (n : Int)).data.toList = 109 :: 47 :: (u.data.toList ++ 47 :: (f.data.toList ++ 47 :: d3 n)) := by simp [bs]
  have hsp : splitL 47 (mailK u f (n : Int)).data.toList = [109] :: u.data.toList :: f.data.toList :: splitL 47 (d3 n) := by
    rw [hkd]
    have e : (109 : UInt8) :: 47 :: (u.data.toList ++ 47 :: (f.data.toList ++ 47 :: d3 n)) = [109] ++ 47 :: (u.data.toList ++ 47 :: (f.data.toList ++ 47 :: d3 n)) := rfl
    rw [e, splitL_seg 47 [109] _ (by decide), splitL_seg 47 _ _ hus, splitL_seg 47 _ _ hfs]
  have h1 := (lay_iff (nx := nx0) (by omega) hg.2.2 hus).1 (hlay u hU)
  rcases k _ hm with k | ⟨u', k1, _⟩
  · exact absurd k (mailK_not _ _ _)
  · match hq : splitL 47 (d3 n) with
    | [] => exact absurd hq (splitL_ne 47 _)
    | [d] =>
      have hd : d3 n = d := (split_one hq).1
      have how : ownerM (mailK u f (n : Int), v) = some u := by
        unfold ownerM
        rw [hsp, hq]
        show (if ([109] : List UInt8) = [109] then some (bs u.data.toList) else none) = some u
        rw [if_pos rfl, data_bs]
      have h2 := h1.1 _ hm how
      rw [hsp, hq] at h2
      obtain ⟨w, f2, _, _, h3⟩ := h2
      obtain ⟨n9, e1, _, e3, e4, e5, e6, e7, _⟩ := mailO_iff.1 h3
      rw [← hd, (d3_is n hn).2] at e1
      cases e1
      exact ⟨e3, e4, e5, e6, by omega⟩
    | _ :: _ :: _ =>
      unfold ownerM at k1
      rw [hsp, hq] at k1
      cases k1
theorem mail_pair {L : List PM} {u f : ByteArray} {S : SM} {g : FM} {m : MMl} (h : storeB L = true) (hus : (47 : UInt8) ∉ u.data.toList) (hS : takeAll (nextM L) u S0 L = some S) (hl : lookF f S.fs = some g) (hm : m ∈ g.mails) : (mailK u f m.1, mailV m) ∈ L := by
  obtain ⟨h1, h2⟩ := lookF_mem hl
  refine (take_desk h hus hS).mem_iff.1 ?_
  unfold deskX
  refine List.mem_append_right _ (List.mem_append_right _ (List.mem_flatMap.2 ⟨g, h1, ?_⟩))
  unfold fPairs
  refine List.mem_cons_of_mem _ (List.mem_map.2 ⟨m, hm, ?_⟩)
  rw [h2]
  rfl
theorem mailV_parts {m : MMl} (h0 : 0 ≤ m.2.1) (h1 : m.2.1 ≤ 3) : (mailV m).extract 1 (mailV m).size = m.2.2 ∧ hdV (mailV m) - 48 = m.2.1 := by
  have hit : ∃ c : UInt8, itoa m.2.1 = [c] ∧ (c.toNat : Int) = 48 + m.2.1 := by
    refine ⟨UInt8.ofNat (48 + m.2.1.toNat), ?_, ?_⟩
    · unfold itoa
      rw [if_neg (by omega)]
      unfold decDigits
      rw [dif_pos (by omega)]
    · have h2 : (UInt8.ofNat (48 + m.2.1.toNat)).toNat = 48 + m.2.1.toNat := by simp [UInt8.toNat_ofNat']; omega
      rw [h2]
      omega
  obtain ⟨c, hc, hcn⟩ := hit
  have hd : (mailV m).data.toList = c :: m.2.2.data.toList := by
    unfold mailV
    rw [ByteArray.data_append, Array.toList_append, hc]
    simp [bs]
  constructor
  · apply bs_inj
    rw [ByteArray.data_extract, Array.toList_extract, hd]
    have h9 : (mailV m).size = (c :: m.2.2.data.toList).length := by rw [← hd]; simp
    rw [h9]
    simp [List.extract]
    exact List.take_of_length_le (by simp)
  · unfold hdV
    rw [hd]
    show (c.toNat : Int) - 48 = m.2.1
    omega
def cpT (L : List PM) (u f : ByteArray) (un : Int) (tf : ByteArray) : List PM × Int × Int :=
  if (decide (1 ≤ un) && decide (un ≤ 999)) = false then (L, 0, 5) else match getM L (mailK u f un) with
    | none => (L, 0, 5)
    | some v => appR L u tf (v.extract 1 v.size) (hdV v - 48)
def cpR (L : List PM) (u f : ByteArray) (un : Int) (tf : ByteArray) : List PM × Int × Int :=
  if knownR L u f ≠ 0 then (L, 0, knownR L u f) else if knownR L u tf ≠ 0 then (L, 0, knownR L u tf) else cpT L u f un tf
theorem cp_hit {L : List PM} {u f tf : ByteArray} {S : SM} {g : FM} {m : MMl} (h : storeB L = true) (hus : (47 : UInt8) ∉ u.data.toList) (hfs : (47 : UInt8) ∉ f.data.toList) (hS : takeAll (nextM L) u S0 L = some S) (hw : S.word.toList ≠ []) (hl : lookF f S.fs = some g) (hm : m ∈ g.mails) : cpT L u f m.1 tf = appR L u tf m.2.2 m.2.1 ∧ 0 ≤ m.2.1 ∧ m.2.1 ≤ 3 ∧ m.2.2.size ≤ 1000 := by
  obtain ⟨e1, e2, e3, e4, e5⟩ := (store_fit h hS g (lookF_mem hl).1).2.2.2.2.2 m hm
  have hp := mail_pair h hus hS hl hm
  have hp2 : (mailK u f ((m.1.toNat : Nat) : Int), mailV m) ∈ L := by rw [show ((m.1.toNat : Nat) : Int) = m.1 by omega]; exact hp
  obtain ⟨_, _, _, _, h1⟩ := mail_val h hus hfs (hasU h hus hS hw) (by omega) hp2
  obtain ⟨p1, p2⟩ := mailV_parts e3 e4
  refine ⟨?_, e3, e4, e5⟩
  unfold cpT
  rw [if_neg (by rw [decide_eq_true (by omega), decide_eq_true (by omega)]; decide), (getM_mem (store_facts h).1.2.2).2 hp]
  show appR L u tf ((mailV m).extract 1 (mailV m).size) (hdV (mailV m) - 48) = _
  rw [p1, p2]
theorem cp_miss {L : List PM} {u f tf : ByteArray} {S : SM} {g : FM} {un : Int} (h : storeB L = true) (hus : (47 : UInt8) ∉ u.data.toList) (hfs : (47 : UInt8) ∉ f.data.toList) (hS : takeAll (nextM L) u S0 L = some S) (hl : lookF f S.fs = some g) (hm : ∀ m ∈ g.mails, m.1 ≠ un) : cpT L u f un tf = (L, 0, 5) := by
  unfold cpT
  by_cases hr : (decide (1 ≤ un) && decide (un ≤ 999)) = false
  · rw [if_pos hr]
  · rw [if_neg hr]
    cases hv : getM L (mailK u f un) with
    | none => rfl
    | some v =>
      exfalso
      have hr2 : 1 ≤ un ∧ un ≤ 999 := by
        by_cases e : 1 ≤ un ∧ un ≤ 999
        · exact e
        · exact absurd (by
            by_cases e1 : 1 ≤ un
            · have e2 : ¬ un ≤ 999 := fun h9 => e ⟨e1, h9⟩
              rw [decide_eq_false e2]; simp
            · rw [decide_eq_false e1]; rfl) hr
      have hp := (getM_mem (store_facts h).1.2.2).1 hv
      have hp2 : (mailK u f ((un.toNat : Nat) : Int), v) ∈ L := by rw [show ((un.toNat : Nat) : Int) = un by omega]; exact hp
      obtain ⟨m, m1, m2, _⟩ := mail_there h hus hfs hS hl (by omega) hp2
      exact hm m m1 (by omega)
theorem known2 {L : List PM} {u f tf : ByteArray} {S : SM} (h : storeB L = true) (hus : (47 : UInt8) ∉ u.data.toList) (hfs : (47 : UInt8) ∉ f.data.toList) (hto : (47 : UInt8) ∉ tf.data.toList) (hS : takeAll (nextM L) u S0 L = some S) : lackM S.word S.fs [f, tf] = if knownR L u f ≠ 0 then knownR L u f else knownR L u tf := by
  rw [← lack_known h hus hfs hS, ← lack_known h hus hto hS]
  have hall : ∀ a b, [a, b].all (fun s => (lookF s S.fs).isSome) = ((lookF a S.fs).isSome && (lookF b S.fs).isSome) := fun a b => by simp
  have hone : ∀ a, [a].all (fun s => (lookF s S.fs).isSome) = (lookF a S.fs).isSome := fun a => by simp
  unfold lackM
  rw [hall, hone, hone]
  by_cases hw : S.word.toList = []
  · simp [hw]
  · rw [if_neg hw, if_neg hw, if_neg hw]
    cases (lookF f S.fs).isSome <;> cases (lookF tf S.fs).isSome <;> rfl
end Go.Proofs.YtbpgncgmolpkiaaGreatDoor
namespace Go.Proofs.YtbpgncgmolpkiaaGreatDoor
open Go.ChangeShapes Go.WideShapes Go.ChangeAt Go.RowKit Go.Deep Go.Lib
set_option linter.unusedVariables false
set_option linter.unusedSimpArgs false
set_option maxRecDepth 100000

/-- Mails whose pairs can be read back. -/
def FitMs (Ms : List MMl) : Prop := ∀ m ∈ Ms, 0 ≤ m.1 ∧ m.1 < 1000 ∧ 0 ≤ m.2.1 ∧ m.2.1 ≤ 3 ∧ m.2.2.size ≤ 1000
/-- Of three digits the first i, as a number. -/
def partD (x y z : Int) : Nat → Int
  | 0 => 0
  | 1 => x
  | 2 => x * 10 + y
  | _ => (x * 10 + y) * 10 + z
def digD (x y z : Int) : Nat → Int
  | 0 => x
  | 1 => y
  | _ => z
theorem part_step (x y z : Int) (i : Nat) (h : i < 3) : partD x y z (i + 1) = partD x y z i * 10 + digD x y z i := by
  match i, h with
  | 0, _ => simp [partD, digD]
  | 1, _ => rfl
  | 2, _ => rfl
theorem key_digit {K : ByteArray} {p : List UInt8} {x y z : Nat} (hx : x < 10) (hy : y < 10) (hz : z < 10) (h : K.data.toList = p ++ [UInt8.ofNat (48 + x), UInt8.ofNat (48 + y), UInt8.ofNat (48 + z)]) (i : Nat) (hi : i < 3) : K.size = p.length + 3 ∧ ∃ hb : p.length + i < K.size, ((K[p.length + i]'hb).toNat : Int) = 48 + digD (x : Int) (y : Int) (z : Int) i := by
  have hs : K.size = p.length + 3 := by
    rw [size_of, h]
    simp
  refine ⟨hs, by omega, ?_⟩
  have hd : ∀ d : Nat, d < 10 → ((UInt8.ofNat (48 + d)).toNat : Int) = 48 + (d : Int) := fun d h9 => by
    have h1 : (UInt8.ofNat (48 + d)).toNat = 48 + d := by simp [UInt8.toNat_ofNat']; omega
    rw [h1]
    omega
  have hb : p.length + i < K.data.toList.length := by rw [h]; simp; omega
  have e : K[p.length + i]'(by omega) = K.data.toList[p.length + i]'hb := rfl
  rw [e]
  have e2 : K.data.toList[p.length + i]'hb = [UInt8.ofNat (48 + x), UInt8.ofNat (48 + y), UInt8.ofNat (48 + z)][i]'(by simpa using hi) := by
    simp only [h]
    rw [List.getElem_append_right (by omega)]
    simp
  rw [e2]
  match i, hi with
  | 0, _ => exact hd x hx
  | 1, _ => exact hd y hy
  | 2, _ => exact hd z hz
set_option maxHeartbeats 8000000 in
theorem l07OfS (a : Option Addr) (n c : Nat) (L : List PM) (hL : L.length = n) (hg : GoodL L) (u f : ByteArray) (hus : u.size ≤ 1000) (hfs : f.size ≤ 1000) (Ms : List MMl) (hM : FitMs Ms) (hU : (L.filter fun x => beginsB x.1 (preK u f)) = Ms.map (mailP u f)) (w : World) (h : Src w a (cellsP L)) :
    Calls Tryz.prog 66 #[.slice a n c, .string u, .string f] w fun e w' => ∃ v, e = .returned v ∧ w'.ownsRow w.heap.size 62 3 v Ms.length (cellsMl Ms) ∧ Below w.heap.size w w' := by
  have hn60 := hg.1
  rw [hL] at hn60
  have CM := fun W => l07MailsS u f W hus hfs
  have hpz := preK_size u f
  have CU := fun W (hW : Below w.heap.size w W) => l01Under a n c (fK L) (fV L) (preK u f) W (by omega) (by omega) (fun i hi => by
    have hi2 : i < L.length := by omega
    obtain ⟨e1, e2⟩ := at_fst hi2
    rw [e1, e2]
    have := hg.2.1 _ (List.getElem_mem hi2)
    omega) (sp_src (h.below hW) hL)
  have eU : under (fK L) (fV L) (preK u f) n = Ms.map (mailP u f) := by
    rw [under_is L (preK u f) n (by omega), List.take_of_length_le (by omega), hU]
  simp only [eU] at CU
  have hul : (Ms.map (mailP u f)).length ≤ L.length := by rw [← hU]; exact List.length_filter_le _ _
  rw [List.length_map, hL] at hul
  obtain ⟨m, hm⟩ : ∃ t, Ms.length = t := ⟨_, rfl⟩
  rw [hm] at hul
  have hm60 : m ≤ 60 := by omega
  have HUM : Hid (Ms.length = m) := hm
  have HFM : Hid (FitMs Ms) := hM
  have hpl : (preK u f).data.toList.length = (preK u f).size := by rw [size_of]
  have HPD : Hid (∀ x ∈ Ms, ∃ p q r : Nat, p < 10 ∧ q < 10 ∧ r < 10 ∧ x.1 = ((p * 100 + q * 10 + r : Nat) : Int) ∧ (mailK u f x.1).data.toList = (preK u f).data.toList ++ [UInt8.ofNat (48 + p), UInt8.ofNat (48 + q), UInt8.ofNat (48 + r)]) := fun x hx => by
    obtain ⟨e1, e2, _⟩ := hM x hx
    obtain ⟨p, q, r, hp, hq, hr, he⟩ := split3 x.1.toNat (by omega)
    refine ⟨p, q, r, hp, hq, hr, by omega, ?_⟩
    rw [preK_data]
    have hd3 : d3 x.1.toNat = [UInt8.ofNat (48 + p), UInt8.ofNat (48 + q), UInt8.ofNat (48 + r)] := by
      rw [he]
      unfold d3
      rw [dec4 p q r hp hq hr]
      rfl
    show (bs (109 :: 47 :: (u.data.toList ++ 47 :: (f.data.toList ++ 47 :: d3 x.1.toNat)))).data.toList = _
    rw [hd3]
    simp [bs]
  obtain ⟨pl, hpl2⟩ : ∃ t, (preK u f).size = t := ⟨_, rfl⟩
  rw [hpl2] at hpl hpz
  obtain ⟨KP, hKP⟩ : ∃ t, preK u f = t := ⟨_, rfl⟩
  simp only [hKP] at CM CU HPD hpl
  rw [hKP] at hpl2
  have hs60 : pl ≤ 2100 := by omega
  clear hL hg h eU hU hm hKP hul hpz hM
  go_enter Tryz.func66, Tryz.ntmps66
  go_wp2_with fail
  refine (CM _).mono ?_
  rintro e w1 ⟨rfl, hw1⟩
  obtain rfl := hw1
  clear CM
  have A1 : Hid (Below w.heap.size w (w.alloc (.cells #[] 62))) := (Below.refl _ _).alloc (Nat.le_refl _) _
  have OE : Hid ((w.alloc (.cells #[] 62)).ownsRow w.heap.size 62 3 (.slice (some ⟨w.heap.size, 0, none⟩) 0 0) 0 (cellsMl (Ms.take 0))) := own_empty rfl (Nat.le_refl _)
  have CU1 := CU (w.alloc (.cells #[] 62)) A1.out
  clear CU
  go_wp2_with fail
  refine CU1.mono ?_
  rintro e w2 ⟨v2, rfl, ho2, hb2⟩
  have ho3 : w2.ownsRow (w.alloc (.cells #[] 62)).heap.size 47 2 v2 (Ms.map (mailP u f)).length (cellsP (Ms.map (mailP u f))) := ho2
  rw [List.length_map, HUM.out] at ho3
  obtain ⟨au, cu, rfl, hsu, hsb⟩ := own_src ho3
  have B2 : Hid (Below w.heap.size w w2) := A1.out.trans (hb2.mono A1.out.size)
  have HO2 : Hid (w2.ownsRow w.heap.size 62 3 (.slice (some ⟨w.heap.size, 0, none⟩) 0 0) 0 (cellsMl (Ms.take 0))) := own_below OE.out hb2
  have HUR : Hid (w2.ownsRow w.heap.size 47 2 (.slice au m cu) m (cellsP (Ms.map (mailP u f)))) := own_mono ho3 (by have h9 := A1.out.size; omega)
  clear CU1 ho2 ho3 hb2 hsu hsb OE
  go_wp2_with fail
  go_loopw [7, 10] (fun v iv wr => ∃ (j : Nat) (a' : Option Addr) (c' : Nat), j ≤ m ∧ v = .slice a' j c' ∧ iv = .int .i64 (j : Int) ∧ Hid (wr.ownsRow w.heap.size 62 3 (.slice a' j c') j (cellsMl (Ms.take j))) ∧ Hid (wr.ownsRow w.heap.size 47 2 (.slice au m cu) m (cellsP (Ms.map (mailP u f)))) ∧ Hid (Below w.heap.size w wr)) (fun _ i _ => m - (RowKit.intOf i).toNat)
  case atStart => exact ⟨0, _, _, Nat.zero_le _, rfl, rfl, HO2.out, HUR.out, B2.out⟩
  case round =>
    obtain ⟨j, a', c', hj, rfl, rfl, ho, hur, hbr⟩ := hrel
    by_cases hlt : j < m
    · have hltj : (j : Int) < (m : Int) := by omega
      have hjl : j < Ms.length := by rw [HUM.out]; exact hlt
      obtain ⟨gq, capq, hau, _, hsq⟩ := own_someP hur.out (by omega)
      cases hau
      have hjl2 : j < (Ms.map (mailP u f)).length := by rw [List.length_map]; exact hjl
      obtain ⟨bq, oq, x, y, hae, d0, d1, hxy⟩ := srcP hsq hjl2
      cases hae
      rw [Nat.zero_add] at d0 d1
      obtain ⟨mm, hmm⟩ : ∃ t, Ms.getD j ml0 = t := ⟨_, rfl⟩
      have hmem : mm ∈ Ms := by rw [← hmm]; exact mem_getD' Ms ml0 j hjl
      have hxy2 : mailP u f mm = (x, y) := by
        rw [← hxy.out, ← hmm, List.getD_eq_getElem?_getD, List.getD_eq_getElem?_getD, List.getElem?_map, List.getElem?_eq_getElem hjl]
        rfl
      obtain ⟨hmx, hmy⟩ : mailK u f mm.1 = x ∧ mailV mm = y := by
        have h9 : (mailK u f mm.1, mailV mm) = (x, y) := hxy2
        exact ⟨congrArg Prod.fst h9, congrArg Prod.snd h9⟩
      obtain ⟨p1, p2, p3, hp1, hp2, hp3, hpn, hpk⟩ := HPD.out mm hmem
      rw [hmx] at hpk
      obtain ⟨q1, q2, q3, q4, q5⟩ := HFM.out mm hmem
      obtain ⟨t1, t2⟩ := mailV_parts q3 q4
      have hysz : 1 ≤ y.size := by
        rw [← hmy]
        have h9 : (mailV mm).size = (bs (itoa mm.2.1)).size + mm.2.2.size := by unfold mailV; rw [ByteArray.size_append]
        have h8 : 1 ≤ (bs (itoa mm.2.1)).size := by
          rw [size_of]
          show 1 ≤ (itoa mm.2.1).length
          unfold itoa
          rw [if_neg (by omega)]
          unfold decDigits
          rw [dif_pos (by omega)]
          simp
        omega
      rw [hmy] at t1 t2
      have hkd := fun (i : Nat) (hi : i < 3) => key_digit hp1 hp2 hp3 hpk i hi
      simp only [hpl] at hkd
      have hxs : x.size = pl + 3 := (hkd 0 (by omega)).1
      obtain ⟨X, hX⟩ : ∃ t : Int, (p1 : Int) = t := ⟨_, rfl⟩
      obtain ⟨Y, hY⟩ : ∃ t : Int, (p2 : Int) = t := ⟨_, rfl⟩
      obtain ⟨Z, hZ⟩ : ∃ t : Int, (p3 : Int) = t := ⟨_, rfl⟩
      simp only [hX, hY, hZ] at hkd
      have hDG : ∀ i, 0 ≤ digD X Y Z i ∧ digD X Y Z i ≤ 9 := fun i => by
        unfold digD
        split <;> omega
      have hPD : ∀ i, 0 ≤ partD X Y Z i ∧ partD X Y Z i ≤ 1000 := fun i => by
        unfold partD
        split <;> omega
      have hP3 : partD X Y Z 3 = mm.1 := by
        show (X * 10 + Y) * 10 + Z = mm.1
        omega
      have HTK : Hid (cellsMl (Ms.take (j + 1)) = cellsMl (Ms.take j) ++ cellsMl [(mm.1, mm.2.1, mm.2.2)]) := by
        show _ = _
        rw [← cellsMl_append, List.take_add_one, List.getElem?_eq_getElem hjl]
        have h9 : Ms[j] = mm := by rw [← hmm, List.getD_eq_getElem?_getD, List.getElem?_eq_getElem hjl]; rfl
        rw [h9]
        rfl
      obtain ⟨hh, hhh⟩ : ∃ z : Int, hdV y = z := ⟨_, rfl⟩
      have hhd : (y[0].toNat : Int) = hdV y := by
        unfold hdV
        have e9 : y.data.toList.headD 0 = y[0] := by
          cases hvl : y.data.toList with
          | nil =>
            have h9 : y.data.toList.length = y.size := by simp
            rw [hvl] at h9
            simp at h9
            omega
          | cons c0 r0 =>
            have h9 : y[0] = y.data.toList[0]'(by rw [hvl]; simp) := rfl
            rw [h9]
            simp [hvl]
        rw [e9]
      rw [hhh] at hhd t2
      obtain ⟨fl, tx, hfl, htx⟩ : ∃ fl tx, mm.2.1 = fl ∧ mm.2.2 = tx := ⟨_, _, rfl, rfl⟩
      obtain ⟨mu, hmu⟩ : ∃ t, mm.1 = t := ⟨_, rfl⟩
      rw [hfl] at t2 q3 q4 HTK
      rw [htx] at t1 HTK q5
      rw [hmu] at hP3 HTK q1 q2
      have w8 : IntKind.u8.wrap fl = fl := by
        simp [IntKind.wrap, IntKind.bits, IntKind.signed]
        omega
      have w64 : IntKind.i64.wrap fl = fl := wrapI _ (by omega) (by omega)
      have hcut : ∀ W : World, (Instr.slice 9 (.string y) (some (.int .i64 1)) none none).run Tryz.prog W = .ok (.string tx) W := fun W => by
        rw [← t1]
        have := run_slice_string_l (P := Tryz.prog) (w := W) (t := 9) (s := y) Tryz.underlying9 .i64 1 (by omega) (by omega)
        exact this
      clear hsq hjl2 hxy hmm hmem hxy2 hmx hmy hpn hpk hX hY hZ hfl htx hmu hhh t1 hp1 hp2 hp3 HPD
      go_wp2_with fail
      go_loopw [11, 12] (fun nv kv wq => ∃ i : Nat, i ≤ 3 ∧ nv = .int .i64 (partD X Y Z i) ∧ kv = .int .i64 ((pl + i : Nat) : Int) ∧ wq = wr) (fun _ k _ => pl + 3 - (RowKit.intOf k).toNat)
      case atStart => exact ⟨0, by omega, rfl, rfl, rfl⟩
      case round =>
        obtain ⟨i, hi, rfl, rfl, rfl⟩ := hrel
        by_cases hi3 : i < 3
        · obtain ⟨_, hb1, hb2⟩ := hkd i hi3
          have hstep := part_step X Y Z i hi3
          have hD := hDG i
          have hP := hPD i
          have hP2 := hPD (i + 1)
          have hlk : ((pl + i : Nat) : Int) < (x.size : Int) := by omega
          obtain ⟨dg, hdg⟩ : ∃ t, digD X Y Z i = t := ⟨_, rfl⟩
          obtain ⟨pd, hpd⟩ : ∃ t, partD X Y Z i = t := ⟨_, rfl⟩
          rw [hdg] at hb2 hstep hD
          rw [hpd] at hstep hP ⊢
          have wd8 : IntKind.u8.wrap dg = dg := by
            simp [IntKind.wrap, IntKind.bits, IntKind.signed]
            omega
          have hsub : (48 + dg - 48 : Int) = dg := by omega
          go_wp2_with fail
          exact ⟨⟨i + 1, by omega, by rw [hstep], by rw [show ((pl + (i + 1) : Nat) : Int) = (pl : Int) + (i : Int) + 1 by omega], trivial⟩, by simp [RowKit.intOf]; omega⟩
        · obtain rfl : i = 3 := by omega
          have hlk : ¬ ((pl + 3 : Nat) : Int) < (x.size : Int) := by omega
          rw [hP3]
          have HUA : Hid (wr.ownsRow w.heap.size 47 2 (.slice (some ⟨gq, 0, none⟩) m cu) m (cellsP (Ms.map (mailP u f)))) := hur.out
          have hy0 : (0 : Int) < (y.size : Int) := by omega
          have hy1 : ¬ y = ByteArray.empty := fun h9 => by
            rw [h9] at hysz
            exact absurd hysz (by decide)
          have hy2 : 0 < y.size := by omega
          clear hur hkd hDG hPD hP3
          go_upto_region 12 with fail
          refine wp_region_noPanic ?_
          refine wp_region_held_drew (S := fun w' => w'.cell? ⟨gq, j * 2 + 1, none⟩ = some (.string y)) (by kernel_rfl) d1 (fun hHeld => ?_)
          refine tkA (i := 0) (v := .slice a' j c') ?_ hHeld ?_
          · intro w9 hSw
            go_simp
          simp only [Act.put, List.setIfInBounds_toArray, List.set_cons_zero, List.set_cons_succ]
          refine tkA (i := 1) (v := .int .i64 mu) ?_ hHeld ?_
          · intro w9 hSw
            go_simp
          simp only [Act.put, List.setIfInBounds_toArray, List.set_cons_zero, List.set_cons_succ]
          refine tkA (i := 2) (v := .slice (some ⟨gq, 0, none⟩) m cu) ?_ hHeld ?_
          · intro w9 hSw
            go_simp
          simp only [Act.put, List.setIfInBounds_toArray, List.set_cons_zero, List.set_cons_succ]
          refine tkA (i := 3) (v := .int .i64 (j : Int)) ?_ hHeld ?_
          · intro w9 hSw
            go_simp
          simp only [Act.put, List.setIfInBounds_toArray, List.set_cons_zero, List.set_cons_succ]
          refine tkA (i := 4) (v := .pointer (some ⟨gq, j * 2, none⟩)) ?_ hHeld ?_
          · intro w9 hSw
            go_simp
          simp only [Act.put, List.setIfInBounds_toArray, List.set_cons_zero, List.set_cons_succ]
          refine tkA (i := 5) (v := .pointer (some ⟨gq, j * 2 + 1, none⟩)) ?_ hHeld ?_
          · intro w9 hSw
            go_simp
          simp only [Act.put, List.setIfInBounds_toArray, List.set_cons_zero, List.set_cons_succ]
          refine tkA (i := 6) (v := .string y) ?_ hHeld ?_
          · intro w9 hSw
            go_simp
          simp only [Act.put, List.setIfInBounds_toArray, List.set_cons_zero, List.set_cons_succ]
          refine tkA (i := 7) (v := .int .u8 hh) ?_ hHeld ?_
          · intro w9 hSw
            go_simp
          simp only [Act.put, List.setIfInBounds_toArray, List.set_cons_zero, List.set_cons_succ]
          refine tkA (i := 8) (v := .int .u8 fl) ?_ hHeld ?_
          · intro w9 hSw
            go_simp
          simp only [Act.put, List.setIfInBounds_toArray, List.set_cons_zero, List.set_cons_succ]
          refine tkA (i := 9) (v := .int .i64 fl) ?_ hHeld ?_
          · intro w9 hSw
            go_simp
          simp only [Act.put, List.setIfInBounds_toArray, List.set_cons_zero, List.set_cons_succ]
          refine tkA (i := 10) (v := .slice (some ⟨gq, 0, none⟩) m cu) ?_ hHeld ?_
          · intro w9 hSw
            go_simp
          simp only [Act.put, List.setIfInBounds_toArray, List.set_cons_zero, List.set_cons_succ]
          refine tkA (i := 11) (v := .int .i64 (j : Int)) ?_ hHeld ?_
          · intro w9 hSw
            go_simp
          simp only [Act.put, List.setIfInBounds_toArray, List.set_cons_zero, List.set_cons_succ]
          refine tkA (i := 12) (v := .pointer (some ⟨gq, j * 2, none⟩)) ?_ hHeld ?_
          · intro w9 hSw
            go_simp
          simp only [Act.put, List.setIfInBounds_toArray, List.set_cons_zero, List.set_cons_succ]
          refine tkA (i := 13) (v := .pointer (some ⟨gq, j * 2 + 1, none⟩)) ?_ hHeld ?_
          · intro w9 hSw
            go_simp
          simp only [Act.put, List.setIfInBounds_toArray, List.set_cons_zero, List.set_cons_succ]
          refine tkA (i := 14) (v := .string y) ?_ hHeld ?_
          · intro w9 hSw
            go_simp
          simp only [Act.put, List.setIfInBounds_toArray, List.set_cons_zero, List.set_cons_succ]
          refine tkA (i := 15) (v := .string tx) ?_ hHeld ?_
          · intro w9 hSw
            have h9 := hcut w9
            go_simp
          simp only [Act.put, List.setIfInBounds_toArray, List.set_cons_zero, List.set_cons_succ]
          refine tkA (i := 16) (v := .agg #[.int .i64 mu, .int .i64 fl, .string tx]) ?_ hHeld ?_
          · intro w9 hSw
            go_simp
          simp only [Act.put, List.setIfInBounds_toArray, List.set_cons_zero, List.set_cons_succ]
          refine wpAnyH_ready (rs := [17]) (by kernel_rfl) (by simp) ?_
          refine AllReadyH.cons rfl (fun K hK => ?_) AllReadyH.nil
          go_simp
          have A1 : Hid (Below wr.heap.size wr (wr.alloc (.cells #[.int .i64 mu, .int .i64 fl, .string tx] 62)).drew) := (((Below.refl _ _).alloc (Nat.le_refl _) _)).drew
          have d1' := cell_later A1.out d1
          refine hK _ _ d1' (fun hHeld => ?_)
          clear hK K
          refine wpAnyH_ready (rs := [18]) (by kernel_rfl) (by simp) ?_
          refine AllReadyH.cons rfl (fun K hK => ?_) AllReadyH.nil
          refine step_append_src rfl (.tmp 50) (.tmp 67) 57 rfl w.heap.size 62 (.agg #[.int .i64 0, .int .i64 0, .string ⟨#[]⟩]) 3 32 Tryz.underlying57 infoMl rfl (by decide) (by decide) (.slice a' j c') j (cellsMl (Ms.take j)) (by rfl) (own_below ho.out A1.out) ⟨wr.heap.size, 0, none⟩ 1 1 (cellsMl [(mu, fl, tx)]) (by rfl) (by rfl) (src_oneMl rfl) (cellsMl_one _) (by omega) (by omega) (by have h9 := A1.out.size; have h7 := hbr.out.size; omega) ?_
          intro v6 w6 hown6 hgrow6 hloc6
          obtain ⟨a6, c6, rfl, _, _⟩ := own_src hown6
          have UD : (wr.alloc (.cells #[.int .i64 mu, .int .i64 fl, .string tx] 62)).drew.ownsRow w.heap.size 47 2 (.slice (some ⟨gq, 0, none⟩) m cu) m (cellsP (Ms.map (mailP u f))) := own_below HUA.out A1.out
          have U6 : Hid (w6.ownsRow w.heap.size 47 2 (.slice (some ⟨gq, 0, none⟩) m cu) m (cellsP (Ms.map (mailP u f)))) := own_grown (w := (wr.alloc (.cells #[.int .i64 mu, .int .i64 fl, .string tx] 62)).drew) UD hgrow6 (fun g h9 h7 => own_ne UD (own_below ho.out A1.out) (by decide) g h9 h7)
          have O6 : Hid (w6.ownsRow w.heap.size 62 3 (.slice a6 (j + 1) c6) (j + 1) (cellsMl (Ms.take (j + 1)))) := by
            show w6.ownsRow _ _ _ _ _ _
            rw [HTK.out]
            exact hown6
          have B6 : Hid (Below w.heap.size w w6) := (hbr.out.trans (A1.out.mono hbr.out.size)).grown hgrow6 (by have h9 := A1.out.size; have h7 := hbr.out.size; show w.heap.size ≤ (wr.alloc (.cells #[.int .i64 mu, .int .i64 fl, .string tx] 62)).drew.heap.size; omega) (fun g h9 => (ho.out.lt g h9).1)
          have d6 : w6.cell? ⟨gq, j * 2 + 1, none⟩ = some (.string y) := by
            have h9 := World.cell?_of_block (a := ⟨gq, j * 2 + 1, none⟩) (hgrow6.block gq (by have h8 := (UD.lt gq rfl).2; exact h8) (fun h7 => own_ne UD (own_below ho.out A1.out) (by decide) gq rfl h7.symm))
            rw [h9]
            exact d1'
          clear hown6 hgrow6 hloc6 UD
          refine hK _ _ d6 (fun hHeld => ?_)
          clear hK K
          refine wpAnyH_ready (rs := [19]) (by kernel_rfl) (by simp) ?_
          refine AllReadyH.cons rfl (fun K hK => ?_) AllReadyH.nil
          go_simp
          refine hK _ _ d6 (fun hHeld => ?_)
          clear hK K
          refine wpAnyH_done (by kernel_rfl) ?_ _
          refine NoPanic.normal ?_
          clear hHeld
          go_wp2_with fail
          exact ⟨⟨j + 1, a6, c6, by omega, rfl, by go_num, O6.out, U6.out, B6.out⟩, by simp [RowKit.intOf]; omega⟩
    · obtain rfl : j = m := by omega
      have hltj : ¬ (j : Int) < (j : Int) := by omega
      have HFO : Hid (wr.ownsRow w.heap.size 62 3 (.slice a' j c') Ms.length (cellsMl Ms)) := by
        have h9 := ho.out
        rw [List.take_of_length_le (by rw [HUM.out]; exact Nat.le_refl _)] at h9
        rw [HUM.out]
        exact h9
      clear ho hur
      go_wp2_with fail
      go_ret
      exact ⟨_, rfl, HFO.out, hbr.out⟩
end Go.Proofs.YtbpgncgmolpkiaaGreatDoor
namespace Go.Proofs.YtbpgncgmolpkiaaGreatDoor
open Go.ChangeShapes Go.WideShapes Go.ChangeAt Go.RowKit Go.Deep Go.Lib
set_option linter.unusedVariables false
set_option linter.unusedSimpArgs false
set_option maxRecDepth 100000

/-- A folder's mails lie in the list in their order. -/
def SubF (u : ByteArray) (P : List PM) (g : FM) : Prop := (g.mails.map (mailP u g.name)).Sublist P
theorem sub_take {nx : Int} {u : ByteArray} {P : List PM} {S S' : SM} {q : PM} (hnx : nx ≤ 10000) (hS : ∀ g ∈ S.fs, SubF u P g) (h : takeM nx u S q = some S') : ∀ g ∈ S'.fs, SubF u (P ++ [q]) g := by
  have hold : ∀ g ∈ S.fs, SubF u (P ++ [q]) g := fun g hg => (hS g hg).trans (List.sublist_append_left P [q])
  have hput : ∀ {o : Option FM}, putM S o = some S' → (∀ g, o = some g → SubF u (P ++ [q]) g) → ∀ g ∈ S'.fs, SubF u (P ++ [q]) g := fun {o} h9 hg => by
    unfold putM at h9
    obtain ⟨g, rfl, rfl⟩ := Option.map_eq_some_iff.1 h9
    intro f hf
    rcases putF_mem hf with hf | rfl
    · exact hold f hf
    · exact hg _ rfl
  have haside : asideM S q = some S' → ∀ g ∈ S'.fs, SubF u (P ++ [q]) g := fun h9 => by cases h9; exact hold
  unfold takeM takeP at h
  split at h
  · split at h
    · unfold userM at h
      obtain ⟨_, rfl⟩ := ite_some h
      exact hold
    · exact haside h
  · rename_i a b c hG
    split at h
    · rename_i hc
      refine hput h fun g hg => ?_
      have hgf := (folder_meta hnx).1 hg
      have hgm : g.mails = [] := by rw [hgf.2.2.2]
      unfold SubF
      rw [hgm]
      exact List.nil_sublist _
    · exact haside h
  · rename_i a b c d hG
    split at h
    · rename_i hc
      refine hput h fun g hg => ?_
      unfold mailM at hg
      obtain ⟨f', hl, hg2⟩ := Option.bind_eq_some_iff.1 hg
      obtain ⟨un, m1, m2, m3, m4, m5, m6, m7, m8, hgm⟩ := mailO_some hg2
      have hfn := (lookF_mem hl).2
      have hG2 : splitL 47 q.1.data.toList = [[109], b, c, d] := by rw [hG, hc.2]
      obtain ⟨hk, hnb, hnc⟩ := key_mail hG2
      have hub : u.data.toList = b := by rw [← hc.1]; simp [bs]
      have hpp : fPairs u g = fPairs u f' ++ [q] := by
        rw [hgm]
        refine mail_pairs m1 m2 m3 m5 m6 ?_
        rw [hk, hub, hfn]
        simp [bs]
      have hgn : g.name = f'.name := by rw [hgm]; rfl
      have e : g.mails.map (mailP u g.name) = f'.mails.map (mailP u f'.name) ++ [q] := by
        unfold fPairs at hpp
        rw [List.cons_append] at hpp
        exact (List.cons.inj hpp).2
      unfold SubF
      rw [e]
      exact (hS f' (lookF_mem hl).1).append_right [q]
    · exact haside h
  · exact haside h
theorem sub_all {nx : Int} {u : ByteArray} (hnx : nx ≤ 10000) : ∀ {R P : List PM} {S S' : SM}, (∀ g ∈ S.fs, SubF u P g) → takeAll nx u S R = some S' → ∀ g ∈ S'.fs, SubF u (P ++ R) g
  | [], P, S, S', hS, h => by cases h; rw [List.append_nil]; exact hS
  | q :: R, P, S, S', hS, h => by
    unfold takeAll at h
    obtain ⟨S1, h1, h2⟩ := Option.bind_eq_some_iff.1 h
    have h3 := sub_all hnx (P := P ++ [q]) (sub_take hnx hS h1) h2
    rw [List.append_assoc] at h3
    exact h3
theorem store_sub {L : List PM} {u : ByteArray} {S : SM} (h : storeB L = true) (hS : takeAll (nextM L) u S0 L = some S) : ∀ g ∈ S.fs, SubF u L g := by
  obtain ⟨hg, nx0, hnm, n1, n2, _, _, _⟩ := store_facts h
  exact sub_all (P := []) (by omega) (fun f hf => by cases hf) hS
theorem pass_not {u f : ByteArray} {p : PM} (h : passB u f p = true) : beginsB p.1 (preK u f) = false := by
  unfold passB at h
  rw [Bool.and_eq_true] at h
  simpa using h.2
theorem fol_mails {L : List PM} {u f : ByteArray} {S : SM} {g : FM} (h : storeB L = true) (hus : (47 : UInt8) ∉ u.data.toList) (hfs : (47 : UInt8) ∉ f.data.toList) (hS : takeAll (nextM L) u S0 L = some S) (hw : S.word.toList ≠ []) (hl : lookF f S.fs = some g) : (L.filter fun x => beginsB x.1 (preK u f)) = g.mails.map (mailP u f) := by
  obtain ⟨hg, nx0, hnm, n1, n2, _, _, _⟩ := store_facts h
  obtain ⟨hgm, hgn⟩ := lookF_mem hl
  have hnd := names_all (S := S0) List.nodup_nil hS
  have hsub := store_sub h hS g hgm
  unfold SubF at hsub
  rw [hgn] at hsub
  refine up_perm (hg.2.2.sublist List.filter_sublist) (hg.2.2.sublist hsub) ?_
  refine ((desk_list h hus hS hw).filter _).trans ?_
  have e1 : beginsB vK (preK u f) = false := by
    cases hb : beginsB vK (preK u f) with
    | false => rfl
    | true =>
      obtain ⟨r, hr⟩ := begins_pre.1 hb
      simp at hr
  have e2 : beginsB (userK u) (preK u f) = false := by
    cases hb : beginsB (userK u) (preK u f) with
    | false => rfl
    | true =>
      obtain ⟨r, hr⟩ := begins_pre.1 hb
      simp [ByteArray.data_append] at hr
  rw [List.filter_cons_of_neg (by simp [e1]), List.filter_cons_of_neg (by simp [e2]), List.filter_append]
  have e3 : ((notK vK S.aside).filter fun x => beginsB x.1 (preK u f)) = [] := by
    rw [List.filter_eq_nil_iff]
    intro p hp
    rw [pass_not (aside_pass h hus hfs hS hp)]
    simp
  rw [e3, List.nil_append]
  refine ((flat_perm (drop_perm hl)).filter _).trans ?_
  have hrest := rest_pass (u := u) (f := f) (fs := dropF f S.fs) hus hfs fun x hx => ⟨drop_names hnd x hx, word_slash (name_short h hus hS ((dropF_sub f S.fs).subset hx))⟩
  rw [List.filter_eq_self] at hrest
  have e4 : ((flatF u (dropF f S.fs)).filter fun x => beginsB x.1 (preK u f)) = [] := by
    rw [List.filter_eq_nil_iff]
    intro p hp
    rw [pass_not (hrest p hp)]
    simp
  rw [flat_cons, List.filter_append, e4, List.append_nil]
  unfold fPairs
  have e5 : beginsB (folderK u g.name) (preK u f) = false := by
    cases hb : beginsB (folderK u g.name) (preK u f) with
    | false => rfl
    | true =>
      obtain ⟨r, hr⟩ := begins_pre.1 hb
      rw [folderK_data] at hr
      simp at hr
  rw [List.filter_cons_of_neg (by simp [e5]), hgn]
  have e6 : ((g.mails.map (mailP u f)).filter fun x => beginsB x.1 (preK u f)) = g.mails.map (mailP u f) := by
    rw [List.filter_eq_self]
    intro p hp
    obtain ⟨m, _, rfl⟩ := List.mem_map.1 hp
    exact begins_pre.2 ⟨d3 m.1.toNat, by simp [mailP, bs]⟩
  rw [e6]
end Go.Proofs.YtbpgncgmolpkiaaGreatDoor
namespace Go.Proofs.YtbpgncgmolpkiaaGreatDoor
open Go.ChangeShapes Go.WideShapes Go.ChangeAt Go.RowKit Go.Deep Go.Lib
set_option linter.unusedVariables false
set_option linter.unusedSimpArgs false
set_option maxRecDepth 100000

theorem gb_trans {a b c : World} {row : Option Nat} (h : a.grownBy b row) (k : b.grownBy c row) : a.grownBy c row :=
  ⟨k.os.trans h.os, k.tape.trans h.tape, k.output.trans h.output, Nat.le_trans h.size k.size, fun i hi hne => (k.block i (Nat.lt_of_lt_of_le hi h.size) hne).trans (h.block i hi hne)⟩
/-- A folder as an answer tells it. -/
abbrev z4 : ByteArray × Int × Int × List MMl := (⟨#[]⟩, 0, 0, [])
def faG (o : Option FM) : ByteArray × Int × Int × List MMl := match o with
  | some g => (g.name, g.val, g.next, g.mails)
  | none => z4
def faO (o : Option SM) (f : ByteArray) : ByteArray × Int × Int × List MMl := match o with
  | some S => faG (lookF f S.fs)
  | none => z4
def faM (L : List PM) (u f : ByteArray) : (ByteArray × Int × Int × List MMl) × Int := if askM L [u, f] = 0 then (if knownR L u f = 0 then (faO (takeAll (nextM L) u S0 L) f, 0) else (z4, knownR L u f)) else (z4, askM L [u, f])
theorem fa_ask {L : List PM} {u f : ByteArray} {q : Int} (h : askM L [u, f] = q) (hq : q ≠ 0) : faM L u f = ((⟨#[]⟩, 0, 0, []), q) := by
  unfold faM
  rw [h, if_neg hq]
theorem fa_known {L : List PM} {u f : ByteArray} {q : Int} (h : askM L [u, f] = 0) (hk : knownR L u f = q) (hq : q ≠ 0) : faM L u f = ((⟨#[]⟩, 0, 0, []), q) := by
  unfold faM
  rw [h, if_pos rfl, hk, if_neg hq]
theorem fa_some {L : List PM} {u f : ByteArray} {S : SM} {g : FM} (h : askM L [u, f] = 0) (hk : knownR L u f = 0) (hS : takeAll (nextM L) u S0 L = some S) (hl : lookF f S.fs = some g) : faM L u f = ((f, g.val, g.next, g.mails), 0) := by
  unfold faM
  rw [h, if_pos rfl, hk, if_pos rfl, hS]
  show (faG (lookF f S.fs), (0 : Int)) = _
  rw [hl]
  show ((g.name, g.val, g.next, g.mails), (0 : Int)) = _
  rw [(lookF_mem hl).2]
theorem fa_desk {L : List PM} {u f : ByteArray} {S : SM} (h : askM L [u, f] = 0) (hS : takeAll (nextM L) u S0 L = some S) : faM L u f = (faG (lookF f S.fs), knownR L u f) := by
  obtain ⟨hst, hsu, hsf⟩ := ask_zero2 h
  have hus := word_slash hsu
  have hfs := word_slash hsf
  unfold faM
  rw [h, if_pos rfl]
  by_cases hk : knownR L u f = 0
  · rw [hk, if_pos rfl, hS]
    rfl
  · rw [if_neg hk]
    have hn : lookF f S.fs = none := by
      obtain ⟨hwi, _⟩ := word_iff hst hus hS
      obtain ⟨hli, _⟩ := look_iff hst hus hS hfs
      cases hu : getM L (userK u) with
      | none => rw [no_folders hst hus hS hu]; rfl
      | some v =>
        cases hl : lookF f S.fs with
        | none => rfl
        | some g =>
          exfalso
          refine hk ?_
          unfold knownR
          rw [hu, ← hli, hl]
          rfl
    rw [hn]
    rfl
theorem fa_small {L : List PM} {u f nm : ByteArray} {va nx q : Int} {R : List MMl} (h : faM L u f = ((nm, va, nx, R), q)) : R.length ≤ 1048576 := by
  by_cases ha : askM L [u, f] = 0
  · obtain ⟨hst, hsu, hsf⟩ := ask_zero2 ha
    have hus := word_slash hsu
    obtain ⟨S, hS, _, _⟩ := take_all hst hus
    rw [fa_desk ha hS] at h
    cases hl : lookF f S.fs with
    | none =>
      rw [hl] at h
      cases h
      simp
    | some g =>
      rw [hl] at h
      have h2 := (store_sub hst hS g (lookF_mem hl).1).length_le
      rw [List.length_map] at h2
      have h3 := (store_facts hst).1.1
      cases h
      show g.mails.length ≤ _
      omega
  · rw [fa_ask rfl ha] at h
    cases h
    simp
theorem fit_ms {g : FM} (h : FitF g) : FitMs g.mails := h.2.2.2.2.2
theorem at_pack {w : World} {M : Nat} {a : Option Addr} {n c : Nat} {nx : Int} {u : ByteArray} {S : SM} {k0 : Nat} (hS : StAt w M a n c nx u S k0) (f : ByteArray) : ∃ va X, DeskAt w M ⟨a, n, c, va, S.aside, nx, u, S.word, X⟩ ∧ ∃ nm v1 v2 a' n' c' R, atX (lookX (folderK u f) X) = .agg #[.string nm, .int .i64 v1, .int .i64 v2, .slice a' n' c'] ∧ R.length = n' ∧ w.ownsRow (M + 2) 62 3 (.slice a' n' c') n' (cellsMl R) ∧ faG (lookF f S.fs) = (nm, v1, v2, R) := by
  obtain ⟨va, X, hD, hV, _⟩ := hS
  refine ⟨va, X, hD, ?_⟩
  have hl := hV.look f
  have hrows := hD.2.2.2
  cases hx : lookX (folderK u f) X with
  | none =>
    rw [hx] at hl
    have hl2 : lookF f S.fs = none := hl.symm
    rw [hl2]
    exact ⟨_, _, _, none, 0, 0, [], rfl, rfl, World.ownsRow_nil _ _ _ _, rfl⟩
  | some x =>
    rw [hx] at hl
    have hl2 : lookF f S.fs = some (fmX x) := hl.symm
    rw [hl2]
    have ho := hrows.1 x (look_mem hx)
    obtain ⟨a', c', hv, _, _⟩ := own_src ho
    rw [hv] at ho
    exact ⟨x.name, x.val, x.next, a', x.mails.length, c', x.mails, by show valX x = _; unfold valX; rw [hv], rfl, ho, rfl⟩
set_option maxHeartbeats 2000000 in
theorem l07AtS (a : Option Addr) (n c : Nat) (L : List PM) (hL : L.length = n) (hg : GoodL L) (u f : ByteArray) (hus : u.size ≤ 1000) (hfs : f.size ≤ 1000) (Ms : List MMl) (hM : FitMs Ms) (hU : (L.filter fun x => beginsB x.1 (preK u f)) = Ms.map (mailP u f)) (va nx : Int) (hm : metaM L u f = some (va, nx)) (w : World) (h : Src w a (cellsP L)) :
    Calls Tryz.prog 50 #[.slice a n c, .string u, .string f] w fun e w' => ∃ a' c', e = .returned (.agg #[.string f, .int .i64 va, .int .i64 nx, .slice a' Ms.length c']) ∧ w'.ownsRow w.heap.size 62 3 (.slice a' Ms.length c') Ms.length (cellsMl Ms) ∧ Below w.heap.size w w' := by
  have AL : Hid (Below w.heap.size w (w.alloc (.cells #[.string ⟨#[]⟩, .int .i64 0, .int .i64 0, .slice none 0 0] 59))) := (Below.refl _ _).alloc (Nat.le_refl _) _
  have CM := l07MetaS a n c L u f (w.alloc (.cells #[.string ⟨#[]⟩, .int .i64 0, .int .i64 0, .slice none 0 0] 59)) hL hg (by omega) (by omega) (h.below AL.out)
  have CO := fun W (hW : Below w.heap.size w W) => l07OfS a n c L hL hg u f hus hfs Ms hM hU W (h.below hW)
  have HM : Hid (metaM L u f = some (va, nx)) := hm
  obtain ⟨tb, htb⟩ : ∃ t, (metaM L u f).isSome = t := ⟨_, rfl⟩
  rw [htb] at CM
  clear hL hg hM hU hm h htb
  go_enter Tryz.func50, Tryz.ntmps50
  go_wp2_with fail
  refine CM.mono ?_
  rintro e w1 ⟨x1, y1, rfl, hp, hb1⟩
  obtain ⟨e1, e2⟩ := hp _ HM.out
  have e1' : x1 = va := e1
  have e2' : y1 = nx := e2
  subst e1' e2'
  have B1 : Hid (Below w.heap.size w w1) := AL.out.trans (hb1.mono AL.out.size)
  have X1 : Hid (Box w1 w.heap.size [.string ⟨#[]⟩, .int .i64 0, .int .i64 0, .slice none 0 0]) := Box.below (Box.new rfl) hb1
  have Z1 : Hid (w.heap.size < w1.heap.size) := by
    have h9 := hb1.size
    have h8 : (w.alloc (.cells #[.string ⟨#[]⟩, .int .i64 0, .int .i64 0, .slice none 0 0] 59)).heap.size = w.heap.size + 1 := by simp
    show w.heap.size < w1.heap.size
    omega
  have CO1 := CO w1 B1.out
  clear hb1 hp e1 e2 CM CO HM
  go_wp2_with fail
  refine CO1.mono ?_
  rintro e w2 ⟨v2, rfl, ho2, hb2⟩
  obtain ⟨a2, c2, rfl, _, _⟩ := own_src ho2
  have B2 : Hid (Below w.heap.size w w2) := B1.out.trans (hb2.mono B1.out.size)
  have X2 : Hid (Box w2 w.heap.size [.string ⟨#[]⟩, .int .i64 0, .int .i64 0, .slice none 0 0]) := Box.below X1.out hb2
  have O2 : Hid (w2.ownsRow w1.heap.size 62 3 (.slice a2 Ms.length c2) Ms.length (cellsMl Ms)) := ho2
  clear ho2 hb2 CO1
  obtain ⟨p0, pf0⟩ := (X2.out) 0 _ rfl
  obtain ⟨p1, pf1⟩ := ((X2.out).set 0 (.string f)) 1 _ rfl
  obtain ⟨p2, pf2⟩ := (((X2.out).set 0 (.string f)).set 1 (.int .i64 x1)) 2 _ rfl
  obtain ⟨p3, pf3⟩ := ((((X2.out).set 0 (.string f)).set 1 (.int .i64 x1)).set 2 (.int .i64 y1)) 3 _ rfl
  have X8 := ((((X2.out).set 0 (.string f)).set 1 (.int .i64 x1)).set 2 (.int .i64 y1)).set 3 (.slice a2 Ms.length c2)
  obtain ⟨r0, _⟩ := X8 0 _ rfl
  obtain ⟨r1, _⟩ := X8 1 _ rfl
  obtain ⟨r2, _⟩ := X8 2 _ rfl
  obtain ⟨r3, _⟩ := X8 3 _ rfl
  clear X8
  have BE : Hid (Below w.heap.size w ((((w2.setCell ⟨w.heap.size, 0, none⟩ (.string f)).setCell ⟨w.heap.size, 1, none⟩ (.int .i64 x1)).setCell ⟨w.heap.size, 2, none⟩ (.int .i64 y1)).setCell ⟨w.heap.size, 3, none⟩ (.slice a2 Ms.length c2))) := (((B2.out.setCell (Nat.le_refl _) _).setCell (Nat.le_refl _) _).setCell (Nat.le_refl _) _).setCell (Nat.le_refl _) _
  have OE : Hid (((((w2.setCell ⟨w.heap.size, 0, none⟩ (.string f)).setCell ⟨w.heap.size, 1, none⟩ (.int .i64 x1)).setCell ⟨w.heap.size, 2, none⟩ (.int .i64 y1)).setCell ⟨w.heap.size, 3, none⟩ (.slice a2 Ms.length c2)).ownsRow w.heap.size 62 3 (.slice a2 Ms.length c2) Ms.length (cellsMl Ms)) := own_mono (own_setLow (own_setLow (own_setLow (own_setLow (O2.out) Z1.out _) Z1.out _) Z1.out _) Z1.out _) B1.out.size
  go_wp2_with fail
  exact bodyPost_ret (v := .agg #[.string f, .int .i64 x1, .int .i64 y1, .slice a2 Ms.length c2]) (by simp [results, Tryz.results50, go_sem, r0, r1, r2, r3]) rfl ⟨_, _, rfl, OE.out, BE.out⟩

end Go.Proofs.YtbpgncgmolpkiaaGreatDoor
namespace Go.Proofs.YtbpgncgmolpkiaaGreatDoor
open Go.ChangeShapes Go.WideShapes Go.ChangeAt Go.RowKit Go.Deep Go.Lib
set_option linter.unusedVariables false
set_option linter.unusedSimpArgs false
set_option maxRecDepth 100000

theorem cells_set : ∀ (L : List MMl) (j : Nat) (z : Int), j < L.length → (cellsMl L).set (j * 3 + 1) (.int .i64 z) = cellsMl (L.set j ((L.getD j ml0).1, z, (L.getD j ml0).2.2))
  | [], j, _, h => by cases h
  | x :: L, 0, z, _ => by
    simp [cellsMl]
  | x :: L, j + 1, z, h => by
    have ih := cells_set L j z (by simpa using h)
    have e1 : cellsMl (x :: L) = .int .i64 x.1 :: .int .i64 x.2.1 :: .string x.2.2 :: cellsMl L := rfl
    have e2 : (x :: L).set (j + 1) (((x :: L).getD (j + 1) ml0).1, z, ((x :: L).getD (j + 1) ml0).2.2) = x :: L.set j ((L.getD j ml0).1, z, (L.getD j ml0).2.2) := rfl
    rw [e2, e1, show (j + 1) * 3 + 1 = (j * 3 + 1) + 1 + 1 + 1 by omega]
    show _ :: _ :: _ :: (cellsMl L).set (j * 3 + 1) _ = _
    rw [ih]
    rfl
def setM (S : SM) (g : FM) (Ms : List MMl) : SM := ⟨S.aside, S.word, putF ⟨g.name, g.val, g.next, Ms⟩ S.fs⟩
/-- What the flags' setting does. -/
def SfIs (S : SM) (f : ByteArray) (un fl q : Int) (S' : SM) : Prop :=
  (lackM S.word S.fs [f] ≠ 0 ∧ q = lackM S.word S.fs [f] ∧ S' = S) ∨ (lackM S.word S.fs [f] = 0 ∧ ∃ g, lookF f S.fs = some g ∧ (((∀ m ∈ g.mails, m.1 ≠ un) ∧ q = 5 ∧ S' = S) ∨ ∃ j, j < g.mails.length ∧ (g.mails.getD j ml0).1 = un ∧ q = 0 ∧ S' = setM S g (g.mails.set j ((g.mails.getD j ml0).1, fl, (g.mails.getD j ml0).2.2))))
theorem lack_zero {S : SM} {f : ByteArray} (h : lackM S.word S.fs [f] = 0) : ∃ g, lookF f S.fs = some g := by
  unfold lackM at h
  split at h
  · cases h
  · split at h
    · cases h
    · rename_i hb
      refine Option.isSome_iff_exists.1 ?_
      cases h9 : (lookF f S.fs).isSome with
      | true => rfl
      | false => exact absurd (by show ((lookF f S.fs).isSome && true) = false; rw [h9]; rfl) hb
end Go.Proofs.YtbpgncgmolpkiaaGreatDoor
namespace Go.Proofs.YtbpgncgmolpkiaaGreatDoor
open Go.ChangeShapes Go.WideShapes Go.ChangeAt Go.RowKit Go.Deep Go.Lib
set_option linter.unusedVariables false
set_option linter.unusedSimpArgs false
set_option maxRecDepth 100000

def flT (L : List PM) (u f : ByteArray) (un fl : Int) : List PM × Int :=
  if (decide (1 ≤ un) && decide (un ≤ 999)) = false then (L, 5) else match getM L (mailK u f un) with
    | none => (L, 5)
    | some v => (insL (mailK u f un) (bs (itoa fl) ++ v.extract 1 v.size) L, 0)
def flR (L : List PM) (u f : ByteArray) (un fl : Int) : List PM × Int := if knownR L u f ≠ 0 then (L, knownR L u f) else flT L u f un fl
theorem swap_ins {L D : List PM} {k v v' : ByteArray} (hu : UpL L) (hp : L.Perm ((k, v) :: D)) : (insL k v' L).Perm ((k, v') :: D) := by
  refine (ins_perm hu).trans (List.Perm.cons _ ?_)
  have hnd : (L.map (·.1)).Nodup := by
    have h1 : L.Pairwise fun x y => x.1 ≠ y.1 := hu.imp fun h e => by rw [e] at h; exact ltK_irrefl _ h
    rw [List.Nodup, List.pairwise_map]
    exact h1
  have h2 : (((k, v) :: D).map (·.1)).Nodup := (hp.map _).nodup_iff.1 hnd
  rw [List.map_cons, List.nodup_cons] at h2
  refine (notK_perm hp).trans ?_
  rw [notK_skip k (k, v) D rfl, notK_self fun x hx e => h2.1 (List.mem_map.2 ⟨x, hx, e⟩)]
theorem pull_perm (v w F x : PM) (A a b r : List PM) : (v :: w :: (A ++ ((F :: (a ++ x :: b)) ++ r))).Perm (x :: (v :: w :: (A ++ ((F :: (a ++ b)) ++ r)))) := by
  have p1 : (A ++ ((F :: (a ++ x :: b)) ++ r)).Perm (x :: (A ++ ((F :: (a ++ b)) ++ r))) := by
    have p2 : ((F :: (a ++ x :: b)) ++ r).Perm (x :: ((F :: (a ++ b)) ++ r)) := by
      have p3 : (F :: (a ++ x :: b)).Perm (x :: F :: (a ++ b)) := (List.Perm.cons F List.perm_middle).trans (List.Perm.swap _ _ _)
      exact List.Perm.append_right r p3
    exact (List.Perm.append_left A p2).trans List.perm_middle
  exact (List.Perm.cons v (List.Perm.cons w p1)).trans ((List.Perm.cons v (List.Perm.swap _ _ _)).trans (List.Perm.swap _ _ _))
theorem set_split {α : Type} (d : α) : ∀ (L : List α) (j : Nat) (y : α), j < L.length → ∃ A B, L = A ++ L.getD j d :: B ∧ L.set j y = A ++ y :: B
  | [], j, _, h => by cases h
  | x :: L, 0, y, _ => ⟨[], L, rfl, rfl⟩
  | x :: L, j + 1, y, h => by
    obtain ⟨A, B, h1, h2⟩ := set_split d L j y (by simpa using h)
    refine ⟨x :: A, B, ?_, ?_⟩
    · show x :: L = x :: (A ++ L.getD j d :: B)
      rw [← h1]
    · show x :: L.set j y = x :: (A ++ y :: B)
      rw [h2]
theorem sf_fits {L : List PM} {u f : ByteArray} {un fl : Int} {S S' : SM} {q : Int} (h : storeB L = true) (hsu : shortB u = true) (hsf : shortB f = true) (f0 : 0 ≤ fl) (f1 : fl ≤ 3) (hS : takeAll (nextM L) u S0 L = some S) (hQ : SfIs S f un fl q S') : OpFits L u q (nextM L) S' (flR L u f un fl) := by
  have hus := word_slash hsu
  have hfs := word_slash hsf
  obtain ⟨hg, nx0, hnm, n1, n2, _, _, _⟩ := store_facts h
  rw [hnm] at n1 n2
  have hlk := lack_known h hus hfs hS
  unfold flR
  rcases hQ with ⟨k1, rfl, rfl⟩ | ⟨k1, g, hl, ⟨hno, rfl, rfl⟩ | ⟨j, hj, hju, rfl, rfl⟩⟩
  · rw [hlk] at k1 ⊢
    rw [if_pos k1]
    exact ⟨fun _ => rfl, fun h9 => absurd h9 k1⟩
  · rw [hlk] at k1
    rw [if_neg (by simp [k1])]
    refine ⟨fun _ => ?_, fun h9 => by cases h9⟩
    unfold flT
    by_cases hr : (decide (1 ≤ un) && decide (un ≤ 999)) = false
    · rw [if_pos hr]
    · rw [if_neg hr]
      have hcp := cp_miss (tf := f) h hus hfs hS hl hno
      unfold cpT at hcp
      rw [if_neg hr] at hcp
      cases hv : getM L (mailK u f un) with
      | none => rfl
      | some v =>
        exfalso
        have hr2 : 1 ≤ un ∧ un ≤ 999 := by
          by_cases e : 1 ≤ un ∧ un ≤ 999
          · exact e
          · exact absurd (by
              by_cases e1 : 1 ≤ un
              · have e2 : ¬ un ≤ 999 := fun h9 => e ⟨e1, h9⟩
                rw [decide_eq_false e2]; simp
              · rw [decide_eq_false e1]; rfl) hr
        have hp := (getM_mem hg.2.2).1 hv
        have hp2 : (mailK u f ((un.toNat : Nat) : Int), v) ∈ L := by rw [show ((un.toNat : Nat) : Int) = un by omega]; exact hp
        obtain ⟨m, m1, m2, _⟩ := mail_there h hus hfs hS hl (by omega) hp2
        exact hno m m1 (by omega)
  · rw [hlk] at k1
    rw [if_neg (by simp [k1])]
    obtain ⟨hw, _⟩ := known_zero h hus hfs hS k1
    obtain ⟨hgm, hgn⟩ := lookF_mem hl
    obtain ⟨m, hmd⟩ : ∃ m, g.mails.getD j ml0 = m := ⟨_, rfl⟩
    rw [hmd] at hju ⊢
    have hmm : m ∈ g.mails := by rw [← hmd]; exact mem_getD' _ _ _ hj
    obtain ⟨e1, e2, e3, e4, e5⟩ := (store_fit h hS g hgm).2.2.2.2.2 m hmm
    have hp := mail_pair h hus hS hl hmm
    have hp2 : (mailK u f ((m.1.toNat : Nat) : Int), mailV m) ∈ L := by rw [show ((m.1.toNat : Nat) : Int) = m.1 by omega]; exact hp
    obtain ⟨_, _, _, _, hpos⟩ := mail_val h hus hfs (hasU h hus hS hw) (by omega) hp2
    obtain ⟨A, B, hA, hB⟩ := set_split ml0 g.mails j (m.1, fl, m.2.2) hj
    rw [hmd] at hA
    have hflT : flT L u f un fl = (insL (mailK u f un) (mailV (m.1, fl, m.2.2)) L, 0) := by
      unfold flT
      rw [if_neg (by rw [← hju, decide_eq_true (by omega), decide_eq_true (by omega)]; decide), ← hju, (getM_mem hg.2.2).2 hp]
      show (insL (mailK u f m.1) (bs (itoa fl) ++ (mailV m).extract 1 (mailV m).size) L, (0 : Int)) = _
      rw [(mailV_parts e3 e4).1]
      rfl
    rw [hflT, hB]
    have hdl := desk_list h hus hS hw
    have hfp : ∀ m' : MMl, fPairs u ⟨g.name, g.val, g.next, A ++ m' :: B⟩ = (folderK u f, metaT g.val g.next) :: (A.map (mailP u f) ++ (mailP u f m') :: B.map (mailP u f)) := fun m' => by
      unfold fPairs
      dsimp only
      rw [hgn, List.map_append]
      rfl
    have hgg : g = ⟨g.name, g.val, g.next, A ++ m :: B⟩ := by
      cases g
      dsimp only at hA ⊢
      rw [← hA]
    have hfl1 : (flatF u S.fs).Perm (fPairs u g ++ flatF u (dropF f S.fs)) := by
      have h9 := flat_perm (u := u) (drop_perm hl)
      rw [flat_cons] at h9
      exact h9
    rw [hgg, hfp] at hfl1
    have hLD : L.Perm ((mailK u f un, mailV m) :: ((vK, bs (itoa (nextM L))) :: (userK u, S.word) :: (notK vK S.aside ++ (((folderK u f, metaT g.val g.next) :: (A.map (mailP u f) ++ B.map (mailP u f))) ++ flatF u (dropF f S.fs))))) := by
      refine hdl.trans ?_
      refine (List.Perm.cons _ (List.Perm.cons _ (List.Perm.append_left _ hfl1))).trans ?_
      rw [← hju]
      exact pull_perm _ _ _ _ _ _ _ _
    have hY := swap_ins (v' := mailV (m.1, fl, m.2.2)) hg.2.2 hLD
    have hlen : (insL (mailK u f un) (mailV (m.1, fl, m.2.2)) L).length ≤ 60 := by
      have h8 := hLD.length_eq
      have h7 := hg.1
      rw [hY.length_eq]
      simp only [List.length_cons] at h8 ⊢
      omega
    refine ⟨fun h9 => absurd rfl h9, fun _ => ⟨by omega, n2, fun z hz => ?_, insL (mailK u f un) (mailV (m.1, fl, m.2.2)) L, ins_up hg.2.2, ?_, by omega, ?_⟩⟩
    · rcases putF_mem (show z ∈ putF ⟨g.name, g.val, g.next, A ++ (m.1, fl, m.2.2) :: B⟩ S.fs from hz) with hz | rfl
      · exact store_fit h hS z hz
      · obtain ⟨t1, t2, t3, t4, t5, t6⟩ := store_fit h hS g hgm
        refine ⟨t1, t2, t3, t4, t5, fun z hz => ?_⟩
        rw [hA] at t6
        rcases List.mem_append.1 (show z ∈ A ++ (m.1, fl, m.2.2) :: B from hz) with hz | hz
        · exact t6 z (List.mem_append_left _ hz)
        · rcases List.mem_cons.1 hz with rfl | hz
          · exact ⟨e1, e2, f0, f1, e5⟩
          · exact t6 z (List.mem_append_right _ (List.mem_cons_of_mem _ hz))
    · refine List.Perm.trans ?_ hY.symm
      unfold deskP setM
      dsimp only
      have hfl2 : (flatF u (putF ⟨g.name, g.val, g.next, A ++ (m.1, fl, m.2.2) :: B⟩ S.fs)).Perm (fPairs u ⟨g.name, g.val, g.next, A ++ (m.1, fl, m.2.2) :: B⟩ ++ flatF u (dropF f S.fs)) := by
        have h9 := flat_perm (u := u) (put_perm (g := ⟨g.name, g.val, g.next, A ++ (m.1, fl, m.2.2) :: B⟩) (f := g) (fs := S.fs) (by show lookF g.name S.fs = some g; rw [hgn]; exact hl))
        rw [flat_cons] at h9
        dsimp only at h9
        rw [hgn] at h9 ⊢
        exact h9
      rw [hfp] at hfl2
      refine (List.Perm.cons _ (List.Perm.cons _ (List.Perm.append_left _ hfl2))).trans ?_
      rw [← hju]
      exact pull_perm _ _ _ _ _ _ _ _
    · unfold fitsR
      rw [if_neg (by omega)]
end Go.Proofs.YtbpgncgmolpkiaaGreatDoor
namespace Go.Proofs.YtbpgncgmolpkiaaGreatDoor
open Go.ChangeShapes Go.WideShapes Go.ChangeAt Go.RowKit Go.Deep Go.Lib
set_option linter.unusedVariables false
set_option linter.unusedSimpArgs false
set_option maxRecDepth 100000

/-- Pairs put into a list, one by one. -/
def insAll (X : List PM) (R : List PM) : List PM := X.foldl (fun R p => insL p.1 p.2 R) R
theorem ins_all : ∀ {X R : List PM}, UpL R → X.Pairwise (fun a b => a.1 ≠ b.1) → (∀ p ∈ X, ∀ x ∈ R, x.1 ≠ p.1) → UpL (insAll X R) ∧ (insAll X R).Perm (X ++ R)
  | [], R, hu, _, _ => ⟨hu, List.Perm.refl _⟩
  | p :: X, R, hu, hp, hx => by
    obtain ⟨h1, h2⟩ := List.pairwise_cons.1 hp
    have hi : (insL p.1 p.2 R).Perm (p :: R) := by
      have h9 := ins_perm (k := p.1) (v := p.2) hu
      rw [notK_self (hx p List.mem_cons_self)] at h9
      exact h9
    obtain ⟨k1, k2⟩ := ins_all (X := X) (R := insL p.1 p.2 R) (ins_up hu) h2 (fun q hq x hxx => by
      rcases List.mem_cons.1 (hi.mem_iff.1 hxx) with rfl | h9
      · exact h1 q hq
      · exact hx q (List.mem_cons_of_mem _ hq) x h9)
    exact ⟨k1, k2.trans ((List.Perm.append_left X hi).trans List.perm_middle)⟩
theorem insAll_step (X R : List PM) (j : Nat) (hj : j < X.length) : insAll (X.take (j + 1)) R = insL (X.getD j p0).1 (X.getD j p0).2 (insAll (X.take j) R) := by
  unfold insAll
  rw [List.take_add_one, List.getD_eq_getElem?_getD, List.getElem?_eq_getElem hj, List.foldl_append]
  rfl
theorem insAll_up (X : List PM) : ∀ {R : List PM}, UpL R → UpL (insAll X R) := by
  induction X with
  | nil => exact fun h => h
  | cons p X ih => exact fun h => ih (ins_up h)
theorem insAll_len (X : List PM) : ∀ {R : List PM}, UpL R → (insAll X R).length ≤ R.length + X.length := by
  induction X with
  | nil => exact fun h => Nat.le_refl _
  | cons p X ih =>
    intro R h
    have h1 := ih (R := insL p.1 p.2 R) (ins_up h)
    have h2 := (ins_len (k := p.1) (v := p.2) h).1
    rw [List.length_cons]
    show (insAll X (insL p.1 p.2 R)).length ≤ _
    omega
def fm0 : FM := ⟨⟨#[]⟩, 0, 0, []⟩
def rnG (f : ByteArray) : Option SM → FM
  | some S => (lookF f S.fs).getD fm0
  | none => fm0
/-- A folder of the list, as it lies on the desk. -/
def rnF (L : List PM) (u f : ByteArray) : FM := rnG f (takeAll (nextM L) u S0 L)
theorem rnF_is {L : List PM} {u f : ByteArray} {S : SM} {g : FM} (hS : takeAll (nextM L) u S0 L = some S) (hl : lookF f S.fs = some g) : rnF L u f = g := by
  unfold rnF
  rw [hS]
  show (lookF f S.fs).getD fm0 = g
  rw [hl]
  rfl
abbrev rnN (L : List PM) (u f : ByteArray) : List PM := notK (folderK u f) (emptyR L u f)
def rnT (L : List PM) (Ms : List PM) (r : List PM × Int) : List PM × Int := if r.2 ≠ 0 then (L, r.2) else (insAll Ms r.1, 0)
def rnR (L : List PM) (u f tf : ByteArray) : List PM × Int :=
  if knownR L u f ≠ 0 then (L, knownR L u f) else if f = inboxT then (L, 11) else if knownR L u tf = 0 then (L, 9) else rnT L ((rnF L u f).mails.map (mailP u tf)) (freshR (rnN L u f) L u tf (rnF L u f).next)
def rnO (nx : Int) (S : SM) (f tf : ByteArray) : Option FM → Int × Int × SM
  | none => (16, nx, S)
  | some g => if f = inboxT then (11, nx, S) else if (lookF tf S.fs).isSome = true then (9, nx, S) else if 9999 < nx then (6, nx, ⟨S.aside, S.word, dropF f S.fs⟩) else (0, nx + 1, ⟨S.aside, S.word, putF ⟨tf, nx, g.next, g.mails⟩ (dropF f S.fs)⟩)
theorem rnO_some (nx : Int) (S : SM) (f tf : ByteArray) (g : FM) : rnO nx S f tf (some g) = if f = inboxT then (11, nx, S) else if (lookF tf S.fs).isSome = true then (9, nx, S) else if 9999 < nx then (6, nx, ⟨S.aside, S.word, dropF f S.fs⟩) else (0, nx + 1, ⟨S.aside, S.word, putF ⟨tf, nx, g.next, g.mails⟩ (dropF f S.fs)⟩) := rfl
def rnM (nx : Int) (S : SM) (f tf : ByteArray) : Int × Int × SM := if S.word.toList = [] then (15, nx, S) else rnO nx S f tf (lookF f S.fs)
theorem look_drop {n m : ByteArray} : ∀ {fs : List FM}, lookF n fs = none → lookF n (dropF m fs) = none
  | [], _ => rfl
  | f :: fs, h => by
    unfold lookF at h
    by_cases e : f.name = n
    · rw [if_pos e] at h; cases h
    · rw [if_neg e] at h
      unfold dropF
      by_cases e2 : f.name = m
      · rw [if_pos e2]; exact h
      · rw [if_neg e2]
        unfold lookF
        rw [if_neg e]
        exact look_drop h
theorem pass_v (u f T : ByteArray) : passB u f (vK, T) = true := by
  unfold passB
  rw [Bool.and_eq_true, decide_eq_true_eq]
  refine ⟨(folder_not u f).symm, ?_⟩
  cases hb : beginsB vK (preK u f) with
  | false => rfl
  | true =>
    obtain ⟨r, hr⟩ := begins_pre.1 hb
    simp at hr
theorem pass_u (u f T : ByteArray) : passB u f (userK u, T) = true := by
  unfold passB
  rw [Bool.and_eq_true, decide_eq_true_eq]
  refine ⟨fun e => ?_, ?_⟩
  · have h9 := congrArg (fun x : ByteArray => x.data.toList) e
    simp [ByteArray.data_append] at h9
  · cases hb : beginsB (userK u) (preK u f) with
    | false => rfl
    | true =>
      obtain ⟨r, hr⟩ := begins_pre.1 hb
      simp [ByteArray.data_append] at hr
theorem next_drop {L : List PM} {u f : ByteArray} (h : storeB L = true) : nextM (rnN L u f) = nextM L := by
  have hu := (store_facts h).1.2.2
  obtain ⟨T, hT⟩ : ∃ T, (vK, T) ∈ L := ⟨_, v_mem h⟩
  have a1 : getM L vK = some T := (getM_mem hu).2 hT
  have a2 : getM (rnN L u f) vK = some T := by
    unfold rnN
    rw [drop_eq]
    exact (getM_mem (hu.sublist List.filter_sublist)).2 (List.mem_filter.2 ⟨hT, pass_v u f T⟩)
  unfold nextM
  rw [a1, a2]
theorem no_mails {L : List PM} {u f : ByteArray} {S : SM} (h : storeB L = true) (hus : (47 : UInt8) ∉ u.data.toList) (hfs : (47 : UInt8) ∉ f.data.toList) (hS : takeAll (nextM L) u S0 L = some S) (hw : S.word.toList ≠ []) (hl : lookF f S.fs = none) : ∀ x ∈ L, beginsB x.1 (preK u f) = false := fun x hx => by
  rcases List.mem_cons.1 ((desk_list h hus hS hw).mem_iff.1 hx) with rfl | hx
  · exact pass_not (pass_v u f _)
  rcases List.mem_cons.1 hx with rfl | hx
  · exact pass_not (pass_u u f _)
  rcases List.mem_append.1 hx with hx | hx
  · exact pass_not (aside_pass h hus hfs hS hx)
  · have hr := rest_pass (u := u) (f := f) (fs := S.fs) hus hfs fun g hg => ⟨(fun e => by
      have h9 := look_mem' hg
      rw [e, hl] at h9
      cases h9), word_slash (name_short h hus hS hg)⟩
    rw [List.filter_eq_self] at hr
    exact pass_not (hr x hx)
theorem mailK_swap {u f g : ByteArray} {a b : Int} (e : mailK u f a = mailK u f b) : mailK u g a = mailK u g b := by
  have h9 := congrArg (fun x : ByteArray => x.data.toList) e
  have h8 : d3 a.toNat = d3 b.toNat := by simpa [bs] using h9
  show bs _ = bs _
  rw [h8]
theorem mails_apart {L : List PM} {u f tf : ByteArray} {S : SM} {g : FM} (h : storeB L = true) (hS : takeAll (nextM L) u S0 L = some S) (hl : lookF f S.fs = some g) : (g.mails.map (mailP u tf)).Pairwise (fun a b => a.1 ≠ b.1) := by
  obtain ⟨hgm, hgn⟩ := lookF_mem hl
  have hsub := store_sub h hS g hgm
  unfold SubF at hsub
  have hp := (store_facts h).1.2.2.sublist hsub
  unfold UpL at hp
  rw [List.pairwise_map] at hp ⊢
  exact hp.imp fun h9 e => ltK_ne h9 (mailK_swap e)
theorem begins_mail (u f : ByteArray) (m : MMl) : beginsB (mailP u f m).1 (preK u f) = true := begins_pre.2 ⟨d3 m.1.toNat, by simp [mailP, bs]⟩
theorem rn_fits {L : List PM} {u f tf : ByteArray} {S S' : SM} {q nx' : Int} (h : storeB L = true) (hsu : shortB u = true) (hsf : shortB f = true) (hst : shortB tf = true) (hS : takeAll (nextM L) u S0 L = some S) (hQ : rnM (nextM L) S f tf = (q, nx', S')) : OpFits L u q nx' S' (rnR L u f tf) := by
  have hus := word_slash hsu
  have hfs := word_slash hsf
  have hts := word_slash hst
  obtain ⟨hg, nx0, hnm, n1, n2, _, _, _⟩ := store_facts h
  rw [hnm] at n1 n2
  obtain ⟨hwi, hwd⟩ := word_iff h hus hS
  obtain ⟨hli, hln⟩ := look_iff h hus hS hfs
  obtain ⟨hti, htn⟩ := look_iff h hus hS hts
  unfold rnM at hQ
  by_cases hw : S.word.toList = []
  · rw [if_pos hw] at hQ
    cases hQ
    have hk : knownR L u f = 15 := by unfold knownR; rw [hwi.1 hw]; rfl
    unfold rnR
    rw [hk, if_pos (by decide)]
    exact ⟨fun _ => rfl, fun h9 => by cases h9⟩
  rw [if_neg hw] at hQ
  have hs : (getM L (userK u)).isSome = true := by
    cases hv : getM L (userK u) with
    | none => exact absurd (hwi.2 hv) hw
    | some v => rfl
  cases hl : lookF f S.fs with
  | none =>
    rw [hl] at hQ
    cases hQ
    have hk : knownR L u f = 16 := by unfold knownR; rw [hs, ← hli, hl]; rfl
    unfold rnR
    rw [hk, if_pos (by decide)]
    exact ⟨fun _ => rfl, fun h9 => by cases h9⟩
  | some g =>
    rw [hl, rnO_some] at hQ
    have hk : knownR L u f = 0 := by unfold knownR; rw [hs, ← hli, hl]; rfl
    unfold rnR
    rw [hk, if_neg (by decide)]
    by_cases hi : f = inboxT
    · rw [if_pos hi] at hQ
      cases hQ
      rw [if_pos hi]
      exact ⟨fun _ => rfl, fun h9 => by cases h9⟩
    rw [if_neg hi] at hQ
    rw [if_neg hi]
    by_cases ht : (lookF tf S.fs).isSome = true
    · rw [if_pos ht] at hQ
      cases hQ
      have hk2 : knownR L u tf = 0 := by unfold knownR; rw [hs, ← hti, ht]; rfl
      rw [if_pos hk2]
      exact ⟨fun _ => rfl, fun h9 => by cases h9⟩
    rw [if_neg ht] at hQ
    have ht0 : lookF tf S.fs = none := by
      cases hv : lookF tf S.fs with
      | none => rfl
      | some z => rw [hv] at ht; exact absurd rfl ht
    have hk2 : knownR L u tf = 16 := by unfold knownR; rw [hs, ← hti, ht0]; rfl
    rw [hk2, if_neg (by decide), rnF_is hS hl]
    have hd : dropM (nextM L) S f = (0, nextM L, ⟨S.aside, S.word, dropF f S.fs⟩) := by
      unfold dropM
      rw [if_neg hw, if_neg (by rw [hl]; simp), if_neg hi]
    obtain ⟨_, _, _, Y, y1, y2, y3, y4⟩ := (drop_fits h hsu hsf hS hd).2 rfl
    have hY : Y = rnN L u f := by
      unfold dropR at y4
      rw [hk, if_neg (by decide), if_neg hi] at y4
      unfold fitsR at y4
      split at y4
      · exact absurd (Prod.mk.inj y4).2 (by decide)
      · exact (Prod.mk.inj y4).1.symm
    rw [hY] at y1 y2
    clear hY y3 y4 Y
    unfold freshR
    rw [next_drop h]
    by_cases hx : 9999 < nextM L
    · rw [if_pos hx] at hQ
      cases hQ
      rw [if_pos hx]
      exact ⟨fun _ => rfl, fun h9 => by cases h9⟩
    rw [if_neg hx] at hQ
    cases hQ
    rw [if_neg hx]
    obtain ⟨hgm, hgn⟩ := lookF_mem hl
    obtain ⟨e1, e2, e3, e4, e5, e6⟩ := store_fit h hS g hgm
    have htz := short_size' hst
    refine ⟨fun h9 => absurd rfl h9, fun _ => ⟨by omega, by omega, fun x hx => ?_, ?_⟩⟩
    · rcases putF_mem hx with hx | rfl
      · exact store_fit h hS x ((dropF_sub f S.fs).subset hx)
      · exact ⟨by show 0 ≤ nextM L; omega, n2, e3, e4, by show tf.size ≤ 1000; omega, e6⟩
    obtain ⟨V1, hV1⟩ : ∃ V, bs (itoa (nextM L + 1)) = V := ⟨_, rfl⟩
    obtain ⟨MT, hMT⟩ : ∃ V, metaT (nextM L) g.next = V := ⟨_, rfl⟩
    rw [hV1, hMT]
    obtain ⟨D, hD⟩ : ∃ D, (userK u, S.word) :: (notK vK S.aside ++ flatF u (dropF f S.fs)) = D := ⟨_, rfl⟩
    have p1 : (rnN L u f).Perm ((vK, bs (itoa (nextM L))) :: D) := by
      rw [← hD]
      exact y2.symm
    have p2 := swap_ins (v' := V1) y1 p1
    have u2 := ins_up (k := vK) (v := V1) y1
    have hNL : ∀ x ∈ insL vK V1 (rnN L u f), x.1 = vK ∨ x ∈ L := fun x hx => by
      rcases ins_mem y1 hx with rfl | hx
      · exact .inl rfl
      · have h9 := hx.1
        unfold rnN at h9
        rw [drop_eq] at h9
        exact .inr (List.mem_filter.1 h9).1
    have p3 : (insL (folderK u tf) MT (insL vK V1 (rnN L u f))).Perm ((folderK u tf, MT) :: (vK, V1) :: D) := by
      have h9 := ins_perm (k := folderK u tf) (v := MT) u2
      rw [notK_self fun x hx => ?_] at h9
      · exact h9.trans (List.Perm.cons _ p2)
      · rcases hNL x hx with e | e
        · rw [e]; exact (folder_not u tf).symm
        · exact htn ht0 x e
    have u3 := ins_up (k := folderK u tf) (v := MT) u2
    obtain ⟨Y0, hY0⟩ : ∃ Y, insL (folderK u tf) MT (insL vK V1 (rnN L u f)) = Y := ⟨_, rfl⟩
    have hno : ∀ p ∈ g.mails.map (mailP u tf), ∀ x ∈ Y0, x.1 ≠ p.1 := fun p hp x hx e => by
      rw [← hY0] at hx
      rcases ins_mem u2 hx with rfl | hx
      · exact mails_not p hp e.symm
      · obtain ⟨m, _, rfl⟩ := List.mem_map.1 hp
        rcases hNL x hx.1 with e2 | e2
        · rw [e2] at e
          exact mailK_not u tf m.1 e.symm
        · have h8 := no_mails h hus hts hS hw ht0 x e2
          rw [e, begins_mail u tf m] at h8
          cases h8
    rw [hY0] at p3 u3 ⊢
    obtain ⟨u4, p4⟩ := ins_all u3 (mails_apart (tf := tf) h hS hl) hno
    have l1 := (desk_list h hus hS hw).length_eq
    have l2 := (flat_perm (u := u) (drop_perm hl)).length_eq
    have l3 := p4.length_eq
    have l4 := p3.length_eq
    have hDl : D.length = 1 + ((notK vK S.aside).length + (flatF u (dropF f S.fs)).length) := by
      rw [← hD, List.length_cons, List.length_append]
      omega
    rw [flat_cons, List.length_append] at l2
    have l5 : (fPairs u g).length = g.mails.length + 1 := by unfold fPairs; rw [List.length_cons, List.length_map]
    rw [List.length_cons, List.length_cons, List.length_append] at l1
    rw [List.length_append, List.length_map] at l3
    rw [List.length_cons, List.length_cons] at l4
    have h60 := hg.1
    refine ⟨insAll (g.mails.map (mailP u tf)) Y0, u4, ?_, by omega, ?_⟩
    · refine List.Perm.trans ?_ p4.symm
      refine List.Perm.trans ?_ (List.Perm.append_left _ p3.symm)
      have e7 : flatF u (putF ⟨tf, nextM L, g.next, g.mails⟩ (dropF f S.fs)) = flatF u (dropF f S.fs) ++ ((folderK u tf, MT) :: g.mails.map (mailP u tf)) := by
        rw [put_none (look_drop ht0)]
        unfold flatF
        rw [List.flatMap_append, List.flatMap_cons, List.flatMap_nil, List.append_nil]
        rw [← hMT]
        rfl
      unfold deskP
      show ((vK, bs (itoa (nextM L + 1))) :: (userK u, S.word) :: (notK vK S.aside ++ flatF u (putF ⟨tf, nextM L, g.next, g.mails⟩ (dropF f S.fs)))).Perm _
      rw [e7, hV1, ← List.append_assoc]
      have e8 : (vK, V1) :: (userK u, S.word) :: ((notK vK S.aside ++ flatF u (dropF f S.fs)) ++ ((folderK u tf, MT) :: g.mails.map (mailP u tf))) = ((vK, V1) :: D) ++ ((folderK u tf, MT) :: g.mails.map (mailP u tf)) := by
        rw [← hD]
        rfl
      rw [e8]
      refine List.perm_append_comm.trans ?_
      exact List.perm_middle.symm
    · have f1 : fitsR L Y0 = (Y0, 0) := by unfold fitsR; rw [if_neg (by omega)]
      rw [f1]
      unfold rnT fitsR
      rw [if_neg (by simp), if_neg (by omega)]
end Go.Proofs.YtbpgncgmolpkiaaGreatDoor
namespace Go.Proofs.YtbpgncgmolpkiaaGreatDoor
open Go.ChangeShapes Go.WideShapes Go.ChangeAt Go.RowKit Go.Deep Go.Lib
set_option linter.unusedVariables false
set_option linter.unusedSimpArgs false
set_option maxRecDepth 100000

theorem l01DropO (a : Option Addr) (n c : Nat) (L : List PM) (key : ByteArray) (w : World) (hL : L.length = n) (hn : n ≤ 4096) (h : Src w a (cellsP L)) (m : Nat) (hm : (notK key L).length = m) (h1 : 1 ≤ m) :
    Calls Tryz.prog 51 #[.slice a n c, .string key] w fun e w' => ∃ g cap, e = .returned (.slice (some ⟨g, 0, none⟩) m cap) ∧ m ≤ cap ∧ cap ≤ maxLen ∧ Src w' (some ⟨g, 0, none⟩) (cellsP (notK key L)) ∧ Below w.heap.size w w' := by
  refine (l01Drop a n c (fK L) (fV L) key w hn (sp_src h hL)).mono ?_
  rintro e w' ⟨v, rfl, ho, hb⟩
  have e1 : dropTo (fK L) (fV L) key n = notK key L := by
    rw [dropTo_is L key n (by omega), List.take_of_length_le (by omega)]
  rw [e1] at ho
  have ho2 : w'.ownsRow w.heap.size 47 2 v m (cellsP (notK key L)) := by rw [← hm]; exact ho
  obtain ⟨g, cap, rfl, h2, h3⟩ := own_someP ho2 h1
  exact ⟨g, cap, rfl, h2, (own_capx ho2).2, h3, hb⟩
theorem fresh_ok {N W R : List PM} {u f : ByteArray} {nx : Int} (hu : UpL N) (h : freshR N W u f nx = (R, 0)) : R.length ≤ 60 ∧ UpL R := by
  unfold freshR at h
  split at h
  · cases h
  · unfold fitsR at h
    split at h
    · cases h
    · rename_i h9
      cases h
      exact ⟨by omega, ins_up (ins_up hu)⟩
theorem map_getD {u tf : ByteArray} (Ms : List MMl) (j : Nat) (hj : j < Ms.length) : (Ms.map (mailP u tf)).getD j p0 = mailP u tf (Ms.getD j ml0) := by
  rw [List.getD_eq_getElem?_getD, List.getD_eq_getElem?_getD, List.getElem?_map, List.getElem?_eq_getElem hj]
  rfl
theorem drop_good {L : List PM} {u f : ByteArray} (h : storeB L = true) : GoodW (rnN L u f) ∧ 1 ≤ (rnN L u f).length := by
  have hg := (store_facts h).1
  have hm : (vK, bs (itoa (nextM L))) ∈ rnN L u f := by
    show _ ∈ notK (folderK u f) (emptyR L u f)
    rw [drop_eq]
    exact List.mem_filter.2 ⟨v_mem h, pass_v u f _⟩
  refine ⟨?_, List.length_pos_of_mem hm⟩
  show GoodW (notK (folderK u f) (emptyR L u f))
  rw [drop_eq]
  have := List.length_filter_le (passB u f) L
  have := hg.1
  exact ⟨by omega, fun x hx => hg.2.1 x (List.mem_filter.1 hx).1, hg.2.2.sublist List.filter_sublist⟩
set_option maxHeartbeats 8000000 in
theorem l07RenameS (b o n c : Nat) (L : List PM) (hL : L.length = n) (hc : n ≤ c) (hc9 : c ≤ maxLen) (hg : GoodL L) (hst : storeB L = true) (u f tf : ByteArray) (hsu : shortB u = true) (hsf : shortB f = true) (hstf : shortB tf = true) (n0 : 0 ≤ nextM L) (w : World) (h : Src w (some ⟨b, o, none⟩) (cellsP L)) (R : List PM) (q : Int) (HR : Hid (rnR L u f tf = (R, q))) :
    Calls Tryz.prog 25 #[.slice (some ⟨b, o, none⟩) n c, .string u, .string f, .string tf] w fun e w' => ∃ a2 n2 c2, e = .returned (.tuple #[.slice a2 n2 c2, .int .i64 q]) ∧ R.length = n2 ∧ Src w' a2 (cellsP R) ∧ Below w.heap.size w w' := by
  have hn60 := hg.1
  rw [hL] at hn60
  have hus := word_slash hsu
  have hfs := word_slash hsf
  have zu := short_size' hsu
  have zf := short_size' hsf
  have zt := short_size' hstf
  have HLN : Hid (L.length = n ∧ Src w (some ⟨b, o, none⟩) (cellsP L)) := ⟨hL, h⟩
  have HBAD : Hid (∀ (W : World) (z : Int), Below w.heap.size w W → (L, z) = (R, q) → ∃ a2 n2 c2, Ending.returned (Value.tuple #[.slice (some ⟨b, o, none⟩) n c, .int .i64 z]) = Ending.returned (.tuple #[.slice a2 n2 c2, .int .i64 q]) ∧ R.length = n2 ∧ Src W a2 (cellsP R) ∧ Below w.heap.size w W) := fun W z hW he => by
    cases he
    exact ⟨_, _, _, rfl, HLN.out.1, HLN.out.2.below hW, hW⟩
  have CK := l07KnownS (some ⟨b, o, none⟩) n c L hL hg u f (by omega) (by omega) w h _ rfl
  have CK2 := fun W (hW : Below w.heap.size w W) => l07KnownS (some ⟨b, o, none⟩) n c L hL hg u tf (by omega) (by omega) W (h.below hW) _ rfl
  have HR1 := HR.out
  unfold rnR at HR1
  obtain ⟨k1, hk1⟩ : ∃ z, knownR L u f = z := ⟨_, rfl⟩
  obtain ⟨k2, hk2⟩ : ∃ z, knownR L u tf = z := ⟨_, rfl⟩
  rw [hk1] at CK HR1
  simp only [hk2] at CK2
  rw [hk2] at HR1
  by_cases e1 : k1 = 0
  case neg =>
    rw [if_pos e1] at HR1
    have HFH : Hid (∀ W, Below w.heap.size w W → ∃ a2 n2 c2, Ending.returned (Value.tuple #[.slice (some ⟨b, o, none⟩) n c, .int .i64 k1]) = Ending.returned (.tuple #[.slice a2 n2 c2, .int .i64 q]) ∧ R.length = n2 ∧ Src W a2 (cellsP R) ∧ Below w.heap.size w W) := fun W hW => HBAD.out W k1 hW HR1
    have hki : (k1 != 0) = true := by simpa using e1
    clear hL h hg HR HR1 hk1 hk2 CK2 HBAD hst hsu hsf hstf hus hfs n0
    go_enter Tryz.func25, Tryz.ntmps25
    go_wp2_with fail
    refine CK.mono ?_
    rintro e w1 ⟨rfl, hb1⟩
    have B1 : Hid (Below w.heap.size w w1) := hb1
    clear hb1 CK
    have HG : Hid (∃ a2 n2 c2, Ending.returned (Value.tuple #[.slice (some ⟨b, o, none⟩) n c, .int .i64 k1]) = Ending.returned (.tuple #[.slice a2 n2 c2, .int .i64 q]) ∧ R.length = n2 ∧ Src w1 a2 (cellsP R) ∧ Below w.heap.size w w1) := HFH.out w1 B1.out
    clear HFH
    go_wp2_with fail
    exact bodyPost_ret (v := .tuple #[.slice (some ⟨b, o, none⟩) n c, .int .i64 k1]) (by simp [results, Tryz.results25, go_sem]) rfl HG.out
  subst e1
  rw [if_neg (by decide)] at HR1
  by_cases hi : f = inboxT
  case pos =>
    rw [if_pos hi] at HR1
    have hib : (f.toList == [105, 110, 98, 111, 120]) = true := by rw [hi, ByteArray.toList_eq]; rfl
    have HFH : Hid (∀ W, Below w.heap.size w W → ∃ a2 n2 c2, Ending.returned (Value.tuple #[.slice (some ⟨b, o, none⟩) n c, .int .i64 11]) = Ending.returned (.tuple #[.slice a2 n2 c2, .int .i64 q]) ∧ R.length = n2 ∧ Src W a2 (cellsP R) ∧ Below w.heap.size w W) := fun W hW => HBAD.out W 11 hW HR1
    clear hL h hg HR HR1 hk1 hk2 CK2 HBAD hst hsu hsf hstf hus hfs n0 hi
    go_enter Tryz.func25, Tryz.ntmps25
    go_wp2_with fail
    refine CK.mono ?_
    rintro e w1 ⟨rfl, hb1⟩
    have B1 : Hid (Below w.heap.size w w1) := hb1
    clear hb1 CK
    have HG : Hid (∃ a2 n2 c2, Ending.returned (Value.tuple #[.slice (some ⟨b, o, none⟩) n c, .int .i64 11]) = Ending.returned (.tuple #[.slice a2 n2 c2, .int .i64 q]) ∧ R.length = n2 ∧ Src w1 a2 (cellsP R) ∧ Below w.heap.size w w1) := HFH.out w1 B1.out
    clear HFH
    go_wp2_with fail
    exact bodyPost_ret (v := .tuple #[.slice (some ⟨b, o, none⟩) n c, .int .i64 11]) (by simp [results, Tryz.results25, go_sem]) rfl HG.out
  rw [if_neg hi] at HR1
  have hib : (f.toList == [105, 110, 98, 111, 120]) = false := by
    refine beq_eq_false_iff_ne.2 fun e => hi ?_
    refine bs_inj ?_
    rw [← ByteArray.toList_eq, e]
  by_cases e2 : k2 = 0
  case pos =>
    subst e2
    rw [if_pos rfl] at HR1
    have HFH : Hid (∀ W, Below w.heap.size w W → ∃ a2 n2 c2, Ending.returned (Value.tuple #[.slice (some ⟨b, o, none⟩) n c, .int .i64 9]) = Ending.returned (.tuple #[.slice a2 n2 c2, .int .i64 q]) ∧ R.length = n2 ∧ Src W a2 (cellsP R) ∧ Below w.heap.size w W) := fun W hW => HBAD.out W 9 hW HR1
    clear hL h hg HR HR1 hk1 hk2 HBAD hst hsu hsf hstf hus hfs n0 hi
    go_enter Tryz.func25, Tryz.ntmps25
    go_wp2_with fail
    refine CK.mono ?_
    rintro e w1 ⟨rfl, hb1⟩
    have B1 : Hid (Below w.heap.size w w1) := hb1
    clear hb1 CK
    have CK3 := CK2 w1 B1.out
    clear CK2
    go_wp2_with fail
    refine CK3.mono ?_
    rintro e w2 ⟨rfl, hb2⟩
    have B2 : Hid (Below w.heap.size w w2) := B1.out.trans (hb2.mono B1.out.size)
    clear hb2 CK3
    have HG : Hid (∃ a2 n2 c2, Ending.returned (Value.tuple #[.slice (some ⟨b, o, none⟩) n c, .int .i64 9]) = Ending.returned (.tuple #[.slice a2 n2 c2, .int .i64 q]) ∧ R.length = n2 ∧ Src w2 a2 (cellsP R) ∧ Below w.heap.size w w2) := HFH.out w2 B2.out
    clear HFH
    go_wp2_with fail
    exact bodyPost_ret (v := .tuple #[.slice (some ⟨b, o, none⟩) n c, .int .i64 9]) (by simp [results, Tryz.results25, go_sem]) rfl HG.out
  rw [if_neg e2] at HR1
  have hk2i : (k2 == 0) = false := by simpa using e2
  obtain ⟨S, hS, _, _⟩ := take_all hst hus
  obtain ⟨hw, g, hl⟩ := known_zero hst hus hfs hS hk1
  rw [rnF_is hS hl] at HR1
  have hfit := store_fit hst hS g (lookF_mem hl).1
  have CT := fun W (hW : Below w.heap.size w W) => l07AtS (some ⟨b, o, none⟩) n c L hL hg u f (by omega) (by omega) g.mails (fit_ms hfit) (fol_mails hst hus hfs hS hw hl) g.val g.next (look_meta hst hS hl) W (h.below hW)
  have hml60 : g.mails.length ≤ 60 := by
    have h2 := (store_sub hst hS g (lookF_mem hl).1).length_le
    rw [List.length_map] at h2
    omega
  have CE := fun W (hW : Below w.heap.size w W) => l07EmptyS (some ⟨b, o, none⟩) n c L hL hg u f (by omega) (by omega) W (h.below hW)
  have CF := fun W => l07FolderS u f W (by omega) (by omega)
  have hel : (emptyR L u f).length ≤ n := by rw [← hL]; exact List.length_filter_le _ _
  obtain ⟨hgw, h1N⟩ := drop_good (u := u) (f := f) hst
  have hnn := next_drop (u := u) (f := f) hst
  have hn0 : 0 ≤ nextM (rnN L u f) := by rw [hnn]; exact n0
  obtain ⟨R1, q1, hR1⟩ : ∃ R1 q1, freshR (rnN L u f) L u tf g.next = (R1, q1) := ⟨_, _, rfl⟩
  rw [hR1] at HR1
  obtain ⟨m, hm⟩ : ∃ m, (rnN L u f).length = m := ⟨_, rfl⟩
  have hm64 : m ≤ 64 := by rw [← hm]; exact hgw.1
  have h1m : 1 ≤ m := by rw [← hm]; exact h1N
  have CD := fun (a2 : Option Addr) (n2 c2 : Nat) (W : World) (j1 : (emptyR L u f).length = n2) (j2 : Src W a2 (cellsP (emptyR L u f))) => l01DropO a2 n2 c2 (emptyR L u f) (folderK u f) W j1 (by omega) j2 m hm h1m
  have CR := fun (g2 cap : Nat) (W : World) (hW : Below w.heap.size w W) (j1 : m ≤ cap) (j2 : cap ≤ maxLen) (j3 : Src W (some ⟨g2, 0, none⟩) (cellsP (rnN L u f))) => l07FreshX g2 0 m cap (rnN L u f) hm hm64 j1 j2 hgw (some ⟨b, o, none⟩) n c L hL u tf g.next W j3 (h.below hW) (by omega) (by omega) hn0 hfit.2.2.1 hfit.2.2.2.1 R1 q1 hR1
  have HRU : Hid (q1 = 0 → R1.length ≤ 60 ∧ UpL R1) := fun e => by
    subst e
    exact fresh_ok hgw.2.2 hR1
  obtain ⟨ER, hER⟩ : ∃ t, emptyR L u f = t := ⟨_, rfl⟩
  have CD2 : Hid (∀ (a2 : Option Addr) (n2 c2 : Nat) (W : World), ER.length = n2 → Src W a2 (cellsP ER) → Calls Tryz.prog 51 #[.slice a2 n2 c2, .string (folderK u f)] W fun e w' => ∃ g cap, e = .returned (.slice (some ⟨g, 0, none⟩) m cap) ∧ m ≤ cap ∧ cap ≤ maxLen ∧ Src w' (some ⟨g, 0, none⟩) (cellsP (rnN L u f)) ∧ Below W.heap.size W w') := fun a2 n2 c2 W j1 j2 => CD a2 n2 c2 W (by rw [hER]; exact j1) (by rw [hER]; exact j2)
  simp only [hER] at CE
  obtain ⟨NN, hNN⟩ : ∃ t, rnN L u f = t := ⟨_, rfl⟩
  rw [hNN] at CD2
  simp only [hNN] at CR
  obtain ⟨KF, hKF⟩ : ∃ t, folderK u f = t := ⟨_, rfl⟩
  rw [hKF] at CD2
  simp only [hKF] at CF
  obtain ⟨gv, hgv⟩ : ∃ t, g.val = t := ⟨_, rfl⟩
  obtain ⟨gn, hgn⟩ : ∃ t, g.next = t := ⟨_, rfl⟩
  obtain ⟨Ms, hMs⟩ : ∃ t, g.mails = t := ⟨_, rfl⟩
  have HFM : Hid (FitMs Ms) := by rw [← hMs]; exact fit_ms hfit
  obtain ⟨ml, hml⟩ : ∃ t, Ms.length = t := ⟨_, rfl⟩
  simp only [hgv, hgn, hMs, hml] at CT
  simp only [hgn] at CR
  rw [hMs] at HR1 hml60
  rw [hml] at hml60
  obtain ⟨X, hX⟩ : ∃ t, Ms.map (mailP u tf) = t := ⟨_, rfl⟩
  rw [hX] at HR1
  have HX : Hid (Ms.map (mailP u tf) = X) := hX
  have HML : Hid (Ms.length = ml) := hml
  have HRT : Hid (rnT L X (R1, q1) = (R, q)) := HR1
  clear hL h hg HR HR1 hk1 hk2 hst hsu hsf hstf hus hfs n0 hi e2 hS hl hw hfit hgw hnn hn0 hR1 hm CD hER hNN hKF hgv hgn hMs hml hX hel h1N
  go_enter Tryz.func25, Tryz.ntmps25
  go_wp2_with fail
  refine CK.mono ?_
  rintro e w1 ⟨rfl, hb1⟩
  have B1 : Hid (Below w.heap.size w w1) := hb1
  clear hb1 CK
  have CK3 := CK2 w1 B1.out
  clear CK2
  go_wp2_with fail
  refine CK3.mono ?_
  rintro e w2 ⟨rfl, hb2⟩
  have B2 : Hid (Below w.heap.size w w2) := B1.out.trans (hb2.mono B1.out.size)
  clear hb2 CK3
  have CT2 := CT w2 B2.out
  clear CT
  go_wp2_with fail
  refine CT2.mono ?_
  rintro e w3 ⟨am, cm, rfl, ho3, hb3⟩
  have B3 : Hid (Below w.heap.size w w3) := B2.out.trans (hb3.mono B2.out.size)
  have hs3 : Src w3 am (cellsMl Ms) := by
    obtain ⟨a9, c9, e9, hs9, _⟩ := own_src ho3
    cases e9
    exact hs9
  obtain ⟨w4, hw4⟩ : ∃ W, w3.alloc (.cells #[.string f, .int .i64 gv, .int .i64 gn, .slice am ml cm] 59) = W := ⟨_, rfl⟩
  have A4 : Below w3.heap.size w3 w4 := by rw [← hw4]; exact (Below.refl _ _).alloc (Nat.le_refl _) _
  have B4 : Hid (Below w.heap.size w w4) := B3.out.trans (A4.mono B3.out.size)
  have X4 : Hid (Box w4 w3.heap.size [.string f, .int .i64 gv, .int .i64 gn, .slice am ml cm]) := by show Box _ _ _; rw [← hw4]; exact Box.new rfl
  have S4 : Hid (Src w4 am (cellsMl Ms)) := hs3.below A4
  have CE4 := CE w4 B4.out
  obtain ⟨x42, _⟩ := X4.out 2 _ rfl
  clear ho3 hb3 hs3 CT2 CE A4
  go_wp2_with fail
  refine CE4.mono ?_
  rintro e w5 ⟨a5, n5, c5, rfl, j1, j2, hb5⟩
  have B5 : Hid (Below w.heap.size w w5) := B4.out.trans (hb5.mono B4.out.size)
  have X5 : Hid (Box w5 w3.heap.size [.string f, .int .i64 gv, .int .i64 gn, .slice am ml cm]) := Box.below X4.out hb5
  have S5 : Hid (Src w5 am (cellsMl Ms)) := S4.out.below hb5
  have CD5 := CD2.out a5 n5 c5 w5 j1 j2
  clear CE4 hb5 j1 j2 CD2 hw4 x42
  go_wp2_with fail
  refine (CF _).mono ?_
  rintro e w6 ⟨rfl, hw6⟩
  obtain rfl := hw6
  clear CF
  go_wp2_with fail
  refine CD5.mono ?_
  rintro e w7 ⟨g7, cap7, rfl, j1, j2, j3, hb7⟩
  have B7 : Hid (Below w.heap.size w w7) := B5.out.trans (hb7.mono B5.out.size)
  have X7 : Hid (Box w7 w3.heap.size [.string f, .int .i64 gv, .int .i64 gn, .slice am ml cm]) := Box.below X5.out hb7
  have S7 : Hid (Src w7 am (cellsMl Ms)) := S5.out.below hb7
  have CR7 := CR g7 cap7 w7 B7.out j1 j2 j3
  obtain ⟨x72, _⟩ := X7.out 2 _ rfl
  clear CD5 hb7 j1 j2 j3 CR
  go_wp2_with fail
  refine CR7.mono ?_
  rintro e w8 ⟨a8, n8, c8, rfl, j1, j2, hb8, j3⟩
  have B8 : Hid (Below w.heap.size w w8) := B7.out.trans (hb8.mono B7.out.size)
  have X8 : Hid (Box w8 w3.heap.size [.string f, .int .i64 gv, .int .i64 gn, .slice am ml cm]) := Box.below X7.out hb8
  have S8 : Hid (Src w8 am (cellsMl Ms)) := S7.out.below hb8
  have HJ : Hid (R1.length = n8 ∧ Src w8 a8 (cellsP R1) ∧ (q1 = 0 → (∃ g, a8 = some ⟨g, 0, none⟩) ∧ n8 ≤ c8 ∧ c8 ≤ maxLen)) := ⟨j1, j2, j3⟩
  clear CR7 hb8 j1 j2 j3 x72
  by_cases eq1 : q1 = 0
  case neg =>
    have HRT9 := HRT.out
    unfold rnT at HRT9
    rw [if_pos eq1] at HRT9
    have HFH : Hid (∀ W, Below w.heap.size w W → ∃ a2 n2 c2, Ending.returned (Value.tuple #[.slice (some ⟨b, o, none⟩) n c, .int .i64 q1]) = Ending.returned (.tuple #[.slice a2 n2 c2, .int .i64 q]) ∧ R.length = n2 ∧ Src W a2 (cellsP R) ∧ Below w.heap.size w W) := fun W hW => HBAD.out W q1 hW HRT9
    have hqi : (q1 != 0) = true := by simpa using eq1
    clear HRT9 HRT HBAD
    have HG : Hid (∃ a2 n2 c2, Ending.returned (Value.tuple #[.slice (some ⟨b, o, none⟩) n c, .int .i64 q1]) = Ending.returned (.tuple #[.slice a2 n2 c2, .int .i64 q]) ∧ R.length = n2 ∧ Src w8 a2 (cellsP R) ∧ Below w.heap.size w w8) := HFH.out w8 B8.out
    clear HFH
    go_wp2_with fail
    exact bodyPost_ret (v := .tuple #[.slice (some ⟨b, o, none⟩) n c, .int .i64 q1]) (by simp [results, Tryz.results25, go_sem]) rfl HG.out
  subst eq1
  obtain ⟨⟨g8, rfl⟩, hnc, hc8⟩ := HJ.out.2.2 rfl
  obtain ⟨h60, hup⟩ := HRU.out rfl
  have HQ : Hid (insAll X R1 = R ∧ 0 = q) := by
    have h9 := HRT.out
    unfold rnT at h9
    rw [if_neg (by simp)] at h9
    cases h9
    exact ⟨rfl, rfl⟩
  have HUP : Hid (UpL R1) := hup
  have H8 : Hid (R1.length = n8 ∧ Src w8 (some ⟨g8, 0, none⟩) (cellsP R1)) := ⟨HJ.out.1, HJ.out.2.1⟩
  have hn8 : n8 ≤ 60 := by rw [← HJ.out.1]; exact h60
  clear HJ HRT HRU HBAD h60 hup
  go_wp2_with fail
  go_loopw [12, 14] (fun v iv wr => ∃ (j n' g' c' : Nat), j ≤ ml ∧ v = .slice (some ⟨g', 0, none⟩) n' c' ∧ iv = .int .i64 (j : Int) ∧ n' ≤ c' ∧ c' ≤ maxLen ∧ Hid ((insAll (X.take j) R1).length = n') ∧ Hid (Src wr (some ⟨g', 0, none⟩) (cellsP (insAll (X.take j) R1))) ∧ Hid (Below w.heap.size w wr) ∧ Hid (Below w8.heap.size w8 wr)) (fun _ i _ => ml - (RowKit.intOf i).toNat)
  case atStart => exact ⟨0, n8, g8, c8, by omega, rfl, rfl, hnc, hc8, H8.out.1, H8.out.2, B8.out, Below.refl _ _⟩
  case round =>
    obtain ⟨j, n', g', c', hj, rfl, rfl, hnc', hc', hlen, hsr, hbr, hb8r⟩ := hrel
    have X9 : Hid (Box wr w3.heap.size [.string f, .int .i64 gv, .int .i64 gn, .slice am ml cm]) := Box.below X8.out hb8r.out
    obtain ⟨x93, _⟩ := X9.out 3 _ rfl
    by_cases hlt : j < ml
    · have hlti : (j : Int) < (ml : Int) := by omega
      have hjM : j < Ms.length := by rw [HML.out]; exact hlt
      obtain ⟨bm, om, x0, x1, x2, rfl, m0, m1, m2, hx⟩ := srcMl (S8.out.below hb8r.out) hjM
      obtain ⟨y0, y1, y2, y3, y4⟩ := HFM.out (Ms.getD j ml0) (mem_getD' Ms ml0 j hjM)
      rw [hx.out] at y0 y1 y2 y3 y4
      dsimp only at y0 y1 y2 y3 y4
      obtain ⟨un, hun⟩ : ∃ un : Nat, (un : Int) = x0 := ⟨x0.toNat, by omega⟩
      subst hun
      have hu9 : un < 1000 := by omega
      have CM := fun W => l07MailS u tf un hu9 (by omega) (by omega) W
      have CG := fun W => digitsI x1 y2 (by omega) W
      have hxj : X.getD j p0 = (mailK u tf (un : Int), mailV ((un : Int), x1, x2)) := by
        rw [← HX.out, map_getD Ms j hjM, hx.out]
        rfl
      have hst9 := insAll_step X R1 j (by rw [← HX.out, List.length_map]; exact hjM)
      rw [hxj] at hst9
      have hil := insAll_len (X.take j) HUP.out
      have htl := List.length_take_le j X
      have hn9 : n' ≤ 200 := by
        rw [← hlen.out]
        have := H8.out.1
        omega
      have CP := fun W (hW : Below wr.heap.size wr W) => l01PutM g' 0 n' c' (insAll (X.take j) R1) (mailK u tf (un : Int)) (mailV ((un : Int), x1, x2)) W hlen.out (by omega) hnc' hc' (insAll_up _ HUP.out) (hsr.out.below hW)
      rw [← hst9] at CP
      have HMV : Hid (bs (itoa x1) ++ x2 = mailV ((un : Int), x1, x2)) := rfl
      have hzi := itoa_small x1 y2 (by omega)
      obtain ⟨MK, hMK⟩ : ∃ t, mailK u tf (un : Int) = t := ⟨_, rfl⟩
      obtain ⟨TI, hTI⟩ : ∃ t, bs (itoa x1) = t := ⟨_, rfl⟩
      obtain ⟨MV, hMV⟩ : ∃ t, mailV ((un : Int), x1, x2) = t := ⟨_, rfl⟩
      simp only [hMK] at CM CP
      simp only [hTI] at CG HMV hzi
      simp only [hMV] at CP HMV
      obtain ⟨I9, hI9⟩ : ∃ t, insAll (X.take (j + 1)) R1 = t := ⟨_, rfl⟩
      simp only [hI9] at CP
      have HI9 : Hid (insAll (X.take (j + 1)) R1 = I9) := hI9
      obtain ⟨n9, hn99⟩ : ∃ t, I9.length = t := ⟨_, rfl⟩
      simp only [hn99] at CP
      have HN9 : Hid (I9.length = n9) := hn99
      have hsz : TI.size + x2.size ≤ 2000 := by omega
      clear hst9 hxj hil htl hMK hTI hMV hI9 hn99 hx hlen hsr
      go_upto_region 16 with fail
      refine wp_region_noPanic ?_
      refine wp_region_held_drew (S := fun w' => w'.cell? ⟨w3.heap.size, 3, none⟩ = some (.slice (some ⟨bm, om, none⟩) ml cm) ∧ w'.cell? ⟨bm, om + j * 3, none⟩ = some (.int .i64 (un : Int)) ∧ w'.cell? ⟨bm, om + j * 3 + 1, none⟩ = some (.int .i64 x1) ∧ w'.cell? ⟨bm, om + j * 3 + 2, none⟩ = some (.string x2)) (by kernel_rfl) ⟨x93, m0, m1, m2⟩ (fun hHeld => ?_)
      refine tkA (i := 0) (v := .slice (some ⟨g', 0, none⟩) n' c') ?_ hHeld ?_
      · intro w9 hSw
        obtain ⟨z0, z1, z2, z3⟩ := hSw
        go_simp
      simp only [Act.put, List.setIfInBounds_toArray, List.set_cons_zero, List.set_cons_succ]
      refine tkA (i := 1) (v := .string u) ?_ hHeld ?_
      · intro w9 hSw
        obtain ⟨z0, z1, z2, z3⟩ := hSw
        go_simp
      simp only [Act.put, List.setIfInBounds_toArray, List.set_cons_zero, List.set_cons_succ]
      refine tkA (i := 2) (v := .string tf) ?_ hHeld ?_
      · intro w9 hSw
        obtain ⟨z0, z1, z2, z3⟩ := hSw
        go_simp
      simp only [Act.put, List.setIfInBounds_toArray, List.set_cons_zero, List.set_cons_succ]
      refine tkA (i := 3) (v := .pointer (some ⟨w3.heap.size, 3, none⟩)) ?_ hHeld ?_
      · intro w9 hSw
        obtain ⟨z0, z1, z2, z3⟩ := hSw
        go_simp
      simp only [Act.put, List.setIfInBounds_toArray, List.set_cons_zero, List.set_cons_succ]
      refine tkA (i := 4) (v := .slice (some ⟨bm, om, none⟩) ml cm) ?_ hHeld ?_
      · intro w9 hSw
        obtain ⟨z0, z1, z2, z3⟩ := hSw
        go_simp
      simp only [Act.put, List.setIfInBounds_toArray, List.set_cons_zero, List.set_cons_succ]
      refine tkA (i := 5) (v := .int .i64 (j : Int)) ?_ hHeld ?_
      · intro w9 hSw
        obtain ⟨z0, z1, z2, z3⟩ := hSw
        go_simp
      simp only [Act.put, List.setIfInBounds_toArray, List.set_cons_zero, List.set_cons_succ]
      refine tkA (i := 6) (v := .pointer (some ⟨bm, om + j * 3, none⟩)) ?_ hHeld ?_
      · intro w9 hSw
        obtain ⟨z0, z1, z2, z3⟩ := hSw
        go_simp
      simp only [Act.put, List.setIfInBounds_toArray, List.set_cons_zero, List.set_cons_succ]
      refine tkA (i := 7) (v := .pointer (some ⟨bm, om + j * 3, none⟩)) ?_ hHeld ?_
      · intro w9 hSw
        obtain ⟨z0, z1, z2, z3⟩ := hSw
        go_simp
      simp only [Act.put, List.setIfInBounds_toArray, List.set_cons_zero, List.set_cons_succ]
      refine tkA (i := 8) (v := .int .i64 (un : Int)) ?_ hHeld ?_
      · intro w9 hSw
        obtain ⟨z0, z1, z2, z3⟩ := hSw
        go_simp
      simp only [Act.put, List.setIfInBounds_toArray, List.set_cons_zero, List.set_cons_succ]
      refine tkA (i := 10) (v := .pointer (some ⟨w3.heap.size, 3, none⟩)) ?_ hHeld ?_
      · intro w9 hSw
        obtain ⟨z0, z1, z2, z3⟩ := hSw
        go_simp
      simp only [Act.put, List.setIfInBounds_toArray, List.set_cons_zero, List.set_cons_succ]
      refine tkA (i := 11) (v := .slice (some ⟨bm, om, none⟩) ml cm) ?_ hHeld ?_
      · intro w9 hSw
        obtain ⟨z0, z1, z2, z3⟩ := hSw
        go_simp
      simp only [Act.put, List.setIfInBounds_toArray, List.set_cons_zero, List.set_cons_succ]
      refine tkA (i := 12) (v := .int .i64 (j : Int)) ?_ hHeld ?_
      · intro w9 hSw
        obtain ⟨z0, z1, z2, z3⟩ := hSw
        go_simp
      simp only [Act.put, List.setIfInBounds_toArray, List.set_cons_zero, List.set_cons_succ]
      refine tkA (i := 13) (v := .pointer (some ⟨bm, om + j * 3, none⟩)) ?_ hHeld ?_
      · intro w9 hSw
        obtain ⟨z0, z1, z2, z3⟩ := hSw
        go_simp
      simp only [Act.put, List.setIfInBounds_toArray, List.set_cons_zero, List.set_cons_succ]
      refine tkA (i := 14) (v := .pointer (some ⟨bm, om + j * 3 + 1, none⟩)) ?_ hHeld ?_
      · intro w9 hSw
        obtain ⟨z0, z1, z2, z3⟩ := hSw
        go_simp
      simp only [Act.put, List.setIfInBounds_toArray, List.set_cons_zero, List.set_cons_succ]
      refine tkA (i := 15) (v := .int .i64 x1) ?_ hHeld ?_
      · intro w9 hSw
        obtain ⟨z0, z1, z2, z3⟩ := hSw
        go_simp
      simp only [Act.put, List.setIfInBounds_toArray, List.set_cons_zero, List.set_cons_succ]
      refine tkA (i := 17) (v := .pointer (some ⟨w3.heap.size, 3, none⟩)) ?_ hHeld ?_
      · intro w9 hSw
        obtain ⟨z0, z1, z2, z3⟩ := hSw
        go_simp
      simp only [Act.put, List.setIfInBounds_toArray, List.set_cons_zero, List.set_cons_succ]
      refine tkA (i := 18) (v := .slice (some ⟨bm, om, none⟩) ml cm) ?_ hHeld ?_
      · intro w9 hSw
        obtain ⟨z0, z1, z2, z3⟩ := hSw
        go_simp
      simp only [Act.put, List.setIfInBounds_toArray, List.set_cons_zero, List.set_cons_succ]
      refine tkA (i := 19) (v := .int .i64 (j : Int)) ?_ hHeld ?_
      · intro w9 hSw
        obtain ⟨z0, z1, z2, z3⟩ := hSw
        go_simp
      simp only [Act.put, List.setIfInBounds_toArray, List.set_cons_zero, List.set_cons_succ]
      refine tkA (i := 20) (v := .pointer (some ⟨bm, om + j * 3, none⟩)) ?_ hHeld ?_
      · intro w9 hSw
        obtain ⟨z0, z1, z2, z3⟩ := hSw
        go_simp
      simp only [Act.put, List.setIfInBounds_toArray, List.set_cons_zero, List.set_cons_succ]
      refine tkA (i := 21) (v := .pointer (some ⟨bm, om + j * 3 + 2, none⟩)) ?_ hHeld ?_
      · intro w9 hSw
        obtain ⟨z0, z1, z2, z3⟩ := hSw
        go_simp
      simp only [Act.put, List.setIfInBounds_toArray, List.set_cons_zero, List.set_cons_succ]
      refine tkA (i := 22) (v := .string x2) ?_ hHeld ?_
      · intro w9 hSw
        obtain ⟨z0, z1, z2, z3⟩ := hSw
        go_simp
      simp only [Act.put, List.setIfInBounds_toArray, List.set_cons_zero, List.set_cons_succ]
      refine wpAnyH_ready (rs := [9]) (by kernel_rfl) (by simp) ?_
      refine AllReadyH.cons rfl (fun K hK => ?_) AllReadyH.nil
      go_simp
      refine (CM _).mono ?_
      rintro e wm ⟨rfl, hbm⟩
      have BM : Hid (Below wr.heap.size wr wm) := (Below.refl _ _).drew.trans hbm
      clear hbm
      dsimp only
      refine hK _ _ ⟨cell_later BM.out x93, cell_later BM.out m0, cell_later BM.out m1, cell_later BM.out m2⟩ (fun hHeld => ?_)
      clear hK K
      refine wpAnyH_ready (rs := [16]) (by kernel_rfl) (by simp) ?_
      refine AllReadyH.cons rfl (fun K hK => ?_) AllReadyH.nil
      go_simp
      refine (CG _).mono ?_
      rintro e wd ⟨rfl, hbd⟩
      have BD : Hid (Below wr.heap.size wr wd) := BM.out.trans (hbd.mono BM.out.size)
      clear hbd
      dsimp only
      refine hK _ _ ⟨cell_later BD.out x93, cell_later BD.out m0, cell_later BD.out m1, cell_later BD.out m2⟩ (fun hHeld => ?_)
      clear hK K
      refine tkA (i := 23) (v := .string MV) ?_ hHeld ?_
      · intro w9 hSw
        obtain ⟨z0, z1, z2, z3⟩ := hSw
        have hmv := HMV.out
        go_simp
        omega
      simp only [Act.put, List.setIfInBounds_toArray, List.set_cons_zero, List.set_cons_succ]
      refine wpAnyH_ready (rs := [24]) (by kernel_rfl) (by simp) ?_
      refine AllReadyH.cons rfl (fun K hK => ?_) AllReadyH.nil
      go_simp
      have CPD := CP wd BD.out
      refine CPD.mono ?_
      rintro e wp ⟨gp, cp, rfl, j1, j2, j3, hbp⟩
      have BP : Hid (Below wr.heap.size wr wp) := BD.out.trans (hbp.mono BD.out.size)
      have HPF : Hid (n9 ≤ cp ∧ cp ≤ maxLen ∧ Src wp (some ⟨gp, 0, none⟩) (cellsP I9)) := ⟨j1, j2, j3⟩
      clear hbp j1 j2 j3 CPD
      dsimp only
      refine hK _ _ ⟨cell_later BP.out x93, cell_later BP.out m0, cell_later BP.out m1, cell_later BP.out m2⟩ (fun hHeld => ?_)
      clear hK K
      refine wpAnyH_ready (rs := [25]) (by kernel_rfl) (by simp) ?_
      refine AllReadyH.cons rfl (fun K hK => ?_) AllReadyH.nil
      go_simp
      refine hK _ _ ⟨cell_later BP.out x93, cell_later BP.out m0, cell_later BP.out m1, cell_later BP.out m2⟩ (fun hHeld => ?_)
      clear hK K
      refine wpAnyH_done (by kernel_rfl) ?_ _
      refine NoPanic.normal ?_
      clear hHeld
      have HF : Hid (Below w.heap.size w wp ∧ Below w8.heap.size w8 wp) := ⟨hbr.out.trans (BP.out.mono hbr.out.size), hb8r.out.trans (BP.out.mono hb8r.out.size)⟩
      clear BP BD BM
      go_wp2_with fail
      exact ⟨⟨j + 1, n9, gp, cp, by omega, rfl, by go_num, HPF.out.1, HPF.out.2.1, by rw [HI9.out]; exact HN9.out, by rw [HI9.out]; exact HPF.out.2.2, HF.out.1, HF.out.2⟩, by simp [RowKit.intOf]; omega⟩
    · obtain rfl : j = ml := by omega
      have hlti : ¬ (j : Int) < (j : Int) := by omega
      have HF : Hid (R.length = n' ∧ Src wr (some ⟨g', 0, none⟩) (cellsP R) ∧ Below w.heap.size w wr) := by
        have e9 : X.take j = X := List.take_of_length_le (by rw [← HX.out, List.length_map, HML.out]; exact Nat.le_refl _)
        have h9 := HQ.out.1
        rw [← e9] at h9
        rw [← h9]
        exact ⟨hlen.out, hsr.out, hbr.out⟩
      have HQ0 : Hid (0 = q) := HQ.out.2
      clear hlen hsr
      go_wp2_with fail
      exact bodyPost_ret (v := .tuple #[.slice (some ⟨g', 0, none⟩) n' c', .int .i64 0]) (by simp [results, Tryz.results25, go_sem]) rfl ⟨_, _, ⟨_, by rw [HQ0.out]⟩, HF.out⟩
end Go.Proofs.YtbpgncgmolpkiaaGreatDoor
namespace Go.Proofs.YtbpgncgmolpkiaaGreatDoor
open Go.ChangeShapes Go.WideShapes Go.ChangeAt Go.RowKit Go.Deep Go.Lib
open Go.ChangeMaps (setBlock)
set_option linter.unusedVariables false
set_option linter.unusedSimpArgs false
set_option maxRecDepth 100000

theorem st_putG {w : World} {M : Nat} {a : Option Addr} {n c : Nat} {va : Value} {sd : List PM} {nx' : Int} {u wd : ByteArray} {X : List FX} {fs : List FM} {k : Nat} {g : FM} (hD : DeskAt w M ⟨a, n, c, va, sd, nx', u, wd, X⟩) (hV : View u X (putF g fs)) (hN : (fs.map (·.name)).Nodup) (hf : ∀ f ∈ fs, 1 ≤ f.next ∧ f.next ≤ 999 ∧ f.mails.length ≤ k) (hg : 1 ≤ g.next ∧ g.next ≤ 999 ∧ g.mails.length ≤ k) (hk : sd.length ≤ k) : StAt w M a n c nx' u ⟨sd, wd, putF g fs⟩ k :=
  ⟨va, X, hD, hV, putF_names hN, fun x hx => by
    rcases putF_mem hx with hx | rfl
    · exact hf x hx
    · exact hg, hk⟩
theorem drop_keys {u f : ByteArray} {X : List FX} {fs : List FM} (hV : View u X fs) (hN : (fs.map (·.name)).Nodup) : ∀ z ∈ dropX (folderK u f) X, z.k ≠ folderK u f := fun z hz e => by
  have h1 : z.k ∈ (dropX (folderK u f) X).map (·.k) := List.mem_map.2 ⟨z, hz, rfl⟩
  rw [hV.drop.keys] at h1
  obtain ⟨g, hg, hge⟩ := List.mem_map.1 h1
  have h2 : folderK u g.name = folderK u f := hge.trans e
  exact drop_names hN g hg (folderK_inj h2)
theorem at_some {w : World} {M : Nat} {D : DK} {u f : ByteArray} {fs : List FM} {g : FM} (hD : DeskAt w M D) (hV : View u D.X fs) (hl : lookF f fs = some g) : ∃ ax cx, atX (lookX (folderK u f) D.X) = .agg #[.string g.name, .int .i64 g.val, .int .i64 g.next, .slice ax g.mails.length cx] ∧ w.ownsRow (M + 2) 62 3 (.slice ax g.mails.length cx) g.mails.length (cellsMl g.mails) ∧ ∀ z ∈ D.X, z.k ≠ folderK u f → ∀ y, z.v.ownBlock = some y → Value.ownBlock (.slice ax g.mails.length cx) ≠ some y := by
  have hlx := hV.look f
  rw [hl] at hlx
  obtain ⟨x, hx1, hx2⟩ := Option.map_eq_some_iff.1 hlx
  subst hx2
  have ho := hD.2.2.2.1 x (look_mem hx1)
  obtain ⟨ax, cx, hv, _, _⟩ := own_src ho
  refine ⟨ax, cx, ?_, ?_, fun z hz hk => ?_⟩
  · rw [hx1]
    show valX x = _
    unfold valX
    rw [hv]
  · rw [hv] at ho
    exact ho
  · have h9 := rows_apart hD.2.2.2 hx1 hz hk
    rw [hv] at h9
    exact h9
set_option maxHeartbeats 8000000 in
theorem renameFolderI (w : World) (M : Nat) (a : Option Addr) (n c : Nat) (nx : Int) (u : ByteArray) (S : SM) (k : Nat) (hS : StAt w M a n c nx u S k) (f tf : ByteArray) (hfz : f.size ≤ 1000) (htz : tf.size ≤ 1000) (hu : u.size ≤ 1000) (n0 : 0 ≤ nx) (n1 : nx ≤ 10000) (q nx' : Int) (S' : SM) (HQ : Hid (rnM nx S f tf = (q, nx', S'))) :
    Calls Tryz.prog 31 #[.pointer (some ⟨M + 1, 0, none⟩), .string f, .string tf] w fun e w' => e = .returned (.int .i64 q) ∧ StAt w' M a n c nx' u S' k ∧ Below M w w' := by
  have hq9 := HQ.out
  unfold rnM at hq9
  have AL : Below w.heap.size w (w.alloc (.cells #[.string f] 9)) := (Below.refl _ _).alloc (Nat.le_refl _) _
  have HST : Hid (StAt (w.alloc (.cells #[.string f] 9)) M a n c nx u S k) := hS.later AL
  have hM : M ≤ w.heap.size := by
    obtain ⟨_, _, hD, _⟩ := hS
    have h9 : M + 1 < w.heap.size := World.block_lt_of_cell? _ _ (hD.1 0 _ rfl).1
    omega
  have HAL : Hid (Below w.heap.size w (w.alloc (.cells #[.string f] 9))) := AL
  obtain ⟨lq, hlq⟩ : ∃ x, lackM S.word S.fs [f] = x := ⟨_, rfl⟩
  have CL := lacksI (w.alloc (.cells #[.string f] 9)) M a n c nx u S k HST.out hu (some ⟨w.heap.size, 0, none⟩) 1 1 [f] rfl (by omega) (fun s hs => by rw [List.mem_singleton.1 hs]; omega) (src_1S rfl) lq hlq
  have hbad : ∀ z : Int, z ≠ 0 → lq = z → (q, nx', S') = (z, nx, S) → Calls Tryz.prog 31 #[.pointer (some ⟨M + 1, 0, none⟩), .string f, .string tf] w fun e w' => e = .returned (.int .i64 q) ∧ StAt w' M a n c nx' u S' k ∧ Below M w w' := by
    intro z hz hl he
    cases he
    subst hl
    have hzi : (lq != 0) = true := by simpa using hz
    clear HQ hq9 hlq hS AL
    go_enter Tryz.func31, Tryz.ntmps31
    go_wp2_with fail
    refine CL.mono ?_
    rintro e w1 ⟨rfl, hb1⟩
    have HF : Hid (StAt w1 M a n c nx u S k ∧ Below M w w1) := ⟨HST.out.later hb1, (HAL.out.trans (hb1.mono HAL.out.size)).mono hM⟩
    clear CL hb1
    go_wp2_with fail
    go_ret
    exact ⟨rfl, HF.out.1, HF.out.2⟩
  by_cases hw : S.word.toList = []
  · rw [if_pos hw] at hq9
    exact hbad 15 (by decide) (by rw [← hlq]; unfold lackM; rw [if_pos hw]) hq9.symm
  rw [if_neg hw] at hq9
  cases hl : lookF f S.fs with
  | none =>
    rw [hl] at hq9
    exact hbad 16 (by decide) (by rw [← hlq]; unfold lackM; rw [if_neg hw, if_pos (by show ((lookF f S.fs).isSome && true) = false; rw [hl]; rfl)]) hq9.symm
  | some g =>
  rw [hl, rnO_some] at hq9
  obtain rfl : 0 = lq := by rw [← hlq]; unfold lackM; rw [if_neg hw, if_neg (by show ¬ ((lookF f S.fs).isSome && true) = false; rw [hl]; simp)]
  clear hbad hlq
  by_cases hi : f = inboxT
  · rw [if_pos hi] at hq9
    cases hq9
    have hib : (f.toList == [105, 110, 98, 111, 120]) = true := by rw [hi, ByteArray.toList_eq]; rfl
    clear HQ hS AL hi hl hw
    go_enter Tryz.func31, Tryz.ntmps31
    go_wp2_with fail
    refine CL.mono ?_
    rintro e w1 ⟨rfl, hb1⟩
    have HF : Hid (StAt w1 M a n c nx u S k ∧ Below M w w1) := ⟨HST.out.later hb1, (HAL.out.trans (hb1.mono HAL.out.size)).mono hM⟩
    clear CL hb1
    go_wp2_with fail
    go_ret
    exact ⟨rfl, HF.out.1, HF.out.2⟩
  rw [if_neg hi] at hq9
  have hib : (f.toList == [105, 110, 98, 111, 120]) = false := by
    refine beq_eq_false_iff_ne.2 fun e => hi ?_
    refine bs_inj ?_
    rw [← ByteArray.toList_eq, e]
  obtain ⟨tb, htb⟩ : ∃ t, (lookF tf S.fs).isSome = t := ⟨_, rfl⟩
  rw [htb] at hq9
  have HTB : Hid ((lookF tf S.fs).isSome = tb) := htb
  have HLS : Hid (lookF f S.fs = some g) := hl
  have HQ9 : Hid ((if tb = true then (9, nx, S) else if 9999 < nx then (6, nx, (⟨S.aside, S.word, dropF f S.fs⟩ : SM)) else (0, nx + 1, ⟨S.aside, S.word, putF ⟨tf, nx, g.next, g.mails⟩ (dropF f S.fs)⟩)) = (q, nx', S')) := hq9
  clear HQ hS AL hi hl hw htb hq9
  go_enter Tryz.func31, Tryz.ntmps31
  go_wp2_with fail
  refine CL.mono ?_
  rintro e w1 ⟨rfl, hb1⟩
  have B1 : Hid (Below M w w1) := (HAL.out.trans (hb1.mono HAL.out.size)).mono hM
  obtain ⟨va, X, hD, hV, hN, hf, hk⟩ := HST.out.later hb1
  have CH := hasI tf w1 M _ (by omega) (by show u.size ≤ 1048576; omega) hD tb (hV.some tf tb HTB.out)
  have HVN : Hid (View u X S.fs ∧ (S.fs.map (·.name)).Nodup ∧ (∀ f ∈ S.fs, 1 ≤ f.next ∧ f.next ≤ 999 ∧ f.mails.length ≤ k) ∧ S.aside.length ≤ k) := ⟨hV, hN, hf, hk⟩
  have HD1 : Hid (DeskAt w1 M ⟨a, n, c, va, S.aside, nx, u, S.word, X⟩) := hD
  clear hD hV hN hf hk CL hb1 HST HAL
  go_wp2_with fail
  refine CH.mono ?_
  rintro e w2 ⟨rfl, hb2⟩
  have hM1 : M ≤ w1.heap.size := by
    have h9 : M + 1 < w1.heap.size := World.block_lt_of_cell? _ _ (HD1.out.1 0 _ rfl).1
    omega
  have B2 : Hid (Below M w w2) := B1.out.trans (hb2.mono hM1)
  have HD2 : Hid (DeskAt w2 M ⟨a, n, c, va, S.aside, nx, u, S.word, X⟩) := HD1.out.later hb2
  clear hb2 CH HD1 hM1
  cases tb with
  | true =>
    have HF : Hid (StAt w2 M a n c nx u S k ∧ Below M w w2) := ⟨⟨va, X, HD2.out, HVN.out⟩, B2.out⟩
    have hq := HQ9.out
    rw [if_pos rfl] at hq
    cases hq
    go_wp2_with fail
    go_ret
    exact ⟨rfl, HF.out.1, HF.out.2⟩
  | false =>
  have HQ8 : Hid ((if 9999 < nx then (6, nx, (⟨S.aside, S.word, dropF f S.fs⟩ : SM)) else (0, nx + 1, ⟨S.aside, S.word, putF ⟨tf, nx, g.next, g.mails⟩ (dropF f S.fs)⟩)) = (q, nx', S')) := by have h9 := HQ9.out; rw [if_neg (by decide)] at h9; exact h9
  clear HQ9
  obtain ⟨ax, cx, hat, hown, hap⟩ := at_some HD2.out HVN.out.1 HLS.out
  have CT := atI f w2 M ⟨a, n, c, va, S.aside, nx, u, S.word, X⟩ (by omega) (by show u.size ≤ 1048576; omega) HD2.out
  have CT2 : Calls Tryz.prog 37 #[.pointer (some ⟨M + 1, 0, none⟩), .string f] w2 fun e w' => e = .returned (.agg #[.string g.name, .int .i64 g.val, .int .i64 g.next, .slice ax g.mails.length cx]) ∧ Below w2.heap.size w2 w' := by rw [← hat]; exact CT
  have hgb : 1 ≤ g.next ∧ g.next ≤ 999 ∧ g.mails.length ≤ k := HVN.out.2.2.1 g (lookF_mem HLS.out).1
  have HGB : Hid (1 ≤ g.next ∧ g.next ≤ 999 ∧ g.mails.length ≤ k) := hgb
  have HAP : Hid (∀ z ∈ X, z.k ≠ folderK u f → ∀ y, z.v.ownBlock = some y → Value.ownBlock (.slice ax g.mails.length cx) ≠ some y) := hap
  obtain ⟨ml, hml⟩ : ∃ t, g.mails.length = t := ⟨_, rfl⟩
  obtain ⟨gn, hgn⟩ : ∃ t, g.next = t := ⟨_, rfl⟩
  obtain ⟨gv, hgv⟩ : ∃ t, g.val = t := ⟨_, rfl⟩
  obtain ⟨nm, hnm⟩ : ∃ t, g.name = t := ⟨_, rfl⟩
  have HML : Hid (g.mails.length = ml) := hml
  have HGN : Hid (g.next = gn) := hgn
  rw [hml, hgn, hgv, hnm] at CT2
  rw [hml] at hown
  rw [hml] at HAP
  have HO2 : Hid (w2.ownsRow (M + 2) 62 3 (.slice ax ml cx) ml (cellsMl g.mails)) := hown
  clear hat hown hap CT hgb hml hgn hgv hnm
  go_wp2_with fail
  refine CT2.mono ?_
  rintro e w3 ⟨rfl, hb3⟩
  have hM2 : M + 2 ≤ w2.heap.size := by
    have h9 : M + 1 < w2.heap.size := World.block_lt_of_cell? _ _ (HD2.out.1 0 _ rfl).1
    omega
  obtain ⟨w4, hw4⟩ : ∃ W, w3.alloc (.cells #[.string tf, .int .i64 gv, .int .i64 gn, .slice ax ml cx] 59) = W := ⟨_, rfl⟩
  have A4 : Below w3.heap.size w3 w4 := by rw [← hw4]; exact (Below.refl _ _).alloc (Nat.le_refl _) _
  have B24 : Below w2.heap.size w2 w4 := hb3.trans (A4.mono hb3.size)
  have HD4 : DeskAt w4 M ⟨a, n, c, va, S.aside, nx, u, S.word, X⟩ := HD2.out.later B24
  have HO4 : w4.ownsRow (M + 2) 62 3 (.slice ax ml cx) ml (cellsMl g.mails) := own_below HO2.out B24
  have X4 : Box w4 w3.heap.size [.string tf, .int .i64 gv, .int .i64 gn, .slice ax ml cx] := by rw [← hw4]; exact Box.new rfl
  have B4 : Hid (Below M w w4) := B2.out.trans (B24.mono (by omega))
  have hne : w3.heap.size ≠ M := by
    have h9 := hb3.size
    omega
  have CD := dropI f w4 M _ (by omega) (by show u.size ≤ 1048576; omega) HD4 (HVN.out.1.some f true (by rw [HLS.out]; rfl))
  have HX4 : Hid (Box w4 w3.heap.size [.string tf, .int .i64 gv, .int .i64 gn, .slice ax ml cx] ∧ w4.ownsRow (M + 2) 62 3 (.slice ax ml cx) ml (cellsMl g.mails) ∧ w3.heap.size ≠ M) := ⟨X4, HO4, hne⟩
  clear hb3 A4 B24 HD4 HO4 X4 hne CT2 HO2 HD2 hM2
  go_wp2_with fail
  refine CD.mono ?_
  rintro e w5 ⟨rfl, hd5, hb5, hown5, hbox5⟩
  have B5 : Hid (Below M w w5) := B4.out.trans hb5
  have X5 : Hid (Box w5 w3.heap.size [.string tf, .int .i64 gv, .int .i64 gn, .slice ax ml cx]) := hbox5 _ _ HX4.out.2.2 HX4.out.1
  have CF := freshI tf gv gn ax ml cx g.mails HML.out w5 M a n c va S.aside nx u S.word (dropX (folderK u f) X) (dropF f S.fs) hd5 HVN.out.1.drop (HVN.out.2.1.sublist ((dropF_sub f S.fs).map _)) hu htz n0 n1 (hown5 _ _ _ _ _ HX4.out.2.1) (fun z hz _ y hy => HAP.out z ((dropX_sub _ X).subset hz) (drop_keys HVN.out.1 HVN.out.2.1 z hz) y hy)
  obtain ⟨x50, _⟩ := X5.out 0 _ rfl
  obtain ⟨x51, _⟩ := X5.out 1 _ rfl
  obtain ⟨x52, _⟩ := X5.out 2 _ rfl
  obtain ⟨x53, _⟩ := X5.out 3 _ rfl
  clear hd5 hb5 hown5 hbox5 CD HX4 hw4
  go_wp2_with fail
  refine CF.mono ?_
  rintro e w6 ⟨hb6, ⟨h9, rfl, hd6⟩ | ⟨h9, rfl, X', hd6, hv6⟩⟩
  · have HF : Hid (StAt w6 M a n c nx u ⟨S.aside, S.word, dropF f S.fs⟩ k ∧ Below M w w6) := ⟨⟨va, _, hd6, HVN.out.1.drop, HVN.out.2.1.sublist ((dropF_sub f S.fs).map _), fun x hx => HVN.out.2.2.1 x ((dropF_sub f S.fs).subset hx), HVN.out.2.2.2⟩, B5.out.trans hb6⟩
    have hq := HQ8.out
    rw [if_pos h9] at hq
    cases hq
    clear CF hd6 hb6 HQ8
    go_wp2_with fail
    go_ret
    exact ⟨rfl, HF.out.1, HF.out.2⟩
  · have HF : Hid (StAt w6 M a n c (nx + 1) u ⟨S.aside, S.word, putF ⟨tf, nx, g.next, g.mails⟩ (dropF f S.fs)⟩ k ∧ Below M w w6) := by
      have e9 := HGN.out
      rw [← e9] at hv6
      exact ⟨st_putG hd6 hv6 (HVN.out.2.1.sublist ((dropF_sub f S.fs).map _)) (fun x hx => HVN.out.2.2.1 x ((dropF_sub f S.fs).subset hx)) HGB.out HVN.out.2.2.2, B5.out.trans hb6⟩
    have hq := HQ8.out
    rw [if_neg (by omega)] at hq
    cases hq
    clear CF hd6 hb6 HQ8 hv6
    go_wp2_with fail
    go_ret
    exact ⟨rfl, HF.out.1, HF.out.2⟩
end Go.Proofs.YtbpgncgmolpkiaaGreatDoor
namespace Go.Proofs.YtbpgncgmolpkiaaGreatDoor
open Go.ChangeShapes Go.WideShapes Go.ChangeAt Go.RowKit Go.Deep Go.Lib
set_option linter.unusedVariables false
set_option linter.unusedSimpArgs false
set_option maxRecDepth 100000

theorem src_3S {w : World} {s t r : ByteArray} {B ty : Nat} (hB : B = w.heap.size) : Src (w.alloc (.cells #[.string s, .string t, .string r] ty)) (some ⟨B, 0, none⟩) (cellsS [s, t, r]) := by
  have hb : Box (w.alloc (.cells #[.string s, .string t, .string r] ty)) B [.string s, .string t, .string r] := Box.new hB
  refine .inr ⟨B, 0, rfl, fun j hj => ?_⟩
  have hj4 : j < 3 := hj
  rw [Nat.zero_add]
  match j, hj4 with
  | 0, _ => exact (hb 0 _ rfl).1
  | 1, _ => exact (hb 1 _ rfl).1
  | 2, _ => exact (hb 2 _ rfl).1
theorem ask_zero3 {L : List PM} {x y z : ByteArray} (h : askM L [x, y, z] = 0) : storeB L = true ∧ shortB x = true ∧ shortB y = true ∧ shortB z = true := by
  unfold askM at h
  split at h
  · cases h
  · split at h
    · cases h
    · rename_i h1
      split at h
      · cases h
      · rename_i h2
        refine ⟨by simpa using h1, ?_⟩
        simpa using h2
theorem rnR_len {L : List PM} {u f tf : ByteArray} (h : storeB L = true) (hsu : shortB u = true) (hsf : shortB f = true) (hst : shortB tf = true) : (rnR L u f tf).1.length ≤ 4000 := by
  have hus := word_slash hsu
  obtain ⟨S, hS, _, _⟩ := take_all h hus
  obtain ⟨q, nx', S', hq⟩ : ∃ q nx' S', rnM (nextM L) S f tf = (q, nx', S') := ⟨_, _, _, rfl⟩
  have hf := rn_fits h hsu hsf hst hS hq
  have h60 := (store_facts h).1.1
  by_cases e : q = 0
  · obtain ⟨_, _, _, Y, _, _, h4, h5⟩ := hf.2 e
    rw [h5]
    unfold fitsR
    split
    · show L.length ≤ 4000; omega
    · exact h4
  · rw [hf.1 e]
    show L.length ≤ 4000
    omega
set_option maxHeartbeats 2000000 in
theorem specRenameFolder (a : Option Addr) (n c : Nat) (L : List PM) (x y z : ByteArray) (w : World) (hL : L.length = n) (hn : n ≤ 1048576) (hc : n ≤ c) (hc9 : c ≤ maxLen) (hs : ∀ x ∈ L, x.1.size ≤ 1048576 ∧ x.2.size ≤ 1048576) (h : Src w a (cellsP L)) (hx : x.size ≤ 1048576) (hy : y.size ≤ 1048576) (hz : z.size ≤ 1048576) (R : List PM) (Q : Int) (HQ : Hid (lawM2 (rnR L x y z) (askM L [x, y, z]) = (R, Q))) :
    Calls Tryz.prog 8 #[.slice a n c, .string x, .string y, .string z] w fun e w' => ∃ v, e = .returned (.tuple #[v, .int .i64 Q]) ∧ w'.ownsRow w.heap.size 47 2 v R.length (cellsP R) ∧ Below w.heap.size w w' := by
  have HLN : Hid (L.length = n) := hL
  have HS : Hid (Src w a (cellsP L)) := h
  have AL : Hid (Below w.heap.size w (w.alloc (.cells #[.string x, .string y, .string z] 9))) := (Below.refl _ _).alloc (Nat.le_refl _) _
  obtain ⟨q, hq⟩ : ∃ q, askM L [x, y, z] = q := ⟨_, rfl⟩
  have HQQ : Hid (askM L [x, y, z] = q) := hq
  have HQ1 : Hid (lawM2 (rnR L x y z) q = (R, Q)) := by show _ = _; rw [← hq]; exact HQ.out
  have CA := l07AskS a n c L (some ⟨w.heap.size, 0, none⟩) 3 3 [x, y, z] (w.alloc (.cells #[.string x, .string y, .string z] 9)) hL hn hs (HS.out.below AL.out) rfl (by omega) (fun s hs => by
    rcases List.mem_cons.1 hs with rfl | hs
    · exact hx
    · rcases List.mem_cons.1 hs with rfl | hs
      · exact hy
      · rw [List.mem_singleton.1 hs]; exact hz) (src_3S rfl) q hq
  have EM : Hid ((w.alloc (.cells #[] 47)).ownsRow w.heap.size 47 2 (.slice (some ⟨w.heap.size, 0, none⟩) 0 0) ([] : List PM).length (cellsP []) ∧ Below w.heap.size w (w.alloc (.cells #[] 47))) := ⟨own_empty rfl (Nat.le_refl _), (Below.refl _ _).alloc (Nat.le_refl _) _⟩
  have HBAD : Hid (q = 2 → [] = R ∧ 2 = Q) := fun h9 => by
    have h7 := HQ1.out
    unfold lawM2 at h7
    rw [h9, if_neg (by decide)] at h7
    cases h7
    exact ⟨rfl, rfl⟩
  clear hL h hs hq HQ
  by_cases h1 : 4096 < n
  · have h1i : (4096 : Int) < (n : Int) := by omega
    obtain ⟨rfl, rfl⟩ := HBAD.out (by rw [← HQQ.out]; unfold askM; rw [if_pos (.inl (by rw [HLN.out]; exact h1))])
    go_enter Tryz.func8, Tryz.ntmps8
    go_wp2_with fail
    exact bodyPost_ret (v := .tuple #[.slice (some ⟨w.heap.size, 0, none⟩) 0 0, .int .i64 2]) (by simp [results, Tryz.results8, go_sem]) rfl ⟨_, rfl, EM.out⟩
  have h1i : ¬ (4096 : Int) < (n : Int) := by omega
  by_cases h2 : 65536 < x.size
  · have h2i : (65536 : Int) < (x.size : Int) := by omega
    obtain ⟨rfl, rfl⟩ := HBAD.out (by
      rw [← HQQ.out]
      unfold askM
      rw [if_pos (.inr (by show (smallT x && _) = false; rw [show smallT x = false from decide_eq_false (by omega)]; rfl))])
    go_enter Tryz.func8, Tryz.ntmps8
    go_wp2_with fail
    exact bodyPost_ret (v := .tuple #[.slice (some ⟨w.heap.size, 0, none⟩) 0 0, .int .i64 2]) (by simp [results, Tryz.results8, go_sem]) rfl ⟨_, rfl, EM.out⟩
  have h2i : ¬ (65536 : Int) < (x.size : Int) := by omega
  by_cases h3 : 65536 < y.size
  · have h3i : (65536 : Int) < (y.size : Int) := by omega
    obtain ⟨rfl, rfl⟩ := HBAD.out (by
      rw [← HQQ.out]
      unfold askM
      rw [if_pos (.inr (by show (smallT x && (smallT y && (smallT z && true))) = false; rw [show smallT y = false from decide_eq_false (by omega)]; simp))])
    go_enter Tryz.func8, Tryz.ntmps8
    go_wp2_with fail
    exact bodyPost_ret (v := .tuple #[.slice (some ⟨w.heap.size, 0, none⟩) 0 0, .int .i64 2]) (by simp [results, Tryz.results8, go_sem]) rfl ⟨_, rfl, EM.out⟩
  have h3i : ¬ (65536 : Int) < (y.size : Int) := by omega
  by_cases h4 : 65536 < z.size
  · have h4i : (65536 : Int) < (z.size : Int) := by omega
    obtain ⟨rfl, rfl⟩ := HBAD.out (by
      rw [← HQQ.out]
      unfold askM
      rw [if_pos (.inr (by show (smallT x && (smallT y && (smallT z && true))) = false; rw [show smallT z = false from decide_eq_false (by omega)]; simp))])
    go_enter Tryz.func8, Tryz.ntmps8
    go_wp2_with fail
    exact bodyPost_ret (v := .tuple #[.slice (some ⟨w.heap.size, 0, none⟩) 0 0, .int .i64 2]) (by simp [results, Tryz.results8, go_sem]) rfl ⟨_, rfl, EM.out⟩
  have h4i : ¬ (65536 : Int) < (z.size : Int) := by omega
  by_cases hq0 : q = 0
  · subst hq0
    obtain ⟨hst, hsx, hsy, hsz⟩ := ask_zero3 HQQ.out
    obtain ⟨hgl, nx0, hnm, n1, _⟩ := store_facts hst
    obtain ⟨b, o, rfl⟩ := store_src hst HS.out
    have zx := short_size' hsx
    have zy := short_size' hsy
    have zz := short_size' hsz
    have HQ2 : Hid (rnR L x y z = (R, Q)) := by have h9 := HQ1.out; unfold lawM2 at h9; rw [if_pos rfl] at h9; exact h9
    have CI := fun W (hW : Below w.heap.size w W) => l07RenameS b o n c L HLN.out hc hc9 hgl hst x y z hsx hsy hsz (by omega) W (HS.out.below hW) R Q HQ2.out
    have hln : R.length ≤ 4000 := by
      have h9 := rnR_len hst hsx hsy hsz
      rw [HQ2.out] at h9
      exact h9
    clear hst hsx hsy hsz hgl HQ1 HBAD hnm n1
    go_enter Tryz.func8, Tryz.ntmps8
    go_wp2_with fail
    refine CA.mono ?_
    rintro e w3 ⟨rfl, hb3⟩
    have B3 : Hid (Below w.heap.size w w3) := AL.out.trans (hb3.mono AL.out.size)
    have CI3 := CI w3 B3.out
    clear hb3 CA CI
    go_wp2_with fail
    refine CI3.mono ?_
    rintro e w4 ⟨a4, n4, c4, rfl, k1, k2, hb4⟩
    have B4 : Hid (Below w.heap.size w w4) := B3.out.trans (hb4.mono B3.out.size)
    have CO := l07OwnS a4 n4 c4 R w4 k1 (by omega) k2
    have HN4 : Hid (R.length = n4) := k1
    clear hb4 CI3 k1 k2
    go_wp2_with fail
    refine CO.mono ?_
    rintro e w5 ⟨v5, rfl, ho5, hb5⟩
    obtain ⟨a5, c5, rfl, _, _⟩ := own_src ho5
    have HF : Hid (w5.ownsRow w.heap.size 47 2 (.slice a5 n4 c5) R.length (cellsP R) ∧ Below w.heap.size w w5) := ⟨by rw [HN4.out]; exact own_mono ho5 B4.out.size, B4.out.trans (hb5.mono B4.out.size)⟩
    clear ho5 hb5 CO
    go_wp2_with fail
    exact bodyPost_ret (v := .tuple #[.slice a5 n4 c5, .int .i64 Q]) (by simp [results, Tryz.results8, go_sem]) rfl ⟨_, rfl, HF.out⟩
  · obtain ⟨rfl, rfl⟩ : [] = R ∧ q = Q := by
      have h9 := HQ1.out
      unfold lawM2 at h9
      rw [if_neg hq0] at h9
      cases h9
      exact ⟨rfl, rfl⟩
    have hqi : (q != 0) = true := by simpa using hq0
    go_enter Tryz.func8, Tryz.ntmps8
    go_wp2_with fail
    refine CA.mono ?_
    rintro e w3 ⟨rfl, hb3⟩
    have B3 : Hid (Below w.heap.size w w3) := AL.out.trans (hb3.mono AL.out.size)
    have EM3 : Hid ((w3.alloc (.cells #[] 47)).ownsRow w.heap.size 47 2 (.slice (some ⟨w3.heap.size, 0, none⟩) 0 0) ([] : List PM).length (cellsP []) ∧ Below w.heap.size w (w3.alloc (.cells #[] 47))) := ⟨own_empty rfl B3.out.size, B3.out.alloc B3.out.size _⟩
    clear hb3 CA
    go_wp2_with fail
    exact bodyPost_ret (v := .tuple #[.slice (some ⟨w3.heap.size, 0, none⟩) 0 0, .int .i64 q]) (by simp [results, Tryz.results8, go_sem]) rfl ⟨_, rfl, EM3.out⟩
set_option maxHeartbeats 2000000 in
theorem implRenameFolder (a : Option Addr) (n c : Nat) (L : List PM) (x y z : ByteArray) (w : World) (hL : L.length = n) (hn : n ≤ 1048576) (hs : ∀ x ∈ L, x.1.size ≤ 1048576 ∧ x.2.size ≤ 1048576) (h : Src w a (cellsP L)) (hx : x.size ≤ 1048576) (hy : y.size ≤ 1048576) (hz : z.size ≤ 1048576) (hG : Gl w) (h8 : 8 ≤ w.heap.size) (R : List PM) (Q : Int) (HQ : Hid (lawM2 (rnR L x y z) (askM L [x, y, z]) = (R, Q))) :
    Calls Tryz.prog 10 #[.slice a n c, .string x, .string y, .string z] w fun e w' => ∃ v, e = .returned (.tuple #[v, .int .i64 Q]) ∧ w'.ownsRow w.heap.size 47 2 v R.length (cellsP R) ∧ Below w.heap.size w w' := by
  have HLN : Hid (L.length = n) := hL
  have HS : Hid (Src w a (cellsP L)) := h
  have HG : Hid (Gl w) := hG
  have AL : Hid (Below w.heap.size w (w.alloc (.cells #[.string x, .string y, .string z] 9))) := (Below.refl _ _).alloc (Nat.le_refl _) _
  obtain ⟨q, hq⟩ : ∃ q, askM L [x, y, z] = q := ⟨_, rfl⟩
  have HQQ : Hid (askM L [x, y, z] = q) := hq
  have HQ1 : Hid (lawM2 (rnR L x y z) q = (R, Q)) := by show _ = _; rw [← hq]; exact HQ.out
  have CA := mailFaultI a n c L (some ⟨w.heap.size, 0, none⟩) 3 3 [x, y, z] (w.alloc (.cells #[.string x, .string y, .string z] 9)) hL hn hs (HS.out.below AL.out) rfl (by omega) (fun s hs => by
    rcases List.mem_cons.1 hs with rfl | hs
    · exact hx
    · rcases List.mem_cons.1 hs with rfl | hs
      · exact hy
      · rw [List.mem_singleton.1 hs]; exact hz) (src_3S rfl) (hG.below h8 AL.out) (by have := AL.out.size; omega) q hq
  clear hL h hs hq HQ hG
  by_cases hq0 : q = 0
  · subst hq0
    obtain ⟨hst, hsx, hsy, hsz⟩ := ask_zero3 HQQ.out
    have hus := word_slash hsx
    have hu8 := short_size hsx
    have hy8 := short_size hsy
    have hz8 := short_size hsz
    obtain ⟨hgl, nx0, hnm, n1, n2, _⟩ := store_facts hst
    have hn60 := hgl.1
    rw [HLN.out] at hn60
    have HQ2 : Hid (rnR L x y z = (R, Q)) := by have h9 := HQ1.out; unfold lawM2 at h9; rw [if_pos rfl] at h9; exact h9
    have CD := fun W (hW : Below w.heap.size w W) => deskWithI a n c L x W HLN.out (HS.out.below hW) (HG.out.below h8 hW) (by have := hW.size; omega) hst hus (by omega)
    have HFI : Hid (∀ S S' q nx', takeAll (nextM L) x S0 L = some S → rnM (nextM L) S y z = (q, nx', S') → OpFits L x q nx' S' (rnR L x y z)) := fun S S' q nx' k1 k2 => rn_fits hst hsx hsy hsz k1 k2
    rw [hnm] at n1 n2
    obtain ⟨nx, hnx⟩ : ∃ t, nextM L = t := ⟨_, rfl⟩
    simp only [hnx] at CD HFI n1 n2
    clear hst hsx hsy hsz HQ1 hgl hnm hnx
    go_enter Tryz.func10, Tryz.ntmps10
    go_wp2_with fail
    refine CA.mono ?_
    rintro e w3 ⟨rfl, hb3⟩
    have B3 : Hid (Below w.heap.size w w3) := AL.out.trans (hb3.mono AL.out.size)
    clear hb3 CA
    go_wp2_with fail
    refine (CD _ B3.out).mono ?_
    rintro e w4 ⟨M, S, rfl, hS, hSt, hM, hb4⟩
    have B4 : Hid (Below w.heap.size w w4) := B3.out.trans (hb4.mono B3.out.size)
    have hM2 : w.heap.size ≤ M := by have h9 := B3.out.size; omega
    obtain ⟨q1, nx1, S1, hop⟩ : ∃ q1 nx1 S1, rnM nx S y z = (q1, nx1, S1) := ⟨_, _, _, rfl⟩
    have HOF : Hid (OpFits L x q1 nx1 S1 (rnR L x y z)) := HFI.out S S1 q1 nx1 hS hop
    have COP := renameFolderI w4 M a n c nx x S n hSt y z (by omega) (by omega) (by omega) (by omega) n2 q1 nx1 S1 hop
    clear hb4 hS hSt CD hM hop HFI
    go_wp2_with fail
    refine COP.mono ?_
    rintro e w5 ⟨rfl, hst5, hb5⟩
    have B5 : Hid (Below w.heap.size w w5) := B4.out.trans (hb5.mono hM2)
    have HST5 : Hid (StAt w5 M a n c nx1 x S1 n) := hst5
    clear COP hb5 hst5
    by_cases hq1 : q1 = 0
    · subst hq1
      obtain ⟨k1, k2, k3, Y, k4, k5, k6, k7⟩ := HOF.out.2 rfl
      rw [HQ2.out] at k7
      have CE := doneOk w5 M a n c nx1 x S1 n HST5.out (by omega) k1 k2 k3 (by omega) (HG.out.below h8 B5.out) (by omega) Y k4 k5 _ rfl k6 L HLN.out hn60 (HS.out.below B5.out) R Q (by show _ = _; rw [k7]; rfl)
      clear k1 k2 k3 k4 k5 k6 k7 HOF
      go_wp2_with fail
      refine CE.mono ?_
      rintro e w6 ⟨v6, rfl, ho6, hb6⟩
      obtain ⟨a6, c6, rfl, _, _⟩ := own_src ho6
      have HF : Hid (w6.ownsRow w.heap.size 47 2 (.slice a6 R.length c6) R.length (cellsP R) ∧ Below w.heap.size w w6) := ⟨own_mono ho6 B5.out.size, B5.out.trans (hb6.mono B5.out.size)⟩
      clear CE ho6 hb6
      go_wp2_with fail
      exact bodyPost_ret (v := .tuple #[.slice a6 R.length c6, .int .i64 Q]) (by simp [results, Tryz.results10, go_sem]) rfl ⟨_, rfl, HF.out⟩
    · have k7 := HOF.out.1 hq1
      rw [HQ2.out] at k7
      obtain ⟨hk1, hk2⟩ : R = L ∧ Q = q1 := by cases k7; exact ⟨rfl, rfl⟩
      have e0c : w5.cell? ⟨M + 1, 0, none⟩ = some (.slice a n c) := by
        obtain ⟨_, _, hD, _⟩ := HST5.out
        exact (hD.1 0 _ rfl).1
      have CE := doneBad q1 hq1 w5 M a n c L HLN.out hn60 e0c (HS.out.below B5.out)
      have HK : Hid (R = L ∧ q1 = Q) := ⟨hk1, hk2.symm⟩
      clear k7 HOF hk1 hk2 e0c
      go_wp2_with fail
      refine CE.mono ?_
      rintro e w6 ⟨v6, rfl, ho6, hb6⟩
      obtain ⟨a6, c6, rfl, _, _⟩ := own_src ho6
      have HF : Hid (w6.ownsRow w.heap.size 47 2 (.slice a6 n c6) R.length (cellsP R) ∧ Below w.heap.size w w6) := ⟨by rw [HK.out.1, HLN.out]; exact own_mono ho6 B5.out.size, B5.out.trans (hb6.mono B5.out.size)⟩
      have HK2 : Hid (q1 = Q) := HK.out.2
      clear CE ho6 hb6
      go_wp2_with fail
      exact bodyPost_ret (v := .tuple #[.slice a6 n c6, .int .i64 q1]) (by simp [results, Tryz.results10, go_sem]) rfl ⟨_, by rw [HK2.out], HF.out⟩
  · obtain ⟨rfl, rfl⟩ : [] = R ∧ q = Q := by
      have h9 := HQ1.out
      unfold lawM2 at h9
      rw [if_neg hq0] at h9
      cases h9
      exact ⟨rfl, rfl⟩
    have hqi : (q != 0) = true := by simpa using hq0
    go_enter Tryz.func10, Tryz.ntmps10
    go_wp2_with fail
    refine CA.mono ?_
    rintro e w3 ⟨rfl, hb3⟩
    have B3 : Hid (Below w.heap.size w w3) := AL.out.trans (hb3.mono AL.out.size)
    clear hb3 CA
    go_wp2_with fail
    exact bodyPost_ret (v := .tuple #[.slice none 0 0, .int .i64 q]) (by simp [results, Tryz.results10, go_sem]) rfl ⟨_, rfl, World.ownsRow_nil _ _ _ _, B3.out⟩
end Go.Proofs.YtbpgncgmolpkiaaGreatDoor
namespace Go.Proofs.YtbpgncgmolpkiaaGreatDoor
open Go.ChangeShapes Go.WideShapes Go.ChangeAt Go.RowKit Go.Deep Go.Lib
set_option linter.unusedVariables false
theorem specRenameFolderL (a : Option Addr) (n c : Nat) (L : List PM) (x y z : ByteArray) (w : World) (hL : L.length = n) (hn : n ≤ 1048576) (hs : ∀ x ∈ L, x.1.size ≤ 1048576 ∧ x.2.size ≤ 1048576) (hcc : n ≤ c ∧ c ≤ maxLen) (hx : x.size ≤ 1048576) (hy : y.size ≤ 1048576) (hz : z.size ≤ 1048576) (h : Src w a (cellsP L)) :
    Calls Tryz.prog 8 #[.slice a n c, .string x, .string y, .string z] w fun e w' => ∃ v R q, e = .returned (.tuple #[v, .int .i64 q]) ∧ lawM2 (rnR L x y z) (askM L [x, y, z]) = (R, q) ∧ w'.ownsRow w.heap.size 47 2 v R.length (cellsP R) ∧ Below w.heap.size w w' :=
  (specRenameFolder a n c L x y z w hL hn hcc.1 hcc.2 hs h hx hy hz _ _ rfl).mono fun e w' ⟨v, h1, h2, h3⟩ => ⟨v, _, _, h1, rfl, h2, h3⟩
theorem implRenameFolderL (a : Option Addr) (n c : Nat) (L : List PM) (x y z : ByteArray) (w : World) (hL : L.length = n) (hn : n ≤ 1048576) (hs : ∀ x ∈ L, x.1.size ≤ 1048576 ∧ x.2.size ≤ 1048576) (hx : x.size ≤ 1048576) (hy : y.size ≤ 1048576) (hz : z.size ≤ 1048576) (hG : Gl w) (h8 : 8 ≤ w.heap.size) (h : Src w a (cellsP L)) :
    Calls Tryz.prog 10 #[.slice a n c, .string x, .string y, .string z] w fun e w' => ∃ v R q, e = .returned (.tuple #[v, .int .i64 q]) ∧ lawM2 (rnR L x y z) (askM L [x, y, z]) = (R, q) ∧ w'.ownsRow w.heap.size 47 2 v R.length (cellsP R) ∧ Below w.heap.size w w' :=
  (implRenameFolder a n c L x y z w hL hn hs h hx hy hz hG h8 _ _ rfl).mono fun e w' ⟨v, h1, h2, h3⟩ => ⟨v, _, _, h1, rfl, h2, h3⟩
theorem rnR_small {L R : List PM} {x y z : ByteArray} {q : Int} (h : lawM2 (rnR L x y z) (askM L [x, y, z]) = (R, q)) : R.length ≤ 1048576 := by
  unfold lawM2 at h
  split at h
  · rename_i h0
    obtain ⟨z1, z2, z3, z4⟩ := ask_zero3 h0
    have h9 := rnR_len z1 z2 z3 z4
    rw [h] at h9
    have h8 : R.length ≤ 4000 := h9
    omega
  · cases h; simp
end Go.Proofs.YtbpgncgmolpkiaaGreatDoor
