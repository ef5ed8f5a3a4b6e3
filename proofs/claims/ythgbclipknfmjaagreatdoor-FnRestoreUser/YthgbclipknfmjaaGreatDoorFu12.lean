/-
  Putc Dpq Nxw in one. By an AI agent.
-/
import Derived.Test.YthgbclipknfmjaaGreatDoorFu11
namespace Go.Proofs.YthgbclipknfmjaaGreatDoor
open Go.ChangeShapes Go.WideShapes Go.ChangeAt Go.RowKit Go.Deep
set_option linter.unusedVariables false
set_option maxRecDepth 100000

set_option maxHeartbeats 1000000 in
theorem l01PutC (b o n c : Nat) (f g : Nat → ByteArray) (key val : ByteArray) (p : Nat) (w : World) (hn : n ≤ 4096) (hc : n ≤ c) (hc9 : c ≤ maxLen) (hp : IsPlace f n key p) (h : Sp w (some ⟨b, o, none⟩) n f g) :
    Calls Tryz.prog 93 #[.slice (some ⟨b, o, none⟩) n c, .string key, .string val] w fun e w' => ∃ v, e = .returned v ∧ OwnsP w' w.heap.size v (putL f g n key val p) ∧ Below w.heap.size w w' := by
  by_cases hcn : c = n
  · subst hcn
    exact l01Put b o c f g key val p w hn hp h
  obtain ⟨i0, hi, hz0, hz1, hz2⟩ := infoPair'
  have HH : Hid (Sp w (some ⟨b, o, none⟩) n f g) := h
  have HP : Hid (IsPlace f n key p) := hp
  have HI : Hid (Tryz.prog.info? 68 = some i0) := hi
  have HZ0 : Hid (i0.zero = some (.agg #[.string ⟨#[]⟩, .string ⟨#[]⟩])) := hz0
  have HZ1 : Hid (i0.size = 2) := hz1
  have HZ2 : Hid (i0.bytes = 32) := hz2
  have hpn := hp.1
  have hlt9 : n < c := by omega
  unfold maxLen at hc9
  clear h hp hi hz0 hz1 hz2 hcn hc
  by_cases hlt : p < n
  · have hne : ¬ c = p := by omega
    have hi1 : (p : Int) < (n : Int) := by omega
    rcases HH.out with h0 | ⟨b', o', e, hc⟩
    · omega
    cases e
    obtain ⟨hc1, hc2⟩ := hc p hlt
    clear hc hc2
    cases hq : ((f p).toList == key.toList) with
    | false =>
      have HT : Hid (hitB f n key p = false) := by show hitB f n key p = false; unfold hitB; rw [hq, decide_eq_true hlt]; rfl
      have T0 : Hid (((listP f g n).take p).length = p) := by show ((listP f g n).take p).length = p; have := List.length_take (i := p) (l := listP f g n); rw [listP_length] at this; omega
      have T1 : Hid ((cellsP ((listP f g n).take p)).length = p * 2) := by show (cellsP ((listP f g n).take p)).length = p * 2; rw [cellsP_length, T0.out]
      have T5 : Hid (((listP f g n).drop p).length = (n - p)) := by show ((listP f g n).drop p).length = (n - p); have := List.length_drop (i := p) (l := listP f g n); rw [listP_length] at this; omega
      have T3 : Hid ((cellsP ((listP f g n).drop p)).length = (n - p) * 2) := by show (cellsP ((listP f g n).drop p)).length = (n - p) * 2; rw [cellsP_length, T5.out]
      have T4 : Hid (((listP f g n).take p ++ [(key, val)]).length = p + 1) := by show ((listP f g n).take p ++ [(key, val)]).length = p + 1; rw [List.length_append, T0.out]; rfl
      have Q1 : Hid (((listP f g n).take p).length + 1 ≤ maxLen) := by show ((listP f g n).take p).length + 1 ≤ maxLen; rw [T0.out]; unfold maxLen; omega
      have Q2 : Hid ((((listP f g n).take p).length + 1) * 32 ≤ 140737488355328) := by show (((listP f g n).take p).length + 1) * 32 ≤ 140737488355328; rw [T0.out]; omega
      have Q3 : Hid (((listP f g n).take p ++ [(key, val)]).length + (n - p) ≤ maxLen) := by show ((listP f g n).take p ++ [(key, val)]).length + (n - p) ≤ maxLen; rw [T4.out]; unfold maxLen; omega
      have Q4 : Hid ((((listP f g n).take p ++ [(key, val)]).length + (n - p)) * 32 ≤ 140737488355328) := by show (((listP f g n).take p ++ [(key, val)]).length + (n - p)) * 32 ≤ 140737488355328; rw [T4.out]; omega
      have S0 : Hid (SrcP w b o (listP f g n)) := src_of HH.out
      have N1 : Hid (∀ j u, (cellsP ((listP f g n).take p))[j]? = some u → (w.alloc (.cells #[] 68)).cell? ((⟨b, o, none⟩ : Addr).add j) = some u) := ((S0.out.take p).below ((Below.refl _ _).alloc (Nat.le_refl _) _)).news
      have N3 : Hid (SrcP w b (o + p * 2) ((listP f g n).drop p)) := S0.out.drop p
      have EL : Hid (putL f g n key val p = (listP f g n).take p ++ [(key, val)] ++ (listP f g n).drop p) := by show putL f g n key val p = _; unfold putL; rw [HT.out]; rfl
      go_enter Tryz.func93, Tryz.ntmps93
      go_wp2_with (first | (go_at_call 136; refine (l01At _ n c f g key p _ (by omega) HP.out HH.out).mono ?_; rintro e w' ⟨rfl, rfl⟩) | (at_builtin; refine wpList_append_own _ rfl (.tmp 41) (.tmp 42) 23 rfl w.heap.size 68 i0 (.agg #[.string ⟨#[]⟩, .string ⟨#[]⟩]) 2 32 Tryz.underlying23 HI.out HZ0.out HZ1.out HZ2.out rfl (by decide) _ _ _ rfl O2.out ⟨b, o + p * 2, none⟩ ((n - p)) (c - p) (cellsP ((listP f g n).drop p)) rfl T3.out (N3.out.below B2.out).news (cellsP_one _) Q3.out Q4.out B2.out.size ?_; intro v3 w3 hown3 hgrow3 _; have B3 : Hid (Below w.heap.size w w3) := B2.out.grown hgrow3 B2.out.size O2.out.block; have O3 : Hid (OwnsP w3 w.heap.size v3 ((listP f g n).take p ++ [(key, val)] ++ (listP f g n).drop p)) := OwnsP.more T5.out hown3; clear hown3 hgrow3) | (at_builtin; refine wpList_append_own _ rfl (.tmp 36) (.tmp 40) 23 rfl w.heap.size 68 i0 (.agg #[.string ⟨#[]⟩, .string ⟨#[]⟩]) 2 32 Tryz.underlying23 HI.out HZ0.out HZ1.out HZ2.out rfl (by decide) _ _ _ rfl (O1.out.alloc _) ⟨w1.heap.size, 0, none⟩ 1 1 [.string key, .string val] rfl rfl (two_newP w1 key val) (two_oneP key val) Q1.out Q2.out (le_alloc B1.out.size _) ?_; intro v2 w2 hown2 hgrow2 _; have B2 : Hid (Below w.heap.size w w2) := (B1.out.alloc B1.out.size _).grown hgrow2 (le_alloc B1.out.size _) O1.out.block; have O2 : Hid (OwnsP w2 w.heap.size v2 ((listP f g n).take p ++ [(key, val)])) := OwnsP.one hown2; clear hown2 hgrow2) | (at_builtin; refine wpList_append_own _ rfl (.tmp 32) (.tmp 35) 23 rfl w.heap.size 68 i0 (.agg #[.string ⟨#[]⟩, .string ⟨#[]⟩]) 2 32 Tryz.underlying23 HI.out HZ0.out HZ1.out HZ2.out rfl (by decide) _ 0 [] rfl (OwnsP.made w _ (Nat.le_refl _)) ⟨b, o, none⟩ p c (cellsP ((listP f g n).take p)) rfl T1.out N1.out (cellsP_one _) (by unfold maxLen; omega) (by omega) (by simp) ?_; intro v1 w1 hown1 hgrow1 _; have B1 : Hid (Below w.heap.size w w1) := ((Below.refl _ _).alloc (Nat.le_refl _) _).grown hgrow1 (by simp) (fun k e => by cases e; exact Nat.le_refl _); have O1 : Hid (OwnsP w1 w.heap.size v1 ((listP f g n).take p)) := OwnsP.mk T1.out (by simpa using hown1); clear hown1 hgrow1))
      go_ret
      exact ⟨_, rfl, by rw [EL.out]; exact O3.out, B3.out⟩
    | true =>
      have HT : Hid (hitB f n key p = true) := by show hitB f n key p = true; unfold hitB; rw [hq, decide_eq_true hlt]; rfl
      have hne2 : ¬ c = p + 1 := by omega
      have T0 : Hid (((listP f g n).take p).length = p) := by show ((listP f g n).take p).length = p; have := List.length_take (i := p) (l := listP f g n); rw [listP_length] at this; omega
      have T1 : Hid ((cellsP ((listP f g n).take p)).length = p * 2) := by show (cellsP ((listP f g n).take p)).length = p * 2; rw [cellsP_length, T0.out]
      have T5 : Hid (((listP f g n).drop (p + 1)).length = (n - (p + 1))) := by show ((listP f g n).drop (p + 1)).length = (n - (p + 1)); have := List.length_drop (i := (p + 1)) (l := listP f g n); rw [listP_length] at this; omega
      have T3 : Hid ((cellsP ((listP f g n).drop (p + 1))).length = (n - (p + 1)) * 2) := by show (cellsP ((listP f g n).drop (p + 1))).length = (n - (p + 1)) * 2; rw [cellsP_length, T5.out]
      have T4 : Hid (((listP f g n).take p ++ [(key, val)]).length = p + 1) := by show ((listP f g n).take p ++ [(key, val)]).length = p + 1; rw [List.length_append, T0.out]; rfl
      have Q1 : Hid (((listP f g n).take p).length + 1 ≤ maxLen) := by show ((listP f g n).take p).length + 1 ≤ maxLen; rw [T0.out]; unfold maxLen; omega
      have Q2 : Hid ((((listP f g n).take p).length + 1) * 32 ≤ 140737488355328) := by show (((listP f g n).take p).length + 1) * 32 ≤ 140737488355328; rw [T0.out]; omega
      have Q3 : Hid (((listP f g n).take p ++ [(key, val)]).length + (n - (p + 1)) ≤ maxLen) := by show ((listP f g n).take p ++ [(key, val)]).length + (n - (p + 1)) ≤ maxLen; rw [T4.out]; unfold maxLen; omega
      have Q4 : Hid ((((listP f g n).take p ++ [(key, val)]).length + (n - (p + 1))) * 32 ≤ 140737488355328) := by show (((listP f g n).take p ++ [(key, val)]).length + (n - (p + 1))) * 32 ≤ 140737488355328; rw [T4.out]; omega
      have S0 : Hid (SrcP w b o (listP f g n)) := src_of HH.out
      have N1 : Hid (∀ j u, (cellsP ((listP f g n).take p))[j]? = some u → (w.alloc (.cells #[] 68)).cell? ((⟨b, o, none⟩ : Addr).add j) = some u) := ((S0.out.take p).below ((Below.refl _ _).alloc (Nat.le_refl _) _)).news
      have N3 : Hid (SrcP w b (o + (p + 1) * 2) ((listP f g n).drop (p + 1))) := S0.out.drop (p + 1)
      have EL : Hid (putL f g n key val p = (listP f g n).take p ++ [(key, val)] ++ (listP f g n).drop (p + 1)) := by show putL f g n key val p = _; unfold putL; rw [HT.out]; rfl
      go_enter Tryz.func93, Tryz.ntmps93
      go_wp2_with (first | (go_at_call 136; refine (l01At _ n c f g key p _ (by omega) HP.out HH.out).mono ?_; rintro e w' ⟨rfl, rfl⟩) | (at_builtin; refine wpList_append_own _ rfl (.tmp 41) (.tmp 42) 23 rfl w.heap.size 68 i0 (.agg #[.string ⟨#[]⟩, .string ⟨#[]⟩]) 2 32 Tryz.underlying23 HI.out HZ0.out HZ1.out HZ2.out rfl (by decide) _ _ _ rfl O2.out ⟨b, o + (p + 1) * 2, none⟩ ((n - (p + 1))) (c - (p + 1)) (cellsP ((listP f g n).drop (p + 1))) rfl T3.out (N3.out.below B2.out).news (cellsP_one _) Q3.out Q4.out B2.out.size ?_; intro v3 w3 hown3 hgrow3 _; have B3 : Hid (Below w.heap.size w w3) := B2.out.grown hgrow3 B2.out.size O2.out.block; have O3 : Hid (OwnsP w3 w.heap.size v3 ((listP f g n).take p ++ [(key, val)] ++ (listP f g n).drop (p + 1))) := OwnsP.more T5.out hown3; clear hown3 hgrow3) | (at_builtin; refine wpList_append_own _ rfl (.tmp 36) (.tmp 40) 23 rfl w.heap.size 68 i0 (.agg #[.string ⟨#[]⟩, .string ⟨#[]⟩]) 2 32 Tryz.underlying23 HI.out HZ0.out HZ1.out HZ2.out rfl (by decide) _ _ _ rfl (O1.out.alloc _) ⟨w1.heap.size, 0, none⟩ 1 1 [.string key, .string val] rfl rfl (two_newP w1 key val) (two_oneP key val) Q1.out Q2.out (le_alloc B1.out.size _) ?_; intro v2 w2 hown2 hgrow2 _; have B2 : Hid (Below w.heap.size w w2) := (B1.out.alloc B1.out.size _).grown hgrow2 (le_alloc B1.out.size _) O1.out.block; have O2 : Hid (OwnsP w2 w.heap.size v2 ((listP f g n).take p ++ [(key, val)])) := OwnsP.one hown2; clear hown2 hgrow2) | (at_builtin; refine wpList_append_own _ rfl (.tmp 32) (.tmp 35) 23 rfl w.heap.size 68 i0 (.agg #[.string ⟨#[]⟩, .string ⟨#[]⟩]) 2 32 Tryz.underlying23 HI.out HZ0.out HZ1.out HZ2.out rfl (by decide) _ 0 [] rfl (OwnsP.made w _ (Nat.le_refl _)) ⟨b, o, none⟩ p c (cellsP ((listP f g n).take p)) rfl T1.out N1.out (cellsP_one _) (by unfold maxLen; omega) (by omega) (by simp) ?_; intro v1 w1 hown1 hgrow1 _; have B1 : Hid (Below w.heap.size w w1) := ((Below.refl _ _).alloc (Nat.le_refl _) _).grown hgrow1 (by simp) (fun k e => by cases e; exact Nat.le_refl _); have O1 : Hid (OwnsP w1 w.heap.size v1 ((listP f g n).take p)) := OwnsP.mk T1.out (by simpa using hown1); clear hown1 hgrow1))
      go_ret
      exact ⟨_, rfl, by rw [EL.out]; exact O3.out, B3.out⟩
  · have hpe : p = n := by omega
    subst hpe
    clear hlt
    have hne : ¬ c = p := by omega
    have HT : Hid (hitB f p key p = false) := by show hitB f p key p = false; unfold hitB; rw [decide_eq_false (by omega)]; rfl
    have T0 : Hid (((listP f g p).take p).length = p) := by show ((listP f g p).take p).length = p; have := List.length_take (i := p) (l := listP f g p); rw [listP_length] at this; omega
    have T1 : Hid ((cellsP ((listP f g p).take p)).length = p * 2) := by show (cellsP ((listP f g p).take p)).length = p * 2; rw [cellsP_length, T0.out]
    have T5 : Hid (((listP f g p).drop p).length = 0) := by show ((listP f g p).drop p).length = 0; have := List.length_drop (i := p) (l := listP f g p); rw [listP_length] at this; omega
    have T3 : Hid ((cellsP ((listP f g p).drop p)).length = 0 * 2) := by show (cellsP ((listP f g p).drop p)).length = 0 * 2; rw [cellsP_length, T5.out]
    have T4 : Hid (((listP f g p).take p ++ [(key, val)]).length = p + 1) := by show ((listP f g p).take p ++ [(key, val)]).length = p + 1; rw [List.length_append, T0.out]; rfl
    have Q1 : Hid (((listP f g p).take p).length + 1 ≤ maxLen) := by show ((listP f g p).take p).length + 1 ≤ maxLen; rw [T0.out]; unfold maxLen; omega
    have Q2 : Hid ((((listP f g p).take p).length + 1) * 32 ≤ 140737488355328) := by show (((listP f g p).take p).length + 1) * 32 ≤ 140737488355328; rw [T0.out]; omega
    have Q3 : Hid (((listP f g p).take p ++ [(key, val)]).length + 0 ≤ maxLen) := by show ((listP f g p).take p ++ [(key, val)]).length + 0 ≤ maxLen; rw [T4.out]; unfold maxLen; omega
    have Q4 : Hid ((((listP f g p).take p ++ [(key, val)]).length + 0) * 32 ≤ 140737488355328) := by show (((listP f g p).take p ++ [(key, val)]).length + 0) * 32 ≤ 140737488355328; rw [T4.out]; omega
    have S0 : Hid (SrcP w b o (listP f g p)) := src_of HH.out
    have N1 : Hid (∀ j u, (cellsP ((listP f g p).take p))[j]? = some u → (w.alloc (.cells #[] 68)).cell? ((⟨b, o, none⟩ : Addr).add j) = some u) := ((S0.out.take p).below ((Below.refl _ _).alloc (Nat.le_refl _) _)).news
    have N3 : Hid (SrcP w b (o + p * 2) ((listP f g p).drop p)) := S0.out.drop p
    have EL : Hid (putL f g p key val p = (listP f g p).take p ++ [(key, val)] ++ (listP f g p).drop p) := by show putL f g p key val p = _; unfold putL; rw [HT.out]; rfl
    go_enter Tryz.func93, Tryz.ntmps93
    go_wp2_with (first | (go_at_call 136; refine (l01At _ p c f g key p _ (by omega) HP.out HH.out).mono ?_; rintro e w' ⟨rfl, rfl⟩) | (at_builtin; refine wpList_append_own _ rfl (.tmp 41) (.tmp 42) 23 rfl w.heap.size 68 i0 (.agg #[.string ⟨#[]⟩, .string ⟨#[]⟩]) 2 32 Tryz.underlying23 HI.out HZ0.out HZ1.out HZ2.out rfl (by decide) _ _ _ rfl O2.out ⟨b, o + p * 2, none⟩ (0) (c - p) (cellsP ((listP f g p).drop p)) rfl T3.out (N3.out.below B2.out).news (cellsP_one _) Q3.out Q4.out B2.out.size ?_; intro v3 w3 hown3 hgrow3 _; have B3 : Hid (Below w.heap.size w w3) := B2.out.grown hgrow3 B2.out.size O2.out.block; have O3 : Hid (OwnsP w3 w.heap.size v3 ((listP f g p).take p ++ [(key, val)] ++ (listP f g p).drop p)) := OwnsP.more T5.out hown3; clear hown3 hgrow3) | (at_builtin; refine wpList_append_own _ rfl (.tmp 36) (.tmp 40) 23 rfl w.heap.size 68 i0 (.agg #[.string ⟨#[]⟩, .string ⟨#[]⟩]) 2 32 Tryz.underlying23 HI.out HZ0.out HZ1.out HZ2.out rfl (by decide) _ _ _ rfl (O1.out.alloc _) ⟨w1.heap.size, 0, none⟩ 1 1 [.string key, .string val] rfl rfl (two_newP w1 key val) (two_oneP key val) Q1.out Q2.out (le_alloc B1.out.size _) ?_; intro v2 w2 hown2 hgrow2 _; have B2 : Hid (Below w.heap.size w w2) := (B1.out.alloc B1.out.size _).grown hgrow2 (le_alloc B1.out.size _) O1.out.block; have O2 : Hid (OwnsP w2 w.heap.size v2 ((listP f g p).take p ++ [(key, val)])) := OwnsP.one hown2; clear hown2 hgrow2) | (at_builtin; refine wpList_append_own _ rfl (.tmp 32) (.tmp 35) 23 rfl w.heap.size 68 i0 (.agg #[.string ⟨#[]⟩, .string ⟨#[]⟩]) 2 32 Tryz.underlying23 HI.out HZ0.out HZ1.out HZ2.out rfl (by decide) _ 0 [] rfl (OwnsP.made w _ (Nat.le_refl _)) ⟨b, o, none⟩ p c (cellsP ((listP f g p).take p)) rfl T1.out N1.out (cellsP_one _) (by unfold maxLen; omega) (by omega) (by simp) ?_; intro v1 w1 hown1 hgrow1 _; have B1 : Hid (Below w.heap.size w w1) := ((Below.refl _ _).alloc (Nat.le_refl _) _).grown hgrow1 (by simp) (fun k e => by cases e; exact Nat.le_refl _); have O1 : Hid (OwnsP w1 w.heap.size v1 ((listP f g p).take p)) := OwnsP.mk T1.out (by simpa using hown1); clear hown1 hgrow1))
    go_ret
    exact ⟨_, rfl, by rw [EL.out]; exact O3.out, B3.out⟩
end Go.Proofs.YthgbclipknfmjaaGreatDoor
namespace Go.Proofs.YthgbclipknfmjaaGreatDoor
open Go.ChangeShapes Go.WideShapes Go.ChangeAt Go.RowKit Go.Deep Go.Lib
set_option linter.unusedVariables false
set_option linter.unusedSimpArgs false
set_option maxRecDepth 100000

/-- A pair put into a rising list. -/
def insL (k v : ByteArray) : List PM → List PM
  | [] => [(k, v)]
  | x :: L => if Op.bytesLess x.1.toList k.toList = true then x :: insL k v L else if x.1 = k then (k, v) :: L else (k, v) :: x :: L
theorem bl_total' : ∀ x y : List UInt8, Op.bytesLess x y = false → x ≠ y → Op.bytesLess y x = true
  | [], [], _, h => absurd rfl h
  | [], b :: y, h, _ => by simp [Op.bytesLess] at h
  | a :: x, [], _, _ => by simp [Op.bytesLess]
  | a :: x, b :: y, h, hn => by
    have ih := bl_total' x y
    unfold Op.bytesLess at h ⊢
    by_cases e : a = b
    · subst e
      simp at h ⊢
      exact ih h (fun e => hn (by rw [e]))
    · simp at h ⊢
      have hne : a.toNat ≠ b.toNat := fun e2 => e (UInt8.toNat_inj.1 e2)
      have h1 := UInt8.le_iff_toNat_le.1 h.1
      exact .inl (UInt8.lt_iff_toNat_lt.2 (by omega))
theorem notK_self {k : ByteArray} {L : List PM} (h : ∀ x ∈ L, x.1 ≠ k) : notK k L = L := by
  unfold notK
  rw [List.filter_eq_self]
  exact fun x hx => decide_eq_true (h x hx)
theorem notK_cons (k : ByteArray) (x : PM) (L : List PM) (h : x.1 ≠ k) : notK k (x :: L) = x :: notK k L := by
  exact List.filter_cons_of_pos (decide_eq_true h)
theorem notK_skip (k : ByteArray) (x : PM) (L : List PM) (h : x.1 = k) : notK k (x :: L) = notK k L := by
  unfold notK
  rw [List.filter_cons_of_neg (by simp [h])]
theorem notK_app (k : ByteArray) (A B : List PM) : notK k (A ++ B) = notK k A ++ notK k B := List.filter_append ..
theorem notK_perm {k : ByteArray} {A B : List PM} (h : A.Perm B) : (notK k A).Perm (notK k B) := h.filter _
theorem notK_sub {k : ByteArray} {L : List PM} {x : PM} (h : x ∈ notK k L) : x ∈ L ∧ x.1 ≠ k := by
  obtain ⟨h1, h2⟩ := List.mem_filter.1 h
  exact ⟨h1, of_decide_eq_true h2⟩
theorem ltK_ne {x y : ByteArray} (h : ltK x y) : x ≠ y := fun e => by rw [e] at h; exact ltK_irrefl _ h
theorem lt_of_not {x k : ByteArray} (h : ¬ Op.bytesLess x.toList k.toList = true) (hn : x ≠ k) : ltK k x := bl_total' _ _ (by simpa using h) fun e => hn (toList_inj e)
theorem ins_perm {k v : ByteArray} : ∀ {L : List PM}, UpL L → (insL k v L).Perm ((k, v) :: notK k L)
  | [], _ => List.Perm.refl _
  | x :: L, hu => by
    obtain ⟨h1, h2⟩ := List.pairwise_cons.1 hu
    unfold insL
    by_cases e : Op.bytesLess x.1.toList k.toList = true
    · rw [if_pos e, notK_cons k x L (ltK_ne e)]
      exact (List.Perm.cons x (ins_perm h2)).trans (List.Perm.swap _ _ _)
    · rw [if_neg e]
      by_cases e2 : x.1 = k
      · rw [if_pos e2, notK_skip k x L e2, notK_self fun y hy => by rw [← e2]; exact (ltK_ne (h1 y hy)).symm]
      · rw [if_neg e2, notK_self fun y hy => ?_]
        rcases List.mem_cons.1 hy with rfl | hy
        · exact e2
        · exact (ltK_ne (bl_trans _ _ _ (lt_of_not e e2) (h1 y hy))).symm
theorem ins_mem {k v : ByteArray} {q : PM} {L : List PM} (hu : UpL L) (h : q ∈ insL k v L) : q = (k, v) ∨ (q ∈ L ∧ q.1 ≠ k) := by
  rcases List.mem_cons.1 ((ins_perm hu).mem_iff.1 h) with h | h
  · exact .inl h
  · exact .inr (notK_sub h)
theorem ins_up {k v : ByteArray} : ∀ {L : List PM}, UpL L → UpL (insL k v L)
  | [], _ => List.pairwise_singleton _ _
  | x :: L, hu => by
    obtain ⟨h1, h2⟩ := List.pairwise_cons.1 hu
    unfold insL
    by_cases e : Op.bytesLess x.1.toList k.toList = true
    · rw [if_pos e]
      refine List.pairwise_cons.2 ⟨fun y hy => ?_, ins_up h2⟩
      rcases ins_mem h2 hy with rfl | hy
      · exact e
      · exact h1 y hy.1
    · rw [if_neg e]
      by_cases e2 : x.1 = k
      · rw [if_pos e2]
        exact List.pairwise_cons.2 ⟨fun y hy => by show ltK k y.1; rw [← e2]; exact h1 y hy, h2⟩
      · rw [if_neg e2]
        refine List.pairwise_cons.2 ⟨fun y hy => ?_, hu⟩
        rcases List.mem_cons.1 hy with rfl | hy
        · exact lt_of_not e e2
        · exact bl_trans _ _ _ (lt_of_not e e2) (h1 y hy)
theorem ins_len {k v : ByteArray} {L : List PM} (hu : UpL L) : (insL k v L).length ≤ L.length + 1 ∧ 1 ≤ (insL k v L).length := by
  rw [(ins_perm hu).length_eq, List.length_cons]
  have h9 : (notK k L).length ≤ L.length := List.length_filter_le _ L
  omega
/-- A list of pairs that is not too great. -/
def GoodW (L : List PM) : Prop := L.length ≤ 64 ∧ (∀ x ∈ L, 1 ≤ x.1.size ∧ x.1.size ≤ 30 ∧ x.2.size ≤ 90) ∧ UpL L
theorem ins_good {k v : ByteArray} {L : List PM} (hu : UpL L) (hz : ∀ x ∈ L, 1 ≤ x.1.size ∧ x.1.size ≤ 30 ∧ x.2.size ≤ 90) (hl : L.length ≤ 63) (hk : 1 ≤ k.size ∧ k.size ≤ 30) (hv : v.size ≤ 90) : GoodW (insL k v L) :=
  ⟨by have := (ins_len (k := k) (v := v) hu).1; omega, fun x hx => by
    rcases ins_mem hu hx with rfl | hx
    · exact ⟨hk.1, hk.2, hv⟩
    · exact hz x hx.1, ins_up hu⟩
theorem put_ins {k v : ByteArray} : ∀ {L : List PM} {p : Nat}, UpL L → IsPlace (fK L) L.length k p → L.take p ++ [(k, v)] ++ L.drop (if hitB (fK L) L.length k p = true then p + 1 else p) = insL k v L
  | [], p, _, hp => by
    obtain rfl : p = 0 := by have := hp.1; simpa using this
    unfold insL hitB
    simp
  | x :: L, 0, hu, hp => by
    have h0 : ¬ Op.bytesLess x.1.toList k.toList = true := by
      have := hp.2.2 (by simp)
      intro h
      have h2 : Op.bytesLess x.1.toList k.toList = false := this
      rw [h] at h2
      cases h2
    unfold insL
    rw [if_neg h0]
    have hh : hitB (fK (x :: L)) (x :: L).length k 0 = (x.1.toList == k.toList) := by
      unfold hitB
      rw [decide_eq_true (by simp)]
      rfl
    rw [hh]
    by_cases e : x.1 = k
    · rw [if_pos e, if_pos (by rw [e]; simp)]
      rfl
    · rw [if_neg e, if_neg (by simpa using fun h9 => e (toList_inj h9))]
      rfl
  | x :: L, p + 1, hu, hp => by
    obtain ⟨h1, h2⟩ := List.pairwise_cons.1 hu
    have hf : ∀ i, fK (x :: L) (i + 1) = fK L i := fun i => rfl
    have e : Op.bytesLess x.1.toList k.toList = true := hp.2.1 0 (by omega)
    have hp2 : IsPlace (fK L) L.length k p := by
      refine ⟨by have := hp.1; simp at this; omega, fun j hj => ?_, fun hlt => ?_⟩
      · have := hp.2.1 (j + 1) (by omega)
        rw [hf] at this
        exact this
      · have := hp.2.2 (by simp; omega)
        rw [hf] at this
        exact this
    have hh : hitB (fK (x :: L)) (x :: L).length k (p + 1) = hitB (fK L) L.length k p := by
      unfold hitB
      rw [hf]
      simp
    have ih := put_ins (v := v) h2 hp2
    unfold insL
    rw [if_pos e, ← ih, hh]
    by_cases h : hitB (fK L) L.length k p = true
    · rw [if_pos h, if_pos h]
      rfl
    · rw [if_neg h, if_neg h]
      rfl
theorem mailK_not (u f : ByteArray) (n : Int) : mailK u f n ≠ vK := fun e => by
  have h := congrArg (fun x : ByteArray => x.data.toList) e
  simp [bs] at h
theorem flat_mem {u : ByteArray} {fs : List FM} {q : PM} (h : q ∈ flatF u fs) : ∃ f ∈ fs, q ∈ fPairs u f := List.mem_flatMap.1 h
theorem flat_not (u : ByteArray) (fs : List FM) : notK vK (flatF u fs) = flatF u fs := notK_self fun x hx => by
  obtain ⟨f, _, hf⟩ := flat_mem hx
  unfold fPairs at hf
  rcases List.mem_cons.1 hf with rfl | hf
  · exact folder_not _ _
  · obtain ⟨m, _, rfl⟩ := List.mem_map.1 hf
    exact mailK_not _ _ _
theorem word_not (u wd : ByteArray) : notK vK (wordL u wd) = wordL u wd := notK_self fun x hx => by
  unfold wordL at hx
  split at hx
  · cases hx
  · rw [List.mem_singleton.1 hx]
    exact user_not u
theorem rest_perm {L : List PM} {u : ByteArray} {S : SM} (h : storeB L = true) (hus : (47 : UInt8) ∉ u.data.toList) (hS : takeAll (nextM L) u S0 L = some S) : (notK vK L).Perm (wordL u S.word ++ (notK vK S.aside ++ flatF u S.fs)) := by
  have h1 := (notK_perm (k := vK) (take_desk h hus hS)).symm
  unfold deskX at h1
  rw [notK_app, notK_app, word_not, flat_not] at h1
  refine h1.trans ?_
  rw [← List.append_assoc, ← List.append_assoc]
  exact List.Perm.append_right _ List.perm_append_comm
theorem look_known {L : List PM} {u name : ByteArray} {S : SM} {f : FM} (h : storeB L = true) (hus : (47 : UInt8) ∉ u.data.toList) (hS : takeAll (nextM L) u S0 L = some S) (hl : lookF name S.fs = some f) : ∃ w, (folderK u name, w) ∈ L ∧ (metaV w).isSome = true ∧ shortB name = true := by
  obtain ⟨S', k1, _, hI⟩ := take_all h hus
  rw [hS] at k1
  cases k1
  obtain ⟨w, f2, k2, k3, _⟩ := hI.a _ _ hl
  obtain ⟨_, nx0, hnm, n1, n2, _, _, _⟩ := store_facts h
  have k4 := (folder_meta (by omega)).1 k3
  exact ⟨w, k2, by rw [k4.2.1]; rfl, k4.1⟩
theorem look_there {L : List PM} {u name w : ByteArray} {S : SM} (h : storeB L = true) (hus : (47 : UInt8) ∉ u.data.toList) (hS : takeAll (nextM L) u S0 L = some S) (hn : (47 : UInt8) ∉ name.data.toList) (hm : (folderK u name, w) ∈ L) : (lookF name S.fs).isSome = true := by
  obtain ⟨S', k1, _, hI⟩ := take_all h hus
  rw [hS] at k1
  cases k1
  exact hI.b name w hn hm
theorem user_of_folder {L : List PM} {u name w : ByteArray} (h : storeB L = true) (hus : (47 : UInt8) ∉ u.data.toList) (hn : (47 : UInt8) ∉ name.data.toList) (hm : (folderK u name, w) ∈ L) : ∃ z ∈ L, z.1 = userK u := by
  obtain ⟨_, nx0, _, _, _, _, _, k⟩ := store_facts h
  rcases k _ hm with k | ⟨u', k1, k2⟩
  · exact absurd k (folder_not _ _)
  · rw [owner_folder hus hn] at k1
    cases k1
    exact k2
theorem no_folders {L : List PM} {u : ByteArray} {S : SM} (h : storeB L = true) (hus : (47 : UInt8) ∉ u.data.toList) (hS : takeAll (nextM L) u S0 L = some S) (hno : getM L (userK u) = none) : S.fs = [] := by
  cases hf : S.fs with
  | nil => rfl
  | cons f fs =>
    exfalso
    have hl : lookF f.name S.fs = some f := by rw [hf]; unfold lookF; rw [if_pos rfl]
    obtain ⟨w, k1, _, k3⟩ := look_known h hus hS hl
    obtain ⟨z, z1, z2⟩ := user_of_folder h hus (word_slash k3) k1
    exact getM_none.1 hno z z1 z2
/-- A folder more, on the desk and in the list. -/
theorem fresh_perm {L1 : List PM} {u name wd : ByteArray} {sd : List PM} {fs : List FM} {nx next : Int} (hu : UpL L1) (h1 : (notK vK L1).Perm ((userK u, wd) :: (notK vK sd ++ flatF u fs))) (hl : lookF name fs = none) (hn : ∀ x ∈ L1, x.1 ≠ folderK u name) :
    (deskP (nx + 1) u ⟨sd, wd, putF ⟨name, nx, next, []⟩ fs⟩).Perm (insL (folderK u name) (metaT nx next) (insL vK (bs (itoa (nx + 1))) L1)) := by
  have h2 := ins_perm (k := vK) (v := bs (itoa (nx + 1))) hu
  have h3 := ins_perm (k := folderK u name) (v := metaT nx next) (ins_up (k := vK) (v := bs (itoa (nx + 1))) hu)
  refine List.Perm.trans ?_ h3.symm
  have h4 : notK (folderK u name) (insL vK (bs (itoa (nx + 1))) L1) = insL vK (bs (itoa (nx + 1))) L1 := notK_self fun x hx => by
    rcases ins_mem hu hx with rfl | hx
    · exact (folder_not u name).symm
    · exact hn x hx.1
  rw [h4]
  refine List.Perm.trans ?_ (List.Perm.cons _ h2.symm)
  unfold deskP
  have h5 : flatF u (putF ⟨name, nx, next, []⟩ fs) = flatF u fs ++ [(folderK u name, metaT nx next)] := by
    rw [put_none hl]
    unfold flatF
    rw [List.flatMap_append]
    rfl
  show ((vK, bs (itoa (nx + 1))) :: (userK u, wd) :: (notK vK sd ++ flatF u (putF ⟨name, nx, next, []⟩ fs))).Perm _
  rw [h5]
  refine List.Perm.trans ?_ (List.Perm.swap _ _ _)
  refine List.Perm.cons _ ?_
  refine List.Perm.trans ?_ (List.Perm.cons _ h1.symm)
  rw [← List.append_assoc]
  exact (List.Perm.cons (userK u, wd) List.perm_append_comm).trans (List.Perm.swap _ _ _)
theorem short_size' {u : ByteArray} (h : shortB u = true) : u.size ≤ 8 := by
  unfold shortB at h
  rw [Bool.and_eq_true, decide_eq_true_eq] at h
  exact h.2
theorem fit_take {nx : Int} {u : ByteArray} {S S' : SM} {q : PM} (hnx : nx ≤ 10000) (hz : q.1.size ≤ 1000 ∧ q.2.size ≤ 1000) (hS : ∀ f ∈ S.fs, FitF f) (h : takeM nx u S q = some S') : ∀ f ∈ S'.fs, FitF f := by
  have hput : ∀ {o : Option FM}, putM S o = some S' → (∀ g, o = some g → FitF g) → ∀ f ∈ S'.fs, FitF f := fun {o} h9 hg => by
    unfold putM at h9
    obtain ⟨g, rfl, rfl⟩ := Option.map_eq_some_iff.1 h9
    intro f hf
    rcases putF_mem hf with hf | rfl
    · exact hS f hf
    · exact hg _ rfl
  have haside : asideM S q = some S' → ∀ f ∈ S'.fs, FitF f := fun h9 => by cases h9; exact hS
  unfold takeM takeP at h
  split at h
  · split at h
    · unfold userM at h
      obtain ⟨_, rfl⟩ := ite_some h
      exact hS
    · exact haside h
  · rename_i a b c hG
    split at h
    · rename_i hc
      refine hput h fun g hg => ?_
      have hgf := (folder_meta hnx).1 hg
      obtain ⟨k1, k2, k3, k4⟩ := hgf
      have hm := metaV_range k2
      have hsz := short_size' k1
      rw [k4]
      exact ⟨by show 0 ≤ g.val; omega, by show g.val ≤ 10000; omega, by show 0 ≤ g.next; omega, by show g.next ≤ 10000; omega, by show (bs c).size ≤ 1000; omega, fun m hm => by cases hm⟩
    · exact haside h
  · rename_i a b c d hG
    split at h
    · refine hput h fun g hg => ?_
      unfold mailM at hg
      obtain ⟨f', hl, hg2⟩ := Option.bind_eq_some_iff.1 hg
      obtain ⟨un, m1, m2, m3, m4, m5, m6, m7, m8, hgm⟩ := mailO_some hg2
      obtain ⟨e1, e2, e3, e4, e5, e6⟩ := hS f' (lookF_mem hl).1
      rw [hgm]
      refine ⟨e1, e2, e3, e4, e5, fun m hm => ?_⟩
      rcases List.mem_append.1 (show m ∈ f'.mails ++ [((un : Int), hdV q.2 - 48, q.2.extract 1 q.2.size)] from hm) with hm | hm
      · exact e6 m hm
      · rw [List.mem_singleton.1 hm]
        have hu1 := (d3_back m2 m1).1
        refine ⟨by show 0 ≤ (un : Int); omega, by show (un : Int) < 1000; omega, by show 0 ≤ hdV q.2 - 48; omega, by show hdV q.2 - 48 ≤ 3; omega, ?_⟩
        show (q.2.extract 1 q.2.size).size ≤ 1000
        rw [ByteArray.size_extract]
        omega
    · exact haside h
  · exact haside h
theorem fit_all {nx : Int} {u : ByteArray} (hnx : nx ≤ 10000) : ∀ {L : List PM} {S S' : SM}, (∀ q ∈ L, q.1.size ≤ 1000 ∧ q.2.size ≤ 1000) → (∀ f ∈ S.fs, FitF f) → takeAll nx u S L = some S' → ∀ f ∈ S'.fs, FitF f
  | [], S, S', _, hS, h => by cases h; exact hS
  | q :: L, S, S', hz, hS, h => by
    unfold takeAll at h
    obtain ⟨S1, h1, h2⟩ := Option.bind_eq_some_iff.1 h
    exact fit_all hnx (fun x hx => hz x (List.mem_cons_of_mem _ hx)) (fit_take hnx (hz q List.mem_cons_self) hS h1) h2
theorem store_fit {L : List PM} {u : ByteArray} {S : SM} (h : storeB L = true) (hS : takeAll (nextM L) u S0 L = some S) : ∀ f ∈ S.fs, FitF f := by
  obtain ⟨hg, nx0, hnm, n1, n2, _, _, _⟩ := store_facts h
  exact fit_all (by omega) (fun q hq => by have := hg.2.1 q hq; omega) (fun f hf => by cases hf) hS
/-- The specification's look at a key. -/
theorem l01GetW (a : Option Addr) (n c : Nat) (L : List PM) (key : ByteArray) (w : World) (hL : L.length = n) (hg : GoodW L) (h : Src w a (cellsP L)) :
    Calls Tryz.prog 92 #[.slice a n c, .string key] w fun e w' => e = .returned (.tuple #[.string ((getM L key).getD e0), .bool (getM L key).isSome]) ∧ w' = w := by
  subst hL
  obtain ⟨p, hp⟩ := place_exists (fK L) key L.length
  obtain ⟨h1, h2⟩ := hit_get hg.2.2 hp
  refine (l01Get a L.length c (fK L) (fV L) key p w (by have := hg.1; omega) hp (sp_src h rfl)).mono ?_
  rintro e w' ⟨rfl, rfl⟩
  exact ⟨ret_got h2 h1, rfl⟩
theorem getW_size {L : List PM} (hg : GoodW L) (k : ByteArray) : ((getM L k).getD e0).size ≤ 90 := by
  cases h : getM L k with
  | none => show (0 : Nat) ≤ 90; omega
  | some v => exact (hg.2.1 _ ((getM_mem hg.2.2).1 h)).2.2
set_option maxHeartbeats 1000000 in
theorem l07NextW (a : Option Addr) (n c : Nat) (L : List PM) (w : World) (hL : L.length = n) (hg : GoodW L) (h : Src w a (cellsP L)) :
    Calls Tryz.prog 63 #[.slice a n c] w fun e w' => e = .returned (.int .i64 (nextM L)) ∧ w' = w := by
  have CG := l01GetW a n c L vK w hL hg h
  have SZ := getW_size hg vK
  obtain ⟨R, hR⟩ : ∃ R, nextM L = R := ⟨_, rfl⟩
  have HR : Hid (nextM L = R) := hR
  rw [hR]
  clear hR h hg hL
  cases hm : getM L vK with
  | none =>
    rw [hm] at CG
    have H0 : Hid (R = 0) := by show _ = _; rw [← HR.out]; unfold nextM; rw [hm]; rfl
    have CN := l00NumberS e0 w (by unfold maxLen; decide)
    clear HR hm SZ
    go_enter Tryz.func63, Tryz.ntmps63
    go_wp2_with fail
    refine CG.mono ?_
    rintro e w1 ⟨rfl, rfl⟩
    go_wp2_with fail
    refine CN.mono ?_
    rintro e w2 ⟨rfl, rfl⟩
    go_wp2_with fail
    go_ret
    exact ⟨by rw [H0.out]; rfl, rfl⟩
  | some v =>
    rw [hm] at CG SZ
    have SZ2 : v.size ≤ 90 := SZ
    have CN := l00NumberS v w (by unfold maxLen; omega)
    have H0 : Hid (R = (numB v.data.toList).getD 0) := by show _ = _; rw [← HR.out]; unfold nextM; rw [hm]; rfl
    clear HR hm SZ
    cases hn : numB v.data.toList with
    | none =>
      rw [hn] at CN
      have H1 : Hid (R = 0) := by show _ = _; rw [H0.out, hn]; rfl
      clear hn H0
      go_enter Tryz.func63, Tryz.ntmps63
      go_wp2_with fail
      refine CG.mono ?_
      rintro e w1 ⟨rfl, rfl⟩
      go_wp2_with fail
      refine CN.mono ?_
      rintro e w2 ⟨rfl, rfl⟩
      go_wp2_with fail
      go_ret
      exact ⟨by rw [H1.out]; rfl, rfl⟩
    | some z =>
      rw [hn] at CN
      have H1 : Hid (R = z) := by show _ = _; rw [H0.out, hn]; rfl
      clear hn H0
      go_enter Tryz.func63, Tryz.ntmps63
      go_wp2_with fail
      refine CG.mono ?_
      rintro e w1 ⟨rfl, rfl⟩
      go_wp2_with fail
      refine CN.mono ?_
      rintro e w2 ⟨rfl, rfl⟩
      go_wp2_with fail
      go_ret
      exact ⟨by rw [H1.out]; rfl, rfl⟩
end Go.Proofs.YthgbclipknfmjaaGreatDoor
