
/-
  Reading a message, by the specification: l08Parse. By an AI agent.
-/
import Derived.Test.YtgbhjhbmolgbeaaDoorPar4
namespace Go.Proofs.YtgbhjhbmolgbeaaDoor
open Go.ChangeShapes Go.WideShapes Go.ChangeAt Go.RowKit Go.Deep
set_option linter.unusedVariables false
set_option maxRecDepth 100000

/-- Block g is one of cells of type t. -/
def KindAt (w : World) (g t : Nat) : Prop := ∃ c f, w.heap[g]? = some (.cells c t f)
theorem KindAt.set {w : World} {g t : Nat} (h : KindAt w g t) (a : Addr) (v : Value) : KindAt (w.setCell a v) g t := by
  obtain ⟨c, f, h⟩ := h
  by_cases e : g = a.block
  · subst e
    refine ⟨if a.spot.isSome then c else c.setIfInBounds a.off v, f, ?_⟩
    show (w.heap.modify a.block _)[a.block]? = _
    rw [Array.getElem?_modify, if_pos rfl, h]
    rfl
  · exact ⟨c, f, (Below.heap_setCell _ _ _ _ e).trans h⟩
theorem KindAt.below {w w' : World} {g t : Nat} (h : KindAt w g t) (hb : Below w.heap.size w w') : KindAt w' g t := by
  obtain ⟨c, f, h⟩ := h
  exact ⟨c, f, by rw [hb.block g (Array.getElem?_eq_some_iff.1 h).1]; exact h⟩
theorem KindAt.grown {w w' : World} {g t : Nat} {row : Option Nat} (h : KindAt w g t) (hg : w.grownBy w' row) (hne : row ≠ some g) : KindAt w' g t := by
  obtain ⟨c, f, h⟩ := h
  exact ⟨c, f, by rw [hg.block g (Array.getElem?_eq_some_iff.1 h).1 (fun e => hne e.symm)]; exact h⟩
theorem KindAt.new {w : World} {g t : Nat} {vs : Array Value} (hg : g = w.heap.size) : KindAt (w.alloc (.cells vs t)) g t := by
  subst hg
  exact ⟨vs, _, heap_alloc_new _ _⟩
/-- How long a text is. -/
def strLen : Value → Nat
  | .string s => s.size
  | _ => 0
theorem find_before (c : UInt8) (tl : List UInt8) (s : ByteArray) (hs : bsOf tl = s) (k : Nat) (hk : k < s.size) (h : k < tl.findIdx (· == c)) : (((s[k]'hk).toNat : Int) != (c.toNat : Int)) = true := by
  subst hs
  have h1 := List.not_of_lt_findIdx (p := (· == c)) (xs := tl) h
  have h2 : k < tl.length := by rwa [bsOf_size] at hk
  have h3 : (bsOf tl)[k]'hk = tl[k]'h2 := rfl
  have h4 : ¬ (tl[k] = c) := by intro e; simp [e] at h1
  rw [h3, bne_iff_ne]
  intro e
  exact h4 (UInt8.toNat_inj.1 (by omega))
theorem find_at (c : UInt8) (tl : List UInt8) (s : ByteArray) (hs : bsOf tl = s) (K : Nat) (hK : tl.findIdx (· == c) = K) (hk : K < s.size) : (((s[K]'hk).toNat : Int) != (c.toNat : Int)) = false := by
  subst hs hK
  have h : tl.findIdx (· == c) < tl.length := by rwa [bsOf_size] at hk
  have h1 := List.findIdx_getElem (p := (· == c)) (xs := tl) (w := h)
  have h3 : (bsOf tl)[tl.findIdx (· == c)]'hk = tl[tl.findIdx (· == c)]'h := rfl
  have h4 : tl[tl.findIdx (· == c)]'h = c := beq_iff_eq.1 h1
  rw [h3, h4]
  simp
theorem ext_take (tl : List UInt8) (k : Nat) : (bsOf tl).extract 0 k = bsOf (tl.take k) := by
  rw [Lib.extract_eq, bsOf_list]; simp [bsOf]
theorem ext_drop (tl : List UInt8) (k : Nat) : (bsOf tl).extract k (bsOf tl).size = bsOf (tl.drop k) := by
  rw [Lib.extract_eq, bsOf_list, bsOf_size, List.take_of_length_le (by simp)]; rfl
theorem bs_at (tl : List UInt8) (s : ByteArray) (hs : bsOf tl = s) (k : Nat) (hk : k < s.size) : tl.getD k 0 = s[k]'hk := by
  subst hs
  have h2 : k < tl.length := by rwa [bsOf_size] at hk
  rw [List.getD_eq_getElem?_getD, List.getElem?_eq_getElem h2]; rfl

/-- What l08Parse leaves. -/
def ParPost (o : Option GM) (w : World) (e : Ending) (w' : World) : Prop := ∃ (v : Value) (D : GM), e = .returned (.tuple #[v, .bool o.isSome]) ∧ (∀ x, o = some x → D = x) ∧ OwnsG w' w.heap.size w'.heap.size v D ∧ D.F.length ≤ 100000 ∧ Below w.heap.size w w'
theorem ParPost.mk {o : Option GM} {w w' : World} {v : Value} {b : Bool} (D : GM) (h1 : o.isSome = b) (h2 : ∀ x, o = some x → D = x) (h3 : OwnsG w' w.heap.size w'.heap.size v D) (h4 : D.F.length ≤ 100000) (h5 : Below w.heap.size w w') : ParPost o w (.returned (.tuple #[v, .bool b])) w' := ⟨v, D, by rw [h1], h2, h3, h4, h5⟩

set_option maxHeartbeats 4000000 in
theorem l08ParseS (l : List UInt8) (w : World) (hl : l.length ≤ 100000) :
    Calls Tryd.prog 41 #[.string (bsOf l)] w fun e w' => ParPost (parse l) w e w' := by
  obtain ⟨o, ho⟩ : ∃ o, parse l = o := ⟨_, rfl⟩
  obtain ⟨s0, hs0⟩ : ∃ s, bsOf l = s := ⟨_, rfl⟩
  rw [ho, hs0]
  have HO : Hid (parS (l.length + 1) l [] = o) := ho
  have HS0 : Hid (bsOf l = s0) := hs0
  clear ho hs0
  go_enter Tryd.func41, Tryd.ntmps41
  go_wp2_with fail
  go_loopw [0] (fun t wr => ∃ (n : Nat) (tl : List UInt8) (s : ByteArray) (acc : List MFl) (v : Value), tl.length < n ∧ tl.length + acc.length ≤ l.length ∧ t = .string s ∧ Hid (bsOf tl = s) ∧ Hid (parS n tl acc = o) ∧ Hid (Box wr w.heap.size [.slice none 0 0, .string ⟨#[]⟩]) ∧ Hid (Box wr (w.heap.size + 1 + 1) [v, .string ⟨#[]⟩]) ∧ Hid (KindAt wr (w.heap.size + 1 + 1) 25) ∧ Hid (wr.ownsRow (w.heap.size + 1) 33 2 v acc.length (cellsFl acc)) ∧ Hid (Below w.heap.size w wr)) (fun t _ => strLen t)
  case atStart => exact ⟨l.length + 1, l, s0, [], _, by omega, by simp, rfl, HS0, HO, ((Box.new rfl).old _).old _, Box.new (by simp), KindAt.new (by simp), (own_empty (by simp) (by simp)).alloc _, (((Below.refl _ _).alloc (Nat.le_refl _) _).alloc (by simp) _).alloc (by simp; omega) _⟩
  case round =>
    obtain ⟨n, tl, s, acc, v, hn, hta, rfl, hs, he, hR, hM, hK, how, hb⟩ := hrel
    obtain ⟨va, vc, rfl, _, _⟩ := own_src how.out
    obtain ⟨n, rfl⟩ : ∃ m, n = m + 1 := ⟨n - 1, by omega⟩
    have HE := he.out
    unfold parS at HE
    have hnl := nl_le tl
    have hsl : s.size = tl.length := by rw [← hs.out, bsOf_size]
    have hsb : s.size ≤ 100000 := by omega
    obtain ⟨K, hKK⟩ : ∃ K, nl tl = K := ⟨_, rfl⟩
    have NE10 : Hid (∀ (k : Nat) (hk : k < s.size), k < K → (((s[k]'hk).toNat : Int) != 10) = true) := fun k hk h => find_before 10 tl s hs.out k hk (by rw [← hKK] at h; exact h)
    have AT10 : Hid (∀ (hk : K < s.size), (((s[K]'hk).toNat : Int) != 10) = false) := fun hk => find_at 10 tl s hs.out K hKK hk
    have hx1 : s.extract 0 K = bsOf (tl.take K) := by rw [← hs.out, ext_take]
    have hx2 : s.extract (K + 1) s.size = bsOf (tl.drop (K + 1)) := by rw [← hs.out, ext_drop]
    obtain ⟨m, hm⟩ : ∃ m, acc.length = m := ⟨_, rfl⟩
    have HMM : Hid (acc.length = m) := hm
    rw [hm] at how hta hM
    rw [hKK] at HE hnl
    clear hm he hKK
    by_cases h1 : K = tl.length
    · rw [if_pos h1] at HE
      have HON : Hid (o = none) := HE.symm
      clear HE
      have hsn : s.size ≤ K ∧ K ≤ s.size := by omega
      have hsq : ((K : Int) == (s.size : Int)) = true := by rw [beq_iff_eq]; omega
      clear h1 hx1 hx2 hsl hnl hta hn
      go_wp2_with fail
      go_loop [5] (fun i => ∃ k : Nat, k ≤ K ∧ i = .int .i64 (k : Int)) (fun i => s.size - (intOf i).toNat)
      case atStart => exact ⟨0, by omega, rfl⟩
      case round =>
        obtain ⟨k, hk, rfl⟩ := hrel
        by_cases hlt : k < K
        · have hks : k < s.size := by omega
          have hc := NE10.out k hks hlt
          go_wp2_with fail
          go_round
          case rel => exact ⟨k + 1, by omega, by go_num⟩
          case measure => simp [intOf]; omega
        · have hkk : K = k := by omega
          subst hkk
          clear hk hlt
          obtain ⟨q0, qf0⟩ := hR.out 0 _ rfl
          obtain ⟨q1, qf1⟩ := (hR.out.set 0 (.slice none 0 0)) 1 _ rfl
          have BE := (hR.out.set 0 (.slice none 0 0)).set 1 (.string ⟨#[]⟩)
          obtain ⟨r0, _⟩ := BE 0 _ rfl
          obtain ⟨r1, _⟩ := BE 1 _ rfl
          have BL : Hid (Below w.heap.size w ((wr.setCell ⟨w.heap.size, 0, none⟩ (.slice none 0 0)).setCell ⟨w.heap.size, 1, none⟩ (.string ⟨#[]⟩))) := (hb.out.setCell (Nat.le_refl _) _).setCell (Nat.le_refl _) _
          clear BE
          go_wp2_with fail
          exact bodyPost_ret (v := .tuple #[.agg #[.slice none 0 0, .string ⟨#[]⟩], .bool false]) (by simp [results, Tryd.results41, go_sem, r0, r1]) rfl (ParPost.mk G0 (by rw [HON.out]; rfl) (fun x hx => by rw [HON.out] at hx; cases hx) ownsG_nil (by simp) BL.out)
    rw [if_neg h1] at HE
    have hKs : K < s.size := by omega
    have hsq : ((K : Int) == (s.size : Int)) = false := by rw [beq_eq_false_iff_ne]; omega
    have hat := AT10.out hKs
    by_cases h2 : K = 0
    · rw [if_pos h2] at HE
      subst h2
      obtain ⟨rs, hrs⟩ : ∃ r, bsOf (tl.drop 1) = r := ⟨_, rfl⟩
      have hrl : rs.size ≤ 100000 := by rw [← hrs, bsOf_size]; simp; omega
      have hx1' : s.extract 0 0 = ⟨#[]⟩ := hx1
      have hx2' : s.extract 1 s.size = rs := by rw [← hrs]; exact hx2
      have hq : ((⟨#[]⟩ : ByteArray).toList == []) = true := by rw [Lib.toList_data]; rfl
      rw [hrs, HMM.out] at HE
      have HO1 : Hid (o.isSome = decide ((m : Int) ≤ 8)) := by show _ = _; rw [← HE]; by_cases h : m ≤ 8 <;> simp [h] <;> omega
      have HO2 : Hid (∀ x, o = some x → GM.mk acc rs = x) := by
        show ∀ x, o = some x → _; intro x hx; rw [← HE] at hx
        split at hx
        · exact Option.some.inj hx
        · cases hx
      have HMM2 : Hid (m ≤ 100000) := by show _ ≤ _; omega
      clear HE hx1 hx2 hrs h1 hsl hnl hta hn
      have NEQ : Hid (Value.ownBlock (.slice va m vc) ≠ some (w.heap.size + 1 + 1)) := own_notkind how.out hK.out (by decide)
      obtain ⟨m1, mf1⟩ := hM.out 1 _ rfl
      have BM0 : Box (wr.setCell ⟨(w.heap.size + 1 + 1), 1, none⟩ (.string rs)) (w.heap.size + 1 + 1) [.slice va m vc, .string rs] := hM.out.set 1 _
      have BR0 : Box (wr.setCell ⟨(w.heap.size + 1 + 1), 1, none⟩ (.string rs)) w.heap.size [.slice none 0 0, .string ⟨#[]⟩] := hR.out.other _ (by dsimp only; omega) _
      have OW0 : (wr.setCell ⟨(w.heap.size + 1 + 1), 1, none⟩ (.string rs)).ownsRow (w.heap.size + 1) 33 2 (.slice va m vc) m (cellsFl acc) := own_setOther how.out NEQ.out _
      have BL0 : Below w.heap.size w (wr.setCell ⟨(w.heap.size + 1 + 1), 1, none⟩ (.string rs)) := hb.out.setCell (by dsimp only; omega) _
      clear hR hM hK how hb NEQ
      go_wp2_with fail
      go_loop [5] (fun i => ∃ k : Nat, k ≤ 0 ∧ i = .int .i64 (k : Int)) (fun i => s.size - (intOf i).toNat)
      case atStart => exact ⟨0, by omega, rfl⟩
      case round =>
        obtain ⟨k, hk, rfl⟩ := hrel
        by_cases hlt : k < 0
        · have hks : k < s.size := by omega
          have hc := NE10.out k hks hlt
          go_wp2_with fail
          go_round
          case rel => exact ⟨k + 1, by omega, by go_num⟩
          case measure => simp [intOf]; omega
        · have hkk : 0 = k := by omega
          subst hkk
          clear hk hlt
          go_wp2_with fail
          generalize (wr.setCell ⟨(w.heap.size + 1 + 1), 1, none⟩ (.string rs)) = wb at BM0 BR0 OW0 BL0 ⊢
          have BR : Hid (Box wb w.heap.size [.slice none 0 0, .string ⟨#[]⟩]) := BR0
          have OW : Hid (wb.ownsRow (w.heap.size + 1) 33 2 (.slice va m vc) m (cellsFl acc)) := OW0
          have BL : Hid (Below w.heap.size w wb) := BL0
          obtain ⟨g0, _⟩ := BM0 0 _ rfl
          obtain ⟨g1, _⟩ := BM0 1 _ rfl
          clear BM0 BR0 OW0 BL0 m1 mf1 hat hx1' hx2' hq hsq
          obtain ⟨q0, qf0⟩ := BR.out 0 _ rfl
          obtain ⟨q1, qf1⟩ := BR.out 1 _ rfl
          have BE : Hid (Box ((wb.setCell ⟨w.heap.size, 0, none⟩ (.slice va m vc)).setCell ⟨w.heap.size, 1, none⟩ (.string rs)).drew w.heap.size [.slice va m vc, .string rs]) := (BR.out.set 0 (.slice va m vc)).set 1 (.string rs)
          have OE : Hid (((wb.setCell ⟨w.heap.size, 0, none⟩ (.slice va m vc)).setCell ⟨w.heap.size, 1, none⟩ (.string rs)).drew.ownsRow w.heap.size 33 2 (.slice va m vc) m (cellsFl acc)) := own_mono (own_setLow (own_setLow OW.out (by dsimp only; omega) _) (by dsimp only; omega) _) (by omega)
          have TE : Hid (Below w.heap.size w ((wb.setCell ⟨w.heap.size, 0, none⟩ (.slice va m vc)).setCell ⟨w.heap.size, 1, none⟩ (.string rs)).drew) := ((BL.out.setCell (Nat.le_refl _) _).setCell (Nat.le_refl _) _).drew
          go_region
          all_goals
            go_wp2_with fail
            generalize ((wb.setCell ⟨w.heap.size, 0, none⟩ (.slice va m vc)).setCell ⟨w.heap.size, 1, none⟩ (.string rs)).drew = wz at BE OE TE ⊢
            obtain ⟨r0, _⟩ := BE.out 0 _ rfl
            obtain ⟨r1, _⟩ := BE.out 1 _ rfl
            refine bodyPost_ret (v := .tuple #[.agg #[.slice va m vc, .string rs], .bool (decide ((m : Int) ≤ 8))]) (by simp [results, Tryd.results41, go_sem, r0, r1]) rfl (ParPost.mk ⟨acc, rs⟩ HO1.out HO2.out ⟨.slice va m vc, rfl, OwnsR.mk ?_ (Nat.le_refl _)⟩ ?_ TE.out)
            · rw [HMM.out]; exact OE.out
            · show acc.length ≤ _; rw [HMM.out]; exact HMM2.out
    rw [if_neg h2] at HE
    obtain ⟨ln, hln⟩ : ∃ x, tl.take K = x := ⟨_, rfl⟩
    obtain ⟨rt, hrt⟩ : ∃ x, tl.drop (K + 1) = x := ⟨_, rfl⟩
    have hlnl : ln.length = K := by rw [← hln]; simp; omega
    have hrtl : rt.length + K + 1 = tl.length := by rw [← hrt]; simp; omega
    rw [hln] at HE hx1
    rw [hrt] at HE hx2
    obtain ⟨LN, hLN⟩ : ∃ x, bsOf ln = x := ⟨_, rfl⟩
    obtain ⟨RS, hRS⟩ : ∃ x, bsOf rt = x := ⟨_, rfl⟩
    rw [hLN] at hx1
    rw [hRS] at hx2
    have hLs : LN.size = ln.length := by rw [← hLN, bsOf_size]
    have hq : (LN.toList == []) = false := by
      rw [← hLN, Lib.toList_data, bsOf_list, beq_eq_false_iff_ne]
      intro e; rw [e] at hlnl; simp at hlnl; omega
    have hcl := cl_le ln
    obtain ⟨Q, hQ⟩ : ∃ Q, cl ln = Q := ⟨_, rfl⟩
    have NE58 : Hid (∀ (k : Nat) (hk : k < LN.size), k < Q → (((LN[k]'hk).toNat : Int) != 58) = true) := fun k hk h => find_before 58 ln LN hLN k hk (by rw [← hQ] at h; exact h)
    have AT58 : Hid (∀ (hk : Q < LN.size), (((LN[Q]'hk).toNat : Int) != 58) = false) := fun hk => find_at 58 ln LN hLN Q hQ hk
    have hy1 : LN.extract 0 Q = bsOf (ln.take Q) := by rw [← hLN, ext_take]
    have hy2 : LN.extract (Q + 2) LN.size = bsOf (ln.drop (Q + 2)) := by rw [← hLN, ext_drop]
    have hy3 : Hid (∀ (hk : Q + 1 < LN.size), ln.getD (Q + 1) 0 = LN[Q + 1]'hk) := fun hk => bs_at ln LN hLN (Q + 1) hk
    unfold fieldS at HE
    rw [hQ] at HE hcl
    obtain ⟨NM, hNM⟩ : ∃ x, bsOf (ln.take Q) = x := ⟨_, rfl⟩
    obtain ⟨VL, hVL⟩ : ∃ x, bsOf (ln.drop (Q + 2)) = x := ⟨_, rfl⟩
    have hNMs : NM.size ≤ maxLen := by rw [← hNM, bsOf_size]; unfold maxLen; simp; omega
    have hVLs : VL.size ≤ maxLen := by rw [← hVL, bsOf_size]; unfold maxLen; simp; omega
    rw [hNM] at HE hy1
    rw [hVL] at HE hy2
    have HRS : Hid (bsOf rt = RS) := hRS
    have HLS : Hid (LN.size = ln.length) := hLs
    have HRN : Hid (rt.length < n ∧ rt.length + (m + 1) ≤ l.length) := ⟨by omega, by omega⟩
    have HRL : Hid (RS.size < s.size) := by show _ < _; rw [← hRS, bsOf_size]; omega
    have hQL : Q ≤ LN.size := by omega
    have hLb : LN.size ≤ 100000 := by omega
    have HNMZ : Hid (NM.size ≤ maxLen ∧ VL.size ≤ maxLen) := ⟨hNMs, hVLs⟩
    have HMB : Hid (m ≤ 100000) := by show _ ≤ _; omega
    clear hln hrt hlnl hrtl hLN hRS hLs hcl hQ hNM hVL hNMs hVLs h1 h2 hsl hnl hta hn
    by_cases hA : Q + 1 < LN.size
    rotate_left
    · have HON : Hid (o = none) := by
        show _ = _; rw [← HE, if_neg]; rintro ⟨h, _⟩; have := HLS.out; omega
      have hge : ((Q : Int) + 1 ≥ (LN.size : Int)) := by omega
      have hge2 : decide ((LN.size : Int) ≤ (Q : Int) + 1) = true := decide_eq_true (by omega)
      clear HE hy3 hy1 hy2 hA
      go_wp2_with fail
      go_loop [5] (fun i => ∃ k : Nat, k ≤ K ∧ i = .int .i64 (k : Int)) (fun i => s.size - (intOf i).toNat)
      case atStart => exact ⟨0, by omega, rfl⟩
      case round =>
        obtain ⟨k, hk, rfl⟩ := hrel
        by_cases hlt : k < K
        · have hks : k < s.size := by omega
          have hc := NE10.out k hks hlt
          go_wp2_with fail
          go_round
          case rel => exact ⟨k + 1, by omega, by go_num⟩
          case measure => simp [intOf]; omega
        · have hkk : K = k := by omega
          subst hkk
          clear hk hlt
          go_wp2_with fail
          go_loop [7] (fun i => ∃ k : Nat, k ≤ Q ∧ i = .int .i64 (k : Int)) (fun i => LN.size - (intOf i).toNat)
          case atStart => exact ⟨0, by omega, rfl⟩
          case round =>
            obtain ⟨k, hk, rfl⟩ := hrel
            by_cases hlt : k < Q
            · have hks : k < LN.size := by omega
              have hc := NE58.out k hks hlt
              go_wp2_with fail
              go_round
              case rel => exact ⟨k + 1, by omega, by go_num⟩
              case measure => simp [intOf]; omega
            · have hkk : Q = k := by omega
              subst hkk
              clear hk hlt
              by_cases hcc : Q < LN.size
              · have hat2 := AT58.out hcc
                obtain ⟨q0, qf0⟩ := hR.out 0 _ rfl
                obtain ⟨q1, qf1⟩ := (hR.out.set 0 (.slice none 0 0)) 1 _ rfl
                have BE := (hR.out.set 0 (.slice none 0 0)).set 1 (.string ⟨#[]⟩)
                obtain ⟨r0, _⟩ := BE 0 _ rfl
                obtain ⟨r1, _⟩ := BE 1 _ rfl
                have BL : Hid (Below w.heap.size w ((wr.setCell ⟨w.heap.size, 0, none⟩ (.slice none 0 0)).setCell ⟨w.heap.size, 1, none⟩ (.string ⟨#[]⟩))) := (hb.out.setCell (Nat.le_refl _) _).setCell (Nat.le_refl _) _
                clear BE
                go_wp2_with fail
                exact bodyPost_ret (v := .tuple #[.agg #[.slice none 0 0, .string ⟨#[]⟩], .bool false]) (by simp [results, Tryd.results41, go_sem, r0, r1]) rfl (ParPost.mk G0 (by rw [HON.out]; rfl) (fun x hx => by rw [HON.out] at hx; cases hx) ownsG_nil (by simp) BL.out)
              · obtain ⟨q0, qf0⟩ := hR.out 0 _ rfl
                obtain ⟨q1, qf1⟩ := (hR.out.set 0 (.slice none 0 0)) 1 _ rfl
                have BE := (hR.out.set 0 (.slice none 0 0)).set 1 (.string ⟨#[]⟩)
                obtain ⟨r0, _⟩ := BE 0 _ rfl
                obtain ⟨r1, _⟩ := BE 1 _ rfl
                have BL : Hid (Below w.heap.size w ((wr.setCell ⟨w.heap.size, 0, none⟩ (.slice none 0 0)).setCell ⟨w.heap.size, 1, none⟩ (.string ⟨#[]⟩))) := (hb.out.setCell (Nat.le_refl _) _).setCell (Nat.le_refl _) _
                clear BE
                go_wp2_with fail
                exact bodyPost_ret (v := .tuple #[.agg #[.slice none 0 0, .string ⟨#[]⟩], .bool false]) (by simp [results, Tryd.results41, go_sem, r0, r1]) rfl (ParPost.mk G0 (by rw [HON.out]; rfl) (fun x hx => by rw [HON.out] at hx; cases hx) ownsG_nil (by simp) BL.out)
    have hat2 := AT58.out (by omega)
    have hQ1 : decide ((LN.size : Int) ≤ (Q : Int) + 1) = false := decide_eq_false (by omega)
    have hg := hy3.out hA
    by_cases h32 : ((LN[Q + 1]'hA).toNat : Int) = 32
    rotate_left
    · have HON : Hid (o = none) := by
        show _ = _; rw [← HE, if_neg]; rintro ⟨_, h, _⟩
        rw [hg] at h
        rw [h] at h32
        exact h32 rfl
      have hc32 : (((LN[Q + 1]'hA).toNat : Int) != 32) = true := by rw [bne_iff_ne]; exact h32
      clear HE hy3 hy1 hy2 hg h32
      go_wp2_with fail
      go_loop [5] (fun i => ∃ k : Nat, k ≤ K ∧ i = .int .i64 (k : Int)) (fun i => s.size - (intOf i).toNat)
      case atStart => exact ⟨0, by omega, rfl⟩
      case round =>
        obtain ⟨k, hk, rfl⟩ := hrel
        by_cases hlt : k < K
        · have hks : k < s.size := by omega
          have hc := NE10.out k hks hlt
          go_wp2_with fail
          go_round
          case rel => exact ⟨k + 1, by omega, by go_num⟩
          case measure => simp [intOf]; omega
        · have hkk : K = k := by omega
          subst hkk
          clear hk hlt
          go_wp2_with fail
          go_loop [7] (fun i => ∃ k : Nat, k ≤ Q ∧ i = .int .i64 (k : Int)) (fun i => LN.size - (intOf i).toNat)
          case atStart => exact ⟨0, by omega, rfl⟩
          case round =>
            obtain ⟨k, hk, rfl⟩ := hrel
            by_cases hlt : k < Q
            · have hks : k < LN.size := by omega
              have hc := NE58.out k hks hlt
              go_wp2_with fail
              go_round
              case rel => exact ⟨k + 1, by omega, by go_num⟩
              case measure => simp [intOf]; omega
            · have hkk : Q = k := by omega
              subst hkk
              clear hk hlt
              obtain ⟨q0, qf0⟩ := hR.out 0 _ rfl
              obtain ⟨q1, qf1⟩ := (hR.out.set 0 (.slice none 0 0)) 1 _ rfl
              have BE := (hR.out.set 0 (.slice none 0 0)).set 1 (.string ⟨#[]⟩)
              obtain ⟨r0, _⟩ := BE 0 _ rfl
              obtain ⟨r1, _⟩ := BE 1 _ rfl
              have BL : Hid (Below w.heap.size w ((wr.setCell ⟨w.heap.size, 0, none⟩ (.slice none 0 0)).setCell ⟨w.heap.size, 1, none⟩ (.string ⟨#[]⟩))) := (hb.out.setCell (Nat.le_refl _) _).setCell (Nat.le_refl _) _
              clear BE
              go_wp2_with fail
              exact bodyPost_ret (v := .tuple #[.agg #[.slice none 0 0, .string ⟨#[]⟩], .bool false]) (by simp [results, Tryd.results41, go_sem, r0, r1]) rfl (ParPost.mk G0 (by rw [HON.out]; rfl) (fun x hx => by rw [HON.out] at hx; cases hx) ownsG_nil (by simp) BL.out)
    have hc32 : (((LN[Q + 1]'hA).toNat : Int) != 32) = false := by rw [h32]; rfl
    have hg32 : ln.getD (Q + 1) 0 = 32 := by
      rw [hg]; exact UInt8.toNat_inj.1 (by show _ = 32; omega)
    clear hg h32
    obtain ⟨bn, hbn⟩ : ∃ b, nameB NM = b := ⟨_, rfl⟩
    obtain ⟨bv, hbv⟩ : ∃ b, valB VL = b := ⟨_, rfl⟩
    have HCN : ∀ w, Calls Tryd.prog 36 #[.string NM] w fun e w' => e = .returned (.bool bn) ∧ w = w' := fun w => by rw [← hbn]; exact l08NameS NM w HNMZ.out.1
    have HCV : ∀ w, Calls Tryd.prog 37 #[.string VL] w fun e w' => e = .returned (.bool bv) ∧ w = w' := fun w => by rw [← hbv]; exact l08ValueS VL w HNMZ.out.2
    have HE2 : Hid ((if bn = true ∧ bv = true then parS n rt (acc ++ [(NM, VL)]) else none) = o) := by
      show _ = _; rw [← HE, hbn, hbv]
      have hA2 : Q + 1 < ln.length := by have := HLS.out; omega
      by_cases h9 : bn = true ∧ bv = true
      · rw [if_pos h9, if_pos ⟨hA2, hg32, h9.1, h9.2⟩]
      · rw [if_neg h9, if_neg (fun h => h9 ⟨h.2.2.1, h.2.2.2⟩)]
    clear HE hy3 hbn hbv hg32
    cases bn with
    | false =>
      have HON : Hid (o = none) := by show _ = _; rw [← HE2.out]; rfl
      clear HE2 hy2
      go_wp2_with fail
      go_loop [5] (fun i => ∃ k : Nat, k ≤ K ∧ i = .int .i64 (k : Int)) (fun i => s.size - (intOf i).toNat)
      case atStart => exact ⟨0, by omega, rfl⟩
      case round =>
        obtain ⟨k, hk, rfl⟩ := hrel
        by_cases hlt : k < K
        · have hks : k < s.size := by omega
          have hc := NE10.out k hks hlt
          go_wp2_with fail
          go_round
          case rel => exact ⟨k + 1, by omega, by go_num⟩
          case measure => simp [intOf]; omega
        · have hkk : K = k := by omega
          subst hkk
          clear hk hlt
          go_wp2_with fail
          go_loop [7] (fun i => ∃ k : Nat, k ≤ Q ∧ i = .int .i64 (k : Int)) (fun i => LN.size - (intOf i).toNat)
          case atStart => exact ⟨0, by omega, rfl⟩
          case round =>
            obtain ⟨k, hk, rfl⟩ := hrel
            by_cases hlt : k < Q
            · have hks : k < LN.size := by omega
              have hc := NE58.out k hks hlt
              go_wp2_with fail
              go_round
              case rel => exact ⟨k + 1, by omega, by go_num⟩
              case measure => simp [intOf]; omega
            · have hkk : Q = k := by omega
              subst hkk
              clear hk hlt
              obtain ⟨q0, qf0⟩ := hR.out 0 _ rfl
              obtain ⟨q1, qf1⟩ := (hR.out.set 0 (.slice none 0 0)) 1 _ rfl
              have BE := (hR.out.set 0 (.slice none 0 0)).set 1 (.string ⟨#[]⟩)
              obtain ⟨r0, _⟩ := BE 0 _ rfl
              obtain ⟨r1, _⟩ := BE 1 _ rfl
              have BL : Hid (Below w.heap.size w ((wr.setCell ⟨w.heap.size, 0, none⟩ (.slice none 0 0)).setCell ⟨w.heap.size, 1, none⟩ (.string ⟨#[]⟩))) := (hb.out.setCell (Nat.le_refl _) _).setCell (Nat.le_refl _) _
              clear BE
              go_wp2_with (go_at_call 36; refine (HCN _).mono ?_; rintro e w' ⟨rfl, rfl⟩)
              exact bodyPost_ret (v := .tuple #[.agg #[.slice none 0 0, .string ⟨#[]⟩], .bool false]) (by simp [results, Tryd.results41, go_sem, r0, r1]) rfl (ParPost.mk G0 (by rw [HON.out]; rfl) (fun x hx => by rw [HON.out] at hx; cases hx) ownsG_nil (by simp) BL.out)
    | true =>
    cases bv with
    | false =>
      have HON : Hid (o = none) := by show _ = _; rw [← HE2.out]; rfl
      clear HE2
      go_wp2_with fail
      go_loop [5] (fun i => ∃ k : Nat, k ≤ K ∧ i = .int .i64 (k : Int)) (fun i => s.size - (intOf i).toNat)
      case atStart => exact ⟨0, by omega, rfl⟩
      case round =>
        obtain ⟨k, hk, rfl⟩ := hrel
        by_cases hlt : k < K
        · have hks : k < s.size := by omega
          have hc := NE10.out k hks hlt
          go_wp2_with fail
          go_round
          case rel => exact ⟨k + 1, by omega, by go_num⟩
          case measure => simp [intOf]; omega
        · have hkk : K = k := by omega
          subst hkk
          clear hk hlt
          go_wp2_with fail
          go_loop [7] (fun i => ∃ k : Nat, k ≤ Q ∧ i = .int .i64 (k : Int)) (fun i => LN.size - (intOf i).toNat)
          case atStart => exact ⟨0, by omega, rfl⟩
          case round =>
            obtain ⟨k, hk, rfl⟩ := hrel
            by_cases hlt : k < Q
            · have hks : k < LN.size := by omega
              have hc := NE58.out k hks hlt
              go_wp2_with fail
              go_round
              case rel => exact ⟨k + 1, by omega, by go_num⟩
              case measure => simp [intOf]; omega
            · have hkk : Q = k := by omega
              subst hkk
              clear hk hlt
              obtain ⟨q0, qf0⟩ := hR.out 0 _ rfl
              obtain ⟨q1, qf1⟩ := (hR.out.set 0 (.slice none 0 0)) 1 _ rfl
              have BE := (hR.out.set 0 (.slice none 0 0)).set 1 (.string ⟨#[]⟩)
              obtain ⟨r0, _⟩ := BE 0 _ rfl
              obtain ⟨r1, _⟩ := BE 1 _ rfl
              have BL : Hid (Below w.heap.size w ((wr.setCell ⟨w.heap.size, 0, none⟩ (.slice none 0 0)).setCell ⟨w.heap.size, 1, none⟩ (.string ⟨#[]⟩))) := (hb.out.setCell (Nat.le_refl _) _).setCell (Nat.le_refl _) _
              clear BE
              go_wp2_with (first | (go_at_call 36; refine (HCN _).mono ?_; rintro e w' ⟨rfl, rfl⟩) | (go_at_call 37; refine (HCV _).mono ?_; rintro e w' ⟨rfl, rfl⟩))
              exact bodyPost_ret (v := .tuple #[.agg #[.slice none 0 0, .string ⟨#[]⟩], .bool false]) (by simp [results, Tryd.results41, go_sem, r0, r1]) rfl (ParPost.mk G0 (by rw [HON.out]; rfl) (fun x hx => by rw [HON.out] at hx; cases hx) ownsG_nil (by simp) BL.out)
    | true =>
      have HE3 : Hid (parS n rt (acc ++ [(NM, VL)]) = o) := HE2.out
      have LA : Hid ((acc ++ [(NM, VL)]).length = m + 1) := by show _ = _; simp; exact HMM.out
      have NEQ : Hid (Value.ownBlock (.slice va m vc) ≠ some (w.heap.size + 1 + 1)) := own_notkind how.out hK.out (by decide)
      have hmb : m ≤ 100000 := HMB.out
      have ZB : Hid ((w.heap.size + 1) ≤ wr.heap.size) := by have := World.block_lt_of_cell? _ _ (hM.out 0 _ rfl).1; show _ ≤ _; simp only at this; omega
      have MS : Hid (strLen (.string RS) < strLen (.string s)) := HRL.out
      clear HE2
      go_wp2_with fail
      go_loop [5] (fun i => ∃ k : Nat, k ≤ K ∧ i = .int .i64 (k : Int)) (fun i => s.size - (intOf i).toNat)
      case atStart => exact ⟨0, by omega, rfl⟩
      case round =>
        obtain ⟨k, hk, rfl⟩ := hrel
        by_cases hlt : k < K
        · have hks : k < s.size := by omega
          have hc := NE10.out k hks hlt
          go_wp2_with fail
          go_round
          case rel => exact ⟨k + 1, by omega, by go_num⟩
          case measure => simp [intOf]; omega
        · have hkk : K = k := by omega
          subst hkk
          clear hk hlt
          go_wp2_with fail
          go_loop [7] (fun i => ∃ k : Nat, k ≤ Q ∧ i = .int .i64 (k : Int)) (fun i => LN.size - (intOf i).toNat)
          case atStart => exact ⟨0, by omega, rfl⟩
          case round =>
            obtain ⟨k, hk, rfl⟩ := hrel
            by_cases hlt : k < Q
            · have hks : k < LN.size := by omega
              have hc := NE58.out k hks hlt
              go_wp2_with fail
              go_round
              case rel => exact ⟨k + 1, by omega, by go_num⟩
              case measure => simp [intOf]; omega
            · have hkk : Q = k := by omega
              subst hkk
              clear hk hlt
              go_wp2_with (first | (go_at_call 36; refine (HCN _).mono ?_; rintro e w' ⟨rfl, rfl⟩) | (go_at_call 37; refine (HCV _).mono ?_; rintro e w' ⟨rfl, rfl⟩))
              obtain ⟨e2, _⟩ := hM.out 0 _ rfl
              have XA : Hid (Box (wr.alloc (.cells #[.string NM, .string VL] 33)) (w.heap.size + 1 + 1) [.slice va m vc, .string ⟨#[]⟩]) := hM.out.old _
              have ZA : Hid (Box (wr.alloc (.cells #[.string NM, .string VL] 33)) w.heap.size [.slice none 0 0, .string ⟨#[]⟩]) := hR.out.old _
              have KA : Hid (KindAt (wr.alloc (.cells #[.string NM, .string VL] 33)) (w.heap.size + 1 + 1) 25) := hK.out.below ((Below.refl _ _).alloc (Nat.le_refl _) _)
              obtain ⟨e2', _⟩ := XA.out 0 _ rfl
              have BA : Hid (Below w.heap.size w (wr.alloc (.cells #[.string NM, .string VL] 33)).drew) := (hb.out.alloc hb.out.size _).drew
              have RW : Hid ((wr.alloc (.cells #[.string NM, .string VL] 33)).drew.ownsRow (w.heap.size + 1) 33 2 (.slice va m vc) m (cellsFl acc)) := how.out.alloc _
              have BQ : Hid ((w.heap.size + 1) ≤ (wr.alloc (.cells #[.string NM, .string VL] 33)).drew.heap.size) := le_alloc ZB.out _
              have RLT : Hid (∀ g, Value.ownBlock (.slice va m vc) = some g → (w.heap.size + 1) ≤ g ∧ g < wr.heap.size) := fun g e => how.out.lt g e
              clear hR hM hK how hb hat hat2 hsq hq hQ1 hc32 hx1 hx2
              have hw2 : IntKind.i64.wrap ((Q : Int) + 2) = (Q : Int) + 2 := by rw [IntKind.wrap_i64]; omega
              have hq0 : (0 : Int) ≤ (Q : Int) + 2 := by omega
              have hq2 : (Q : Int) + 2 ≤ (LN.size : Int) := by omega
              have hq3 : ((Q : Int) + 2).toNat = Q + 2 := by omega
              have hq4 : (Q : Int) ≤ (LN.size : Int) := by omega
              go_region_law (refine step_append_src rfl (.tmp 84) (.tmp 93) 23 rfl (w.heap.size + 1) 33 (.agg #[.string ⟨#[]⟩, .string ⟨#[]⟩]) 2 32 Tryd.underlying23 infoFl rfl (by decide) (by decide) (.slice va m vc) m (cellsFl acc) (by simp [Act.eval]) RW.out ⟨wr.heap.size, 0, none⟩ 1 1 (cellsFl [(NM, VL)]) (by simp [Act.eval]) rfl (show Src (wr.alloc (.cells #[.string NM, .string VL] 33)) _ _ from src_oneF rfl) (cellsFl_one _) (by omega) (by decide) BQ.out ?_; intro v' w' hown hgrow hnew; obtain ⟨b', d', rfl, _, _⟩ := own_src hown; have XG : Hid (Box w' (w.heap.size + 1 + 1) [.slice va m vc, .string ⟨#[]⟩]) := (Box.grown (w := (wr.alloc (.cells #[.string NM, .string VL] 33)).drew) XA.out hgrow NEQ.out); have ZG : Hid (Box w' w.heap.size [.slice none 0 0, .string ⟨#[]⟩]) := (Box.grown (w := (wr.alloc (.cells #[.string NM, .string VL] 33)).drew) ZA.out hgrow (fun e => by have := (RLT.out _ e).1; omega)); have KG : Hid (KindAt w' (w.heap.size + 1 + 1) 25) := (KindAt.grown (w := (wr.alloc (.cells #[.string NM, .string VL] 33)).drew) KA.out hgrow NEQ.out); obtain ⟨pw, pf⟩ := XG.out 0 _ rfl; have OG : Hid (w'.ownsRow (w.heap.size + 1) 33 2 (.slice b' (m + 1) d') (m + 1) (cellsFl (acc ++ [(NM, VL)]))) := (own_congr hown (cellsFl_append _ _).symm); have NE2 : Hid (Value.ownBlock (.slice b' (m + 1) d') ≠ some (w.heap.size + 1 + 1)) := (own_notkind OG.out KG.out (by decide)); have BG : Hid (Below w.heap.size w w') := (BA.out.grown hgrow BA.out.size (fun g e => by have := (RLT.out g e).1; omega)); clear hown hgrow hnew)
              all_goals go_wp2_with fail
              all_goals exact ⟨⟨n, rt, RS, acc ++ [(NM, VL)], _, HRN.out.1, by rw [LA.out]; exact HRN.out.2, rfl, HRS.out, HE3.out, ZG.out.other _ (by dsimp only; omega) _, XG.out.set 0 _, KG.out.set _ _, by rw [LA.out]; exact own_setOther OG.out NE2.out _, BG.out.setCell (by dsimp only; omega) _⟩, MS.out⟩
end Go.Proofs.YtgbhjhbmolgbeaaDoor
