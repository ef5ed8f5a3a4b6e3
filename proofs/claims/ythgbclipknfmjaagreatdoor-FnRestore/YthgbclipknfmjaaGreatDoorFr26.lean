/-
  Exs in one. By an AI agent.
-/
import Derived.Test.YthgbclipknfmjaaGreatDoorFr25
namespace Go.Proofs.YthgbclipknfmjaaGreatDoor
open Go.ChangeShapes Go.WideShapes Go.ChangeAt Go.RowKit Go.Deep Go.Lib
set_option linter.unusedVariables false
set_option linter.unusedSimpArgs false
set_option maxRecDepth 100000

def LenD (n c : Nat) (R : List PM) (n2 c2 : Nat) : Prop := R.length = n2 ∧ (n ≤ c ∧ c ≤ maxLen → n2 ≤ c2 ∧ c2 ≤ maxLen)
theorem l01DropR (a : Option Addr) (n c : Nat) (L : List PM) (key : ByteArray) (w : World) (hL : L.length = n) (hn : n ≤ 4096) (h : Src w a (cellsP L)) (R : List PM) (m : Nat) (hR : notK key L = R) (hm : R.length = m) :
    Calls Tryz.prog 96 #[.slice a n c, .string key] w fun e w' => ∃ a2 c2, e = .returned (.slice a2 m c2) ∧ w'.ownsRow w.heap.size 68 2 (.slice a2 m c2) m (cellsP R) ∧ Below w.heap.size w w' := by
  refine (l01Drop a n c (fK L) (fV L) key w hn (sp_src h hL)).mono ?_
  rintro e w' ⟨v, rfl, ho, hb⟩
  have e1 : dropTo (fK L) (fV L) key n = R := by
    rw [dropTo_is L key n (by omega), List.take_of_length_le (by omega), hR]
  rw [e1] at ho
  have ho2 : w'.ownsRow w.heap.size 68 2 v m (cellsP R) := by rw [← hm]; exact ho
  obtain ⟨a2, c2, rfl, _, _⟩ := own_src ho2
  exact ⟨a2, c2, rfl, ho2, hb⟩
theorem src_oneI {w : World} {x : Int} {B ty : Nat} (hB : B = w.heap.size) : Src (w.alloc (.cells #[.int .i64 x] ty)) (some ⟨B, 0, none⟩) (cellsI [x]) := by
  have hb : Box (w.alloc (.cells #[.int .i64 x] ty)) B [.int .i64 x] := Box.new hB
  refine .inr ⟨B, 0, rfl, fun j hj => ?_⟩
  have hj4 : j < 1 := hj
  rw [Nat.zero_add]
  match j, hj4 with
  | 0, _ => exact (hb 0 _ rfl).1
set_option maxHeartbeats 8000000 in
theorem l07ExpungeC (b o n c : Nat) (L : List PM) (hL : L.length = n) (hg : GoodL L) (hst : storeB L = true) (u f : ByteArray) (hsu : shortB u = true) (hsf : shortB f = true) (w : World) (h : Src w (some ⟨b, o, none⟩) (cellsP L)) (R : List PM) (G : List Int) (q : Int) (HR : Hid (exR L u f = (R, G, q))) :
    Calls Tryz.prog 52 #[.slice (some ⟨b, o, none⟩) n c, .string u, .string f] w fun e w' => ∃ a2 n2 c2 v, e = .returned (.tuple #[.slice a2 n2 c2, v, .int .i64 q]) ∧ LenD n c R n2 c2 ∧ Src w' a2 (cellsP R) ∧ w'.ownsRow w.heap.size 3 1 v G.length (cellsI G) ∧ Below w.heap.size w w' := by
  have hn60 := hg.1
  rw [hL] at hn60
  have hus := word_slash hsu
  have hfs := word_slash hsf
  have zu := short_size' hsu
  have zf := short_size' hsf
  have HLN : Hid (L.length = n ∧ Src w (some ⟨b, o, none⟩) (cellsP L)) := ⟨hL, h⟩
  have CK := l07KnownS (some ⟨b, o, none⟩) n c L hL hg u f (by omega) (by omega) w h _ rfl
  have HR1 := HR.out
  unfold exR at HR1
  obtain ⟨k1, hk1⟩ : ∃ z, knownR L u f = z := ⟨_, rfl⟩
  rw [hk1] at CK HR1
  by_cases e1 : k1 = 0
  case neg =>
    rw [if_pos e1] at HR1
    have hki : (k1 != 0) = true := by simpa using e1
    have HF : Hid (∀ W, Below w.heap.size w W → ∃ a2 n2 c2 v, Ending.returned (Value.tuple #[.slice (some ⟨b, o, none⟩) n c, .slice (some ⟨W.heap.size, 0, none⟩) 0 0, .int .i64 k1]) = Ending.returned (.tuple #[.slice a2 n2 c2, v, .int .i64 q]) ∧ LenD n c R n2 c2 ∧ Src (W.alloc (.cells #[] 3)) a2 (cellsP R) ∧ (W.alloc (.cells #[] 3)).ownsRow w.heap.size 3 1 v G.length (cellsI G) ∧ Below w.heap.size w (W.alloc (.cells #[] 3))) := fun W hW => by
      cases HR1
      exact ⟨_, _, _, _, rfl, ⟨HLN.out.1, fun h9 => h9⟩, HLN.out.2.below (hW.alloc hW.size _), own_empty rfl hW.size, hW.alloc hW.size _⟩
    clear hL h hg HR HR1 hk1 hst hsu hsf hus hfs
    go_enter Tryz.func52, Tryz.ntmps52
    go_wp2_with fail
    refine CK.mono ?_
    rintro e w1 ⟨rfl, hb1⟩
    have HF1 := HF.out w1 hb1
    have HG : Hid (∃ a2 n2 c2 v, Ending.returned (Value.tuple #[.slice (some ⟨b, o, none⟩) n c, .slice (some ⟨w1.heap.size, 0, none⟩) 0 0, .int .i64 k1]) = Ending.returned (.tuple #[.slice a2 n2 c2, v, .int .i64 q]) ∧ LenD n c R n2 c2 ∧ Src (w1.alloc (.cells #[] 3)) a2 (cellsP R) ∧ (w1.alloc (.cells #[] 3)).ownsRow w.heap.size 3 1 v G.length (cellsI G) ∧ Below w.heap.size w (w1.alloc (.cells #[] 3))) := HF1
    clear hb1 CK HF HF1
    go_wp2_with fail
    exact bodyPost_ret (v := .tuple #[.slice (some ⟨b, o, none⟩) n c, .slice (some ⟨w1.heap.size, 0, none⟩) 0 0, .int .i64 k1]) (by simp [results, Tryz.results52, go_sem]) rfl HG.out
  subst e1
  rw [if_neg (by decide)] at HR1
  obtain ⟨S, hS, _, _⟩ := take_all hst hus
  obtain ⟨hw, g, hl⟩ := known_zero hst hus hfs hS hk1
  have hrn := rnF_is hS hl
  unfold exY at HR1
  rw [hrn] at HR1
  have hfit := store_fit hst hS g (lookF_mem hl).1
  have CO := fun W (hW : Below w.heap.size w W) => l07OfS (some ⟨b, o, none⟩) n c L hL hg u f (by omega) (by omega) g.mails (fit_ms hfit) (fol_mails hst hus hfs hS hw hl) W (h.below hW)
  have hml60 : g.mails.length ≤ 60 := by
    have h9 := (store_sub hst hS g (lookF_mem hl).1).length_le
    rw [List.length_map] at h9
    omega
  have hbw : b < w.heap.size := by
    rcases h with h9 | ⟨b9, o9, e9, h9⟩
    · have h8 := cellsP_length L
      rw [h9] at h8
      have h7 := List.length_pos_of_mem (v_mem hst)
      simp at h8
      omega
    · cases e9
      have h7 := List.length_pos_of_mem (v_mem hst)
      have h6 := h9 0 (by rw [cellsP_length]; omega)
      exact World.block_lt_of_cell? _ _ h6
  obtain ⟨Ms, hMs⟩ : ∃ t, g.mails = t := ⟨_, rfl⟩
  have HFM : Hid (FitMs Ms) := by rw [← hMs]; exact fit_ms hfit
  obtain ⟨ml, hml⟩ : ∃ t, Ms.length = t := ⟨_, rfl⟩
  simp only [hMs, hml] at CO
  rw [hMs] at HR1 hml60
  rw [hml] at hml60 HR1
  have HML : Hid (Ms.length = ml) := hml
  have HRQ : Hid (exTo L u f Ms ml = R ∧ goI Ms = G ∧ 0 = q) := by cases HR1; exact ⟨rfl, rfl, rfl⟩
  clear hL h hg HR HR1 hk1 hst hsu hsf hus hfs hS hw hl hrn hfit hMs hml
  go_enter Tryz.func52, Tryz.ntmps52
  go_wp2_with fail
  refine CK.mono ?_
  rintro e w1 ⟨rfl, hb1⟩
  obtain ⟨w2, hw2⟩ : ∃ W, w1.alloc (.cells #[] 3) = W := ⟨_, rfl⟩
  have A2 : Below w1.heap.size w1 w2 := by rw [← hw2]; exact (Below.refl _ _).alloc (Nat.le_refl _) _
  have B2 : Hid (Below w.heap.size w w2) := hb1.trans (A2.mono hb1.size)
  have O2 : Hid (w2.ownsRow w.heap.size 3 1 (.slice (some ⟨w1.heap.size, 0, none⟩) 0 0) 0 (cellsI [])) := by
    show World.ownsRow _ _ _ _ _ _ _
    rw [← hw2]
    exact own_empty rfl hb1.size
  have CO2 := CO w2 B2.out
  clear hb1 CK CO A2
  go_wp2_with fail
  refine CO2.mono ?_
  rintro e w3 ⟨v3, rfl, ho3, hb3⟩
  obtain ⟨am, cm, rfl, _, _⟩ := own_src ho3
  have B3 : Hid (Below w.heap.size w w3) := B2.out.trans (hb3.mono B2.out.size)
  have O3 : Hid (w3.ownsRow w.heap.size 3 1 (.slice (some ⟨w1.heap.size, 0, none⟩) 0 0) 0 (cellsI []) ∧ w3.ownsRow w.heap.size 37 3 (.slice am ml cm) ml (cellsMl Ms)) := ⟨own_below O2.out hb3, own_mono ho3 B2.out.size⟩
  clear hb3 ho3 CO2 O2 hw2
  go_wp2_with fail
  go_loopw [10, 11, 13] (fun gv v iv wr => ∃ (j n' g' : Nat) (av : Option Addr) (vc : Nat) (a' : Option Addr) (c' : Nat), j ≤ ml ∧ n' ≤ n ∧ g' ≤ ml ∧ gv = .slice av g' vc ∧ v = .slice a' n' c' ∧ iv = .int .i64 (j : Int) ∧ Hid ((goI (Ms.take j)).length = g' ∧ (exTo L u f Ms j).length = n') ∧ Hid (wr.ownsRow w.heap.size 3 1 (.slice av g' vc) g' (cellsI (goI (Ms.take j)))) ∧ Hid (wr.ownsRow w.heap.size 37 3 (.slice am ml cm) ml (cellsMl Ms)) ∧ Hid (((a' = some ⟨b, o, none⟩ ∧ (n' = n ∧ c' = c) ∧ exTo L u f Ms j = L) ∨ wr.ownsRow w.heap.size 68 2 (.slice a' n' c') n' (cellsP (exTo L u f Ms j)))) ∧ Hid (Below w.heap.size w wr)) (fun _ _ i _ => ml - (RowKit.intOf i).toNat)
  case atStart => exact ⟨0, n, 0, _, _, _, _, by omega, Nat.le_refl _, by omega, rfl, rfl, rfl, ⟨rfl, by rw [ex_zero]; exact HLN.out.1⟩, O3.out.1, O3.out.2, .inl ⟨rfl, ⟨rfl, rfl⟩, ex_zero _ _ _ _⟩, B3.out⟩
  case round =>
    obtain ⟨j, n', g', av, vc, a', c', hj, hn', hg', rfl, rfl, rfl, hlen, hog, hom, hout, hbr⟩ := hrel
    by_cases hlt : j < ml
    · have hlti : (j : Int) < (ml : Int) := by omega
      have hjM : j < Ms.length := by rw [HML.out]; exact hlt
      have hsm : Src wr am (cellsMl Ms) := by
        obtain ⟨a9, c9, e9, s9, _⟩ := own_src hom.out
        cases e9
        exact s9
      obtain ⟨bm, om, x0, x1, x2, rfl, m0, m1, m2, hx⟩ := srcMl hsm hjM
      obtain ⟨y0, y1, y2, y3, y4⟩ := HFM.out (Ms.getD j ml0) (mem_getD' Ms ml0 j hjM)
      rw [hx.out] at y0 y1 y2 y3 y4
      dsimp only at y0 y1 y2 y3 y4
      obtain ⟨un, hun⟩ : ∃ un : Nat, (un : Int) = x0 := ⟨x0.toNat, by omega⟩
      subst hun
      have hu9 : un < 1000 := by omega
      have hx9 := hx.out
      clear hx hsm
      have hfl : x1 = 0 ∨ x1 = 1 ∨ x1 = 2 ∨ x1 = 3 := by omega
      clear y2 y3
      rcases hfl with rfl | rfl | rfl | rfl
      · have hd : delB (Ms.getD j ml0) = false := by rw [hx9]; rfl
        obtain ⟨k1, k2⟩ := ex_miss (L := L) (u := u) (f := f) hjM hd
        have HF : Hid (((goI (Ms.take (j + 1))).length = g' ∧ (exTo L u f Ms (j + 1)).length = n') ∧ wr.ownsRow w.heap.size 3 1 (.slice av g' vc) g' (cellsI (goI (Ms.take (j + 1)))) ∧ (((a' = some ⟨b, o, none⟩ ∧ (n' = n ∧ c' = c) ∧ exTo L u f Ms (j + 1) = L) ∨ wr.ownsRow w.heap.size 68 2 (.slice a' n' c') n' (cellsP (exTo L u f Ms (j + 1)))))) := by
          show _ ∧ _ ∧ _
          rw [← k1, k2]
          exact ⟨hlen.out, hog.out, hout.out⟩
        clear hd k1 k2 hx9 hlen hog hout
        go_wp2_with fail
        exact ⟨⟨j + 1, n', g', _, _, _, _, by omega, hn', hg', rfl, rfl, by go_num, HF.out.1, HF.out.2.1, hom.out, HF.out.2.2, hbr.out⟩, by simp [RowKit.intOf]; omega⟩
      · have hd : delB (Ms.getD j ml0) = false := by rw [hx9]; rfl
        obtain ⟨k1, k2⟩ := ex_miss (L := L) (u := u) (f := f) hjM hd
        have HF : Hid (((goI (Ms.take (j + 1))).length = g' ∧ (exTo L u f Ms (j + 1)).length = n') ∧ wr.ownsRow w.heap.size 3 1 (.slice av g' vc) g' (cellsI (goI (Ms.take (j + 1)))) ∧ (((a' = some ⟨b, o, none⟩ ∧ (n' = n ∧ c' = c) ∧ exTo L u f Ms (j + 1) = L) ∨ wr.ownsRow w.heap.size 68 2 (.slice a' n' c') n' (cellsP (exTo L u f Ms (j + 1)))))) := by
          show _ ∧ _ ∧ _
          rw [← k1, k2]
          exact ⟨hlen.out, hog.out, hout.out⟩
        clear hd k1 k2 hx9 hlen hog hout
        go_wp2_with fail
        exact ⟨⟨j + 1, n', g', _, _, _, _, by omega, hn', hg', rfl, rfl, by go_num, HF.out.1, HF.out.2.1, hom.out, HF.out.2.2, hbr.out⟩, by simp [RowKit.intOf]; omega⟩
      · have hd : delB (Ms.getD j ml0) = true := by rw [hx9]; rfl
        obtain ⟨k1, k2⟩ := ex_hit (L := L) (u := u) (f := f) hjM hd
        rw [hx9] at k1 k2
        dsimp only at k1 k2
        have hel := ex_len L u f Ms (j + 1)
        rw [HLN.out.1] at hel
        have hgl := go_len Ms (j + 1)
        rw [HML.out] at hgl
        obtain ⟨R9, hR9⟩ : ∃ t, exTo L u f Ms (j + 1) = t := ⟨_, rfl⟩
        obtain ⟨n9, hn9⟩ : ∃ t, R9.length = t := ⟨_, rfl⟩
        have HN9 : Hid ((exTo L u f Ms (j + 1)).length = n9 ∧ exTo L u f Ms (j + 1) = R9) := ⟨by rw [hR9]; exact hn9, hR9⟩
        rw [hR9, hn9] at hel
        have CM := fun W => l07MailS u f un hu9 (by omega) (by omega) W
        have CD : Hid (∀ W, Below w.heap.size w W → (((a' = some ⟨b, o, none⟩ ∧ (n' = n ∧ c' = c) ∧ exTo L u f Ms j = L) ∨ W.ownsRow w.heap.size 68 2 (.slice a' n' c') n' (cellsP (exTo L u f Ms j)))) → Calls Tryz.prog 96 #[.slice a' n' c', .string (mailK u f (un : Int))] W fun e w' => ∃ a2 c2, e = .returned (.slice a2 n9 c2) ∧ w'.ownsRow W.heap.size 68 2 (.slice a2 n9 c2) n9 (cellsP R9) ∧ Below W.heap.size W w') := fun W hW ho => by
          refine l01DropR a' n' c' (exTo L u f Ms j) (mailK u f (un : Int)) W hlen.out.2 (by omega) ?_ R9 n9 (by rw [k1, hR9]) hn9
          rcases ho with ⟨e1, e2, e3⟩ | ho
          · rw [e3, e1]
            exact HLN.out.2.below hW
          · obtain ⟨a9, c9, e9, s9, _⟩ := own_src ho
            cases e9
            exact s9
        have HU : Hid (cellsI (goI (Ms.take j)) ++ cellsI [(un : Int)] = cellsI (goI (Ms.take (j + 1)))) := by
          show _ = _
          rw [k2, cellsI_append]
        have HG9 : Hid ((goI (Ms.take (j + 1))).length = g' + 1) := by
          show _ = _
          rw [k2, List.length_append, hlen.out.1]
          rfl
        have hg9 : g' + 1 ≤ ml := by have h9 := HG9.out; omega
        obtain ⟨MK, hMK⟩ : ∃ t, mailK u f (un : Int) = t := ⟨_, rfl⟩
        simp only [hMK] at CM
        rw [hMK] at CD
        have HX9 : Hid (Ms.getD j ml0 = ((un : Int), 2, x2)) := hx9
        clear hd k1 k2 hx9 hlen hR9 hn9 hMK hgl
        go_wp2_with (at_builtin; refine wpList_append_src _ rfl _ _ 31 rfl w.heap.size 3 (.int .i64 0) 1 8 Tryz.underlying31 infoI rfl (by decide) (by decide) (.slice av g' vc) g' (cellsI (goI (Ms.take j))) rfl (hog.out.alloc _) (some ⟨wr.heap.size, 0, none⟩) 1 1 (cellsI [(un : Int)]) rfl rfl (src_oneI rfl) (cellsI_one _) (by omega) (by have := hbr.out.size; simp; omega) ?_)
        intro v' w4 hown hgrow
        obtain ⟨a4, d4, rfl, _, _⟩ := own_src hown
        have B4 : Hid (Below w.heap.size w w4) := (hbr.out.alloc hbr.out.size _).grown hgrow (le_alloc hbr.out.size _) (fun g e => (hog.out.lt g e).1)
        have O4 : Hid (w4.ownsRow w.heap.size 3 1 (.slice a4 (g' + 1) d4) (g' + 1) (cellsI (goI (Ms.take (j + 1))))) := own_congr hown HU.out
        have hgo := hog.out.alloc (.cells #[.int .i64 (un : Int)] 3)
        have M4 : Hid (w4.ownsRow w.heap.size 37 3 (.slice (some ⟨bm, om, none⟩) ml cm) ml (cellsMl Ms)) := own_grown (hom.out.alloc _) hgrow (fun k e e2 => own_ne (hom.out.alloc (.cells #[.int .i64 (un : Int)] 3)) hgo (by decide) k e e2)
        have T4 : Hid (((a' = some ⟨b, o, none⟩ ∧ (n' = n ∧ c' = c) ∧ exTo L u f Ms j = L) ∨ w4.ownsRow w.heap.size 68 2 (.slice a' n' c') n' (cellsP (exTo L u f Ms j)))) := by
          rcases hout.out with h9 | h9
          · exact .inl h9
          · exact .inr (own_grown (h9.alloc _) hgrow (fun k e e2 => own_ne (h9.alloc (.cells #[.int .i64 (un : Int)] 3)) hgo (by decide) k e e2))
        have m04 : w4.cell? ⟨bm, om + j * 3, none⟩ = some (.int .i64 (un : Int)) := by
          obtain ⟨a9, c9, e9, s9, _⟩ := own_src M4.out
          cases e9
          rcases s9 with s9 | ⟨b8, o8, e8, s8⟩
          · have h7 := cellsMl_length Ms
            rw [s9] at h7
            simp at h7
            omega
          · cases e8
            have h6 := s8 (j * 3) (by rw [cellsMl_length]; omega)
            rw [h6]
            have h5 := (cellsMl_get Ms j hjM).1
            rw [HX9.out] at h5
            rw [List.getD_eq_getElem?_getD, h5]
            rfl
        clear hown hgrow hgo hog hom hout m0 m1 m2
        go_wp2_with fail
        refine (CM _).mono ?_
        rintro e w5 ⟨rfl, hb5⟩
        have B5 : Hid (Below w.heap.size w w5) := B4.out.trans (hb5.mono B4.out.size)
        have T5 : Hid (((a' = some ⟨b, o, none⟩ ∧ (n' = n ∧ c' = c) ∧ exTo L u f Ms j = L) ∨ w5.ownsRow w.heap.size 68 2 (.slice a' n' c') n' (cellsP (exTo L u f Ms j)))) := by
          rcases T4.out with h9 | h9
          · exact .inl h9
          · exact .inr (own_below h9 hb5)
        have O5 : Hid (w5.ownsRow w.heap.size 3 1 (.slice a4 (g' + 1) d4) (g' + 1) (cellsI (goI (Ms.take (j + 1)))) ∧ w5.ownsRow w.heap.size 37 3 (.slice (some ⟨bm, om, none⟩) ml cm) ml (cellsMl Ms)) := ⟨own_below O4.out hb5, own_below M4.out hb5⟩
        have CD5 := CD.out w5 B5.out T5.out
        clear hb5 CM CD O4 M4 T4 T5
        go_wp2_with fail
        refine CD5.mono ?_
        rintro e w6 ⟨a6, c6, rfl, ho6, hb6⟩
        have B6 : Hid (Below w.heap.size w w6) := B5.out.trans (hb6.mono B5.out.size)
        have O6 : Hid (w6.ownsRow w.heap.size 3 1 (.slice a4 (g' + 1) d4) (g' + 1) (cellsI (goI (Ms.take (j + 1)))) ∧ w6.ownsRow w.heap.size 37 3 (.slice (some ⟨bm, om, none⟩) ml cm) ml (cellsMl Ms) ∧ w6.ownsRow w.heap.size 68 2 (.slice a6 n9 c6) n9 (cellsP (exTo L u f Ms (j + 1)))) := ⟨own_below O5.out.1 hb6, own_below O5.out.2 hb6, by rw [HN9.out.2]; exact own_mono ho6 B5.out.size⟩
        clear hb6 ho6 CD5 O5
        go_wp2_with fail
        exact ⟨⟨j + 1, n9, g' + 1, _, _, _, _, by omega, hel, hg9, rfl, rfl, by go_num, ⟨HG9.out, HN9.out.1⟩, O6.out.1, O6.out.2.1, .inr O6.out.2.2, B6.out⟩, by simp [RowKit.intOf]; omega⟩
      · have hd : delB (Ms.getD j ml0) = true := by rw [hx9]; rfl
        obtain ⟨k1, k2⟩ := ex_hit (L := L) (u := u) (f := f) hjM hd
        rw [hx9] at k1 k2
        dsimp only at k1 k2
        have hel := ex_len L u f Ms (j + 1)
        rw [HLN.out.1] at hel
        have hgl := go_len Ms (j + 1)
        rw [HML.out] at hgl
        obtain ⟨R9, hR9⟩ : ∃ t, exTo L u f Ms (j + 1) = t := ⟨_, rfl⟩
        obtain ⟨n9, hn9⟩ : ∃ t, R9.length = t := ⟨_, rfl⟩
        have HN9 : Hid ((exTo L u f Ms (j + 1)).length = n9 ∧ exTo L u f Ms (j + 1) = R9) := ⟨by rw [hR9]; exact hn9, hR9⟩
        rw [hR9, hn9] at hel
        have CM := fun W => l07MailS u f un hu9 (by omega) (by omega) W
        have CD : Hid (∀ W, Below w.heap.size w W → (((a' = some ⟨b, o, none⟩ ∧ (n' = n ∧ c' = c) ∧ exTo L u f Ms j = L) ∨ W.ownsRow w.heap.size 68 2 (.slice a' n' c') n' (cellsP (exTo L u f Ms j)))) → Calls Tryz.prog 96 #[.slice a' n' c', .string (mailK u f (un : Int))] W fun e w' => ∃ a2 c2, e = .returned (.slice a2 n9 c2) ∧ w'.ownsRow W.heap.size 68 2 (.slice a2 n9 c2) n9 (cellsP R9) ∧ Below W.heap.size W w') := fun W hW ho => by
          refine l01DropR a' n' c' (exTo L u f Ms j) (mailK u f (un : Int)) W hlen.out.2 (by omega) ?_ R9 n9 (by rw [k1, hR9]) hn9
          rcases ho with ⟨e1, e2, e3⟩ | ho
          · rw [e3, e1]
            exact HLN.out.2.below hW
          · obtain ⟨a9, c9, e9, s9, _⟩ := own_src ho
            cases e9
            exact s9
        have HU : Hid (cellsI (goI (Ms.take j)) ++ cellsI [(un : Int)] = cellsI (goI (Ms.take (j + 1)))) := by
          show _ = _
          rw [k2, cellsI_append]
        have HG9 : Hid ((goI (Ms.take (j + 1))).length = g' + 1) := by
          show _ = _
          rw [k2, List.length_append, hlen.out.1]
          rfl
        have hg9 : g' + 1 ≤ ml := by have h9 := HG9.out; omega
        obtain ⟨MK, hMK⟩ : ∃ t, mailK u f (un : Int) = t := ⟨_, rfl⟩
        simp only [hMK] at CM
        rw [hMK] at CD
        have HX9 : Hid (Ms.getD j ml0 = ((un : Int), 3, x2)) := hx9
        clear hd k1 k2 hx9 hlen hR9 hn9 hMK hgl
        go_wp2_with (at_builtin; refine wpList_append_src _ rfl _ _ 31 rfl w.heap.size 3 (.int .i64 0) 1 8 Tryz.underlying31 infoI rfl (by decide) (by decide) (.slice av g' vc) g' (cellsI (goI (Ms.take j))) rfl (hog.out.alloc _) (some ⟨wr.heap.size, 0, none⟩) 1 1 (cellsI [(un : Int)]) rfl rfl (src_oneI rfl) (cellsI_one _) (by omega) (by have := hbr.out.size; simp; omega) ?_)
        intro v' w4 hown hgrow
        obtain ⟨a4, d4, rfl, _, _⟩ := own_src hown
        have B4 : Hid (Below w.heap.size w w4) := (hbr.out.alloc hbr.out.size _).grown hgrow (le_alloc hbr.out.size _) (fun g e => (hog.out.lt g e).1)
        have O4 : Hid (w4.ownsRow w.heap.size 3 1 (.slice a4 (g' + 1) d4) (g' + 1) (cellsI (goI (Ms.take (j + 1))))) := own_congr hown HU.out
        have hgo := hog.out.alloc (.cells #[.int .i64 (un : Int)] 3)
        have M4 : Hid (w4.ownsRow w.heap.size 37 3 (.slice (some ⟨bm, om, none⟩) ml cm) ml (cellsMl Ms)) := own_grown (hom.out.alloc _) hgrow (fun k e e2 => own_ne (hom.out.alloc (.cells #[.int .i64 (un : Int)] 3)) hgo (by decide) k e e2)
        have T4 : Hid (((a' = some ⟨b, o, none⟩ ∧ (n' = n ∧ c' = c) ∧ exTo L u f Ms j = L) ∨ w4.ownsRow w.heap.size 68 2 (.slice a' n' c') n' (cellsP (exTo L u f Ms j)))) := by
          rcases hout.out with h9 | h9
          · exact .inl h9
          · exact .inr (own_grown (h9.alloc _) hgrow (fun k e e2 => own_ne (h9.alloc (.cells #[.int .i64 (un : Int)] 3)) hgo (by decide) k e e2))
        have m04 : w4.cell? ⟨bm, om + j * 3, none⟩ = some (.int .i64 (un : Int)) := by
          obtain ⟨a9, c9, e9, s9, _⟩ := own_src M4.out
          cases e9
          rcases s9 with s9 | ⟨b8, o8, e8, s8⟩
          · have h7 := cellsMl_length Ms
            rw [s9] at h7
            simp at h7
            omega
          · cases e8
            have h6 := s8 (j * 3) (by rw [cellsMl_length]; omega)
            rw [h6]
            have h5 := (cellsMl_get Ms j hjM).1
            rw [HX9.out] at h5
            rw [List.getD_eq_getElem?_getD, h5]
            rfl
        clear hown hgrow hgo hog hom hout m0 m1 m2
        go_wp2_with fail
        refine (CM _).mono ?_
        rintro e w5 ⟨rfl, hb5⟩
        have B5 : Hid (Below w.heap.size w w5) := B4.out.trans (hb5.mono B4.out.size)
        have T5 : Hid (((a' = some ⟨b, o, none⟩ ∧ (n' = n ∧ c' = c) ∧ exTo L u f Ms j = L) ∨ w5.ownsRow w.heap.size 68 2 (.slice a' n' c') n' (cellsP (exTo L u f Ms j)))) := by
          rcases T4.out with h9 | h9
          · exact .inl h9
          · exact .inr (own_below h9 hb5)
        have O5 : Hid (w5.ownsRow w.heap.size 3 1 (.slice a4 (g' + 1) d4) (g' + 1) (cellsI (goI (Ms.take (j + 1)))) ∧ w5.ownsRow w.heap.size 37 3 (.slice (some ⟨bm, om, none⟩) ml cm) ml (cellsMl Ms)) := ⟨own_below O4.out hb5, own_below M4.out hb5⟩
        have CD5 := CD.out w5 B5.out T5.out
        clear hb5 CM CD O4 M4 T4 T5
        go_wp2_with fail
        refine CD5.mono ?_
        rintro e w6 ⟨a6, c6, rfl, ho6, hb6⟩
        have B6 : Hid (Below w.heap.size w w6) := B5.out.trans (hb6.mono B5.out.size)
        have O6 : Hid (w6.ownsRow w.heap.size 3 1 (.slice a4 (g' + 1) d4) (g' + 1) (cellsI (goI (Ms.take (j + 1)))) ∧ w6.ownsRow w.heap.size 37 3 (.slice (some ⟨bm, om, none⟩) ml cm) ml (cellsMl Ms) ∧ w6.ownsRow w.heap.size 68 2 (.slice a6 n9 c6) n9 (cellsP (exTo L u f Ms (j + 1)))) := ⟨own_below O5.out.1 hb6, own_below O5.out.2 hb6, by rw [HN9.out.2]; exact own_mono ho6 B5.out.size⟩
        clear hb6 ho6 CD5 O5
        go_wp2_with fail
        exact ⟨⟨j + 1, n9, g' + 1, _, _, _, _, by omega, hel, hg9, rfl, rfl, by go_num, ⟨HG9.out, HN9.out.1⟩, O6.out.1, O6.out.2.1, .inr O6.out.2.2, B6.out⟩, by simp [RowKit.intOf]; omega⟩
    · obtain rfl : j = ml := by omega
      have hlti : ¬ (j : Int) < (j : Int) := by omega
      have HF : Hid (LenD n c R n' c' ∧ Src wr a' (cellsP R) ∧ wr.ownsRow w.heap.size 3 1 (.slice av g' vc) G.length (cellsI G) ∧ Below w.heap.size w wr) := by
        have e8 : Ms.take j = Ms := List.take_of_length_le (by rw [HML.out]; exact Nat.le_refl _)
        have h8 := hlen.out
        have h7 := hog.out
        rw [e8, HRQ.out.2.1] at h7
        rw [e8, HRQ.out.2.1] at h8
        rw [HRQ.out.1] at h8
        refine ⟨⟨h8.2, ?_⟩, ?_, by rw [h8.1]; exact h7, hbr.out⟩
        · rcases hout.out with ⟨f1, f2, f3⟩ | ho
          · rw [f2.1, f2.2]
            exact fun h9 => h9
          · exact fun _ => own_capx ho
        rcases hout.out with ⟨f1, f2, f3⟩ | ho
        · rw [HRQ.out.1] at f3
          rw [f3, f1]
          exact HLN.out.2.below hbr.out
        · rw [HRQ.out.1] at ho
          obtain ⟨a9, c9, e9, s9, _⟩ := own_src ho
          cases e9
          exact s9
      have HQ0 : Hid (0 = q) := HRQ.out.2.2
      clear hlen hog hom hout
      go_wp2_with fail
      exact bodyPost_ret (v := .tuple #[.slice a' n' c', .slice av g' vc, .int .i64 0]) (by simp [results, Tryz.results52, go_sem]) rfl ⟨_, _, _, _, by rw [HQ0.out], HF.out⟩
end Go.Proofs.YthgbclipknfmjaaGreatDoor
