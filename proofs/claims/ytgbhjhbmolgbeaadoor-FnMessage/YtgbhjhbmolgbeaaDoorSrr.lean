
/-
  Searching mails, by the program: SearchMails. By an AI agent.
-/
import Derived.Test.YtgbhjhbmolgbeaaDoorSrq
namespace Go.Proofs.YtgbhjhbmolgbeaaDoor
open Go.ChangeShapes Go.WideShapes Go.ChangeAt Go.RowKit Go.Deep
set_option linter.unusedVariables false
set_option maxRecDepth 100000

theorem any_step (L : List MMl) (k : Nat) (h : k < L.length) : (L.drop k).any longM = (longM (L.getD k ml0) || (L.drop (k + 1)).any longM) := by
  rw [List.drop_eq_getElem_cons h, List.any_cons, List.getD_eq_getElem?_getD, List.getElem?_eq_getElem h]; rfl
theorem any_end (L : List MMl) (k : Nat) (h : L.length ≤ k) : (L.drop k).any longM = false := by
  rw [List.drop_of_length_le h]; rfl
theorem any_no {L : List MMl} (h : L.any longM = false) : ∀ x ∈ L, x.2.2.size ≤ 85 := fun x hx => by
  rw [List.any_eq_false] at h
  have := h x hx
  unfold longM at this
  simp at this
  exact this
theorem ownsI_nil {w : World} {lo : Nat} : w.ownsRow lo 3 1 (.slice none 0 0) 0 (cellsI []) := World.ownsRow_nil _ _ _ _
theorem src_oneI {w : World} {x : Int} {B t : Nat} (hB : B = w.heap.size) : Src (w.alloc (.cells #[.int .i64 x] t)) (some ⟨B, 0, none⟩) (cellsI [x]) := by
  subst hB
  refine .inr ⟨_, 0, rfl, fun j hj => ?_⟩
  have hb := Box.new (w := w) (B := w.heap.size) (vs := #[.int .i64 x]) (t := t) rfl
  have hj2 : j < 1 := hj
  obtain rfl : j = 0 := by omega
  exact (hb 0 _ rfl).1

set_option maxHeartbeats 2000000 in
theorem implSearchMails (a : Option Addr) (n c : Nat) (L : List MMl) (nm wd : ByteArray) (w : World) (hL : L.length = n) (hn : n ≤ 1048576) (hs : ∀ x ∈ L, x.2.2.size ≤ 1048576) (hnm : nm.size ≤ 1048576) (hwd : wd.size ≤ 1048576) (hm : MaxAt w) (h : Src w a (cellsMl L)) :
    Calls Tryd.prog 16 #[.slice a n c, .string nm, .string wd] w fun e w' => ∃ v, e = .returned (.tuple #[v, .int .i64 (srchA L nm wd).2]) ∧ w'.ownsRow w.heap.size 3 1 v (srchA L nm wd).1.length (cellsI (srchA L nm wd).1) ∧ (srchA L nm wd).1.length ≤ 1048576 ∧ Below w.heap.size w w' := by
  obtain ⟨K, C, hA⟩ : ∃ K C, srchA L nm wd = (K, C) := ⟨_, _, rfl⟩
  rw [hA]
  unfold srchA at hA
  have b2 : Hid (∀ (o1 o2 : Obj), Below w.heap.size w ((w.alloc o1).alloc o2)) := fun o1 o2 => ((Below.refl _ _).alloc (Nat.le_refl _) _).alloc (by simp) _
  by_cases h1 : 4096 < n ∨ 65536 < nm.size ∨ 65536 < wd.size
  · rw [if_pos (by rw [hL]; exact h1)] at hA
    obtain ⟨rfl, rfl⟩ : ([] : List Int) = K ∧ (2 : Int) = C := by simpa using hA
    clear hA h hs hm
    by_cases hA1 : 4096 < n
    · have hd1 : decide (4096 < (n : Int)) = true := decide_eq_true (by omega)
      go_enter Tryd.func16, Tryd.ntmps16
      go_wp2_with fail
      go_ret2
      exact ⟨_, rfl, ownsI_nil, by simp, b2.out _ _⟩
    have hd1 : decide (4096 < (n : Int)) = false := decide_eq_false (by omega)
    by_cases hA2 : 65536 < nm.size
    · have hd2 : decide (65536 < (nm.size : Int)) = true := decide_eq_true (by omega)
      go_enter Tryd.func16, Tryd.ntmps16
      go_wp2_with fail
      go_ret2
      exact ⟨_, rfl, ownsI_nil, by simp, b2.out _ _⟩
    have hd2 : decide (65536 < (nm.size : Int)) = false := decide_eq_false (by omega)
    have hd3 : decide (65536 < (wd.size : Int)) = true := decide_eq_true (by omega)
    go_enter Tryd.func16, Tryd.ntmps16
    go_wp2_with fail
    go_ret2
    exact ⟨_, rfl, ownsI_nil, by simp, b2.out _ _⟩
  rw [if_neg (by rw [hL]; exact h1)] at hA
  have hd1 : decide (4096 < (n : Int)) = false := decide_eq_false (by omega)
  have hd2 : decide (65536 < (nm.size : Int)) = false := decide_eq_false (by omega)
  have hd3 : decide (65536 < (wd.size : Int)) = false := decide_eq_false (by omega)
  by_cases h2 : 100 < n
  · rw [if_pos (by rw [hL]; exact h2)] at hA
    obtain ⟨rfl, rfl⟩ : ([] : List Int) = K ∧ (6 : Int) = C := by simpa using hA
    clear hA h hs hm h1
    go_enter Tryd.func16, Tryd.ntmps16
    go_wp2_with fail
    go_ret2
    exact ⟨_, rfl, ownsI_nil, by simp, b2.out _ _⟩
  rw [if_neg (by rw [hL]; exact h2)] at hA
  have hn100 : n ≤ 100 := by omega
  have hnm6 : nm.size ≤ 65536 := by omega
  have hwd6 : wd.size ≤ 65536 := by omega
  have HA : Hid ((if (L.drop 0).any longM then ([], 1) else ((L.filter (hit nm wd)).map (·.1), (0 : Int))) = (K, C)) := hA
  have HH : Hid (Src w a (cellsMl L)) := h
  have HL : Hid (L.length = n) := hL
  have HS : Hid (∀ x ∈ L, x.2.2.size ≤ 1048576) := hs
  have HM : Hid (MaxAt w) := hm
  clear h hL hs hm hA h1 h2 hn hnm hwd
  go_enter Tryd.func16, Tryd.ntmps16
  go_wp2_with fail
  go_loopw [32] (fun i wr => ∃ k : Nat, k ≤ n ∧ i = .int .i64 (k : Int) ∧ Hid ((if (L.drop k).any longM then ([], 1) else ((L.filter (hit nm wd)).map (·.1), (0 : Int))) = (K, C)) ∧ Hid ((L.drop k).any longM = L.any longM) ∧ Hid (Below w.heap.size w wr) ∧ Hid (Box wr w.heap.size [.string nm]) ∧ Hid (Box wr (w.heap.size + 1) [.string wd])) (fun i _ => n - (intOf i).toNat)
  case atStart => exact ⟨0, by omega, rfl, HA, rfl, b2.out _ _, (Box.new (vs := #[.string nm]) rfl).old _, Box.new (vs := #[.string wd]) (by simp)⟩
  case round =>
    obtain ⟨k, hk, rfl, hr, han, hb, hbn, hbw⟩ := hrel
    by_cases hlt : k < n
    · have hkL : k < L.length := by rw [HL.out]; exact hlt
      obtain ⟨b, q, x, y, t, rfl, hc0, hc1, hc2, hy⟩ := srcMl (HH.out.below hb.out) hkL
      have ht : t.size ≤ 1048576 := by have := HS.out _ (ml_mem L k hkL); rw [hy.out] at this; exact this
      have HF := hr.out
      rw [any_step L k hkL, hy.out] at HF
      have HN := han.out
      rw [any_step L k hkL, hy.out] at HN
      clear hkL
      by_cases h85 : 85 < t.size
      · have hlm : longM (x, y, t) = true := by unfold longM; exact decide_eq_true h85
        rw [hlm] at HF
        obtain ⟨rfl, rfl⟩ : ([] : List Int) = K ∧ (1 : Int) = C := by simpa using HF
        have hd : decide (85 < (t.size : Int)) = true := decide_eq_true (by omega)
        clear HF HN hlm
        go_wp2_with fail
        go_ret2
        exact ⟨_, rfl, ownsI_nil, by simp, hb.out.alloc hb.out.size _⟩
      · have hlm : longM (x, y, t) = false := by unfold longM; exact decide_eq_false h85
        rw [hlm] at HF HN
        have HF' : Hid ((if (L.drop (k + 1)).any longM then ([], 1) else ((L.filter (hit nm wd)).map (·.1), (0 : Int))) = (K, C)) := HF
        have HN' : Hid ((L.drop (k + 1)).any longM = L.any longM) := HN
        have hd : decide (85 < (t.size : Int)) = false := decide_eq_false (by omega)
        clear HF HN hlm
        go_wp2_with fail
        exact ⟨⟨k + 1, by omega, by go_num, HF', HN', hb.out.alloc hb.out.size _, hbn.out.old _, hbw.out.old _⟩, by simp [intOf]; omega⟩
    · have HE : (L.drop k).any longM = false := any_end L k (by rw [HL.out]; omega)
      have hr9 := hr.out
      rw [HE] at hr9
      obtain ⟨hK, rfl⟩ : (L.filter (hit nm wd)).map (·.1) = K ∧ (0 : Int) = C := by simpa using hr9
      have HK : Hid ((L.filter (hit nm wd)).map (·.1) = K) := hK
      have H85 : Hid (∀ x ∈ L, x.2.2.size ≤ 85) := any_no (by rw [← han.out, HE])
      clear HE hr9 hr han hK
      obtain ⟨WD, hWD⟩ : ∃ W, bsOf (lowL wd) = W := ⟨_, rfl⟩
      have HSM : ∀ w, Calls Tryd.prog 43 #[.string wd] w fun e w' => e = .returned (.string WD) ∧ Below w.heap.size w w' := fun w => by rw [← hWD]; exact smallC wd w (by omega)
      have HFI : ∀ W, MaxAt W → Box W w.heap.size [.string nm] → Box W (w.heap.size + 1) [.string WD] → Src W a (cellsMl L) → Calls Tryd.prog 44 #[.slice a n c, .func (.func 45) #[] #[.pointer (some ⟨w.heap.size, 0, none⟩), .pointer (some ⟨w.heap.size + 1, 0, none⟩)]] W fun e w' => ∃ v, e = .returned v ∧ w'.ownsRow W.heap.size 39 3 v (L.filter (hit nm wd)).length (cellsMl (L.filter (hit nm wd))) ∧ Below W.heap.size W w' := fun W h1 h2 h3 h4 => filterI a n c L nm wd _ _ W HL.out hn100 H85.out hnm6 h1 h2 (by rw [hWD]; exact h3) h4
      obtain ⟨F, hF⟩ : ∃ F, L.filter (hit nm wd) = F := ⟨_, rfl⟩
      have hFl : F.length ≤ 100 := by rw [← hF]; exact Nat.le_trans (List.length_filter_le _ _) (by rw [HL.out]; omega)
      rw [hF] at HFI HK
      clear hF hWD
      have bw0 := (hbw.out 0 _ rfl).1
      have hmf : ∀ (fn : Fn) (first cap : Array Value) (w : World), (Instr.makeFunc fn first cap).run Tryd.prog w = .ok (.func fn first cap) w := fun _ _ _ _ => rfl
      go_wp2_with (go_at_call 43; refine (HSM _).mono ?_; rintro e w1 ⟨rfl, hb1⟩; have B1 : Hid (Below w.heap.size w w1) := (hb.out.trans (hb1.mono hb.out.size)); have BN1 : Hid (Box w1 w.heap.size [.string nm]) := (hbn.out.below hb1); have BW1 : Hid (Box w1 (w.heap.size + 1) [.string wd]) := (hbw.out.below hb1); obtain ⟨u0, uf0⟩ := BW1.out 0 _ rfl; clear hb1)
      refine (HFI _ ?_ ?_ ?_ ?_).mono ?_
      · exact HM.out.below (B1.out.setCell (by dsimp only; omega) _)
      · exact BN1.out.other _ (by dsimp only; omega) _
      · exact BW1.out.set 0 _
      · exact HH.out.below (B1.out.setCell (by dsimp only; omega) _)
      rintro e w2 ⟨v2, rfl, ow2, hb2⟩
      obtain ⟨f, hf⟩ : ∃ f, F.length = f := ⟨_, rfl⟩
      have HFL : Hid (F.length = f) := hf
      rw [hf] at ow2 hFl
      obtain ⟨fa, fc, rfl, s2, _⟩ := own_src ow2
      have SF : Hid (Src w2 fa (cellsMl F)) := s2
      have B2 : Hid (Below w.heap.size w w2) := (B1.out.setCell (by dsimp only; omega) _).trans (hb2.mono (by have := B1.out.size; simp; omega))
      clear ow2 s2 hb2 B1 BN1 BW1 u0 uf0 bw0 hf hmf HFI HSM hb hbn hbw
      go_wp2_with fail
      go_loopw [11, 48] (fun v i wr => ∃ j : Nat, j ≤ f ∧ i = .int .i64 (j : Int) ∧ Hid (wr.ownsRow w2.heap.size 3 1 v j (cellsI ((F.map (·.1)).take j))) ∧ Hid (Below w2.heap.size w2 wr) ∧ (∃ va vc, v = .slice va j vc)) (fun _ i _ => f - (intOf i).toNat)
      case atStart => exact ⟨0, by omega, rfl, World.ownsRow_nil _ _ _ _, Below.refl _ _, ⟨_, _, rfl⟩⟩
      case round =>
        obtain ⟨j, hj, rfl, ho, hb, ⟨va, vc, rfl⟩⟩ := hrel
        by_cases hlt2 : j < f
        · have hjF : j < F.length := by rw [HFL.out]; exact hlt2
          obtain ⟨b, q, x, y, t, rfl, hc0, hc1, hc2, hy⟩ := srcMl (SF.out.below hb.out) hjF
          have HU : Hid (cellsI ((F.map (·.1)).take j) ++ cellsI [x] = cellsI ((F.map (·.1)).take (j + 1))) := by
            show _ = _
            rw [← cellsI_append, List.take_add_one, List.getElem?_map, List.getElem?_eq_getElem hjF]
            have h9 := hy.out
            rw [List.getD_eq_getElem?_getD, List.getElem?_eq_getElem hjF] at h9
            simp only [Option.getD_some] at h9
            rw [h9]; rfl
          clear hjF
          go_wp2_with (at_builtin; refine wpList_append_src _ rfl _ _ 35 rfl w2.heap.size 3 (.int .i64 0) 1 8 Tryd.underlying35 infoI rfl (by decide) (by decide) (.slice va j vc) j (cellsI ((F.map (·.1)).take j)) rfl ((ho.out.alloc _).alloc _) (some ⟨wr.heap.size + 1, 0, none⟩) 1 1 (cellsI [x]) rfl rfl (src_oneI (by simp)) (cellsI_one _) (by omega) (by have := hb.out.size; simp; omega) ?_)
          intro v' w3 hown hgrow
          obtain ⟨a', d', rfl, _, _⟩ := own_src hown
          have B3 : Hid (Below w2.heap.size w2 w3) := ((hb.out.alloc hb.out.size _).alloc (le_alloc hb.out.size _) _).grown hgrow (le_alloc (le_alloc hb.out.size _) _) (fun g e => (ho.out.lt g e).1)
          have O3 : Hid (w3.ownsRow w2.heap.size 3 1 (.slice a' (j + 1) d') (j + 1) (cellsI ((F.map (·.1)).take (j + 1)))) := own_congr hown HU.out
          clear hown hgrow
          go_wp2_with fail
          exact ⟨⟨j + 1, by omega, by go_num, O3.out, B3.out, ⟨_, _, rfl⟩⟩, by simp [intOf]; omega⟩
        · have hjf : j = f := by omega
          have KL : Hid (K.length = j) := by show _ = _; rw [← HK.out, List.length_map, HFL.out, hjf]
          have OE : Hid (wr.ownsRow w.heap.size 3 1 (.slice va j vc) K.length (cellsI K)) := by
            have h9 := ho.out
            rw [List.take_of_length_le (by rw [List.length_map, HFL.out]; omega), HK.out] at h9
            show World.ownsRow _ _ _ _ _ _ _
            rw [KL.out]
            exact own_mono h9 B2.out.size
          clear hjf
          go_wp2_with fail
          go_ret2
          exact ⟨_, rfl, OE.out, by rw [KL.out]; omega, B2.out.trans (hb.out.mono B2.out.size)⟩
end Go.Proofs.YtgbhjhbmolgbeaaDoor
