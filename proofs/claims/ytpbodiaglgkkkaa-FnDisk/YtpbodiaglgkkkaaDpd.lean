
/-
  Contracts of both DiskPending. By an AI agent.
-/
import Derived.Test.YtpbodiaglgkkkaaWrt
import Derived.Test.YtpbodiaglgkkkaaDlaw1
namespace Go.Proofs.Ytpbodiaglgkkkaa
open Go.ChangeShapes Go.WideShapes Go.ChangeAt Go.RowKit Go.Deep
set_option linter.unusedVariables false

/-- What DiskPending answers. -/
def dpend (D : DM) : List Int × Int := if okD D then (pendTo D.C D.S.length, 0) else ([], 1)
theorem dp_bad {D : DM} (h : ¬ okD D) : dpend D = ([], 1) := by unfold dpend; rw [if_neg h]
theorem dp_ok {D : DM} (h : okD D) : dpend D = (pendTo D.C D.S.length, 0) := by unfold dpend; rw [if_pos h]
theorem dp_small {D : DM} {L : List Int} {c : Int} (h : dpend D = (L, c)) : L.length ≤ 1048576 := by
  unfold dpend at h
  split at h
  · rename_i hok
    cases h
    have h1 := pendTo_length D.C D.S.length
    have h2 := hok.1.2.1
    omega
  · cases h; decide
theorem src_oneI {w : World} {x : Int} {B t : Nat} (hB : B = w.heap.size) : Src (w.alloc (.cells #[.int .i64 x] t)) (some ⟨B, 0, none⟩) (cellsI [x]) := by
  subst hB
  refine .inr ⟨_, 0, rfl, fun j hj => ?_⟩
  have hb := Box.new (w := w) (B := w.heap.size) (vs := #[.int .i64 x]) (t := t) rfl
  have hj' : j < 1 := hj
  rw [Nat.zero_add]
  match j, hj' with
  | 0, _ => exact (hb 0 _ rfl).1
def thereB (C : List (Int × ByteArray)) (k : Nat) : Bool := !(byS C k).isEmpty
theorem thereB_nil (k : Nat) : thereB [] k = false := rfl
theorem thereB_keep {C : List (Int × ByteArray)} {k : Nat} (p : Int × ByteArray) (h : thereB C k = true) : thereB (C ++ [p]) k = true := by
  unfold thereB at *
  rw [byS_snoc]
  split
  · simp
  · exact h
theorem thereB_yes {C : List (Int × ByteArray)} {k : Nat} {y : ByteArray} : thereB (C ++ [((k : Int), y)]) k = true := by
  unfold thereB
  rw [byS_snoc, if_pos (by simp)]
  simp
theorem thereB_no {C : List (Int × ByteArray)} {k : Nat} {x : Int} {y : ByteArray} (h0 : 0 ≤ x) (h : x ≠ (k : Int)) (h1 : thereB C k = false) : thereB (C ++ [(x, y)]) k = false := by
  unfold thereB at *
  rw [byS_snoc, if_neg (by simp only []; omega)]
  exact h1
theorem thereB_true {C : List (Int × ByteArray)} {k : Nat} (h : thereB C k = true) : byS C k ≠ [] := by
  intro e; unfold thereB at h; rw [e] at h; cases h
theorem thereB_false {C : List (Int × ByteArray)} {k : Nat} (h : thereB C k = false) : byS C k = [] := by
  unfold thereB at h
  simpa using h

set_option maxHeartbeats 4000000 in
theorem implDiskPending (v : Value) (D : DM) (w : World) (hs : smallD D) (h : ReadsD w v D) :
    Calls Try.prog 14 #[v] w fun e w' => ∃ u L c, e = .returned (.tuple #[u, .int .i64 c]) ∧ dpend D = (L, c) ∧ OwnsI w' w.heap.size w'.heap.size u L ∧ Below w.heap.size w w' := by
  obtain ⟨a1, c1, a2, c2, a3, c3, rfl, s1, s2, s3⟩ := h
  have HS : Hid (smallD D) := hs
  have S2 : Hid (Src w a2 (cellsQ D.C)) := s2
  have HRD : Hid (ReadsD w (.agg #[.slice a1 D.S.length c1, .slice a2 D.C.length c2, .bool D.A, .slice a3 D.K.length c3]) D) := ⟨a1, c1, a2, c2, a3, c3, rfl, s1, s2, s3⟩
  clear s1 s2 s3 hs
  go_enter Try.func14, Try.ntmps14
  go_wp2_with fail
  refine (implDiskOK _ D _ HS.out (HRD.out.below ((Below.refl _ _).alloc (Nat.le_refl _) _))).mono ?_
  rintro e w1 ⟨rfl, hb1⟩
  have B1 : Hid (Below w.heap.size w w1) := Below.new hb1
  have HA : Hid (Box w1 w.heap.size [.slice a1 D.S.length c1, .slice a2 D.C.length c2, .bool D.A, .slice a3 D.K.length c3]) := Box.below (Box.new rfl) hb1
  clear hb1
  by_cases hok : okD D
  case neg =>
    have F : Hid (dpend D = ([], 1)) := dp_bad hok
    rw [decide_eq_false hok]
    clear hok
    go_wp2_with fail
    go_ret2
    exact ⟨_, _, _, rfl, F.out, OwnsI.mk (World.ownsRow_nil _ _ _ _) (Nat.le_refl _), B1.out⟩
  rw [decide_eq_true hok]
  have HOK : Hid (okD D) := hok
  have hm1 : D.C.length ≤ 500 := hok.2.1.1
  have hn1 : D.S.length ≤ 80 := hok.1.2.1
  clear hok
  obtain ⟨p0, _⟩ := HA.out 0 _ rfl
  obtain ⟨p1, _⟩ := HA.out 1 _ rfl
  go_wp2_with fail
  refine (writesBySector a2 D.C.length c2 D.S.length D.C _ rfl hm1 (by omega) HOK.out.2.1.2 (S2.out.below B1.out)).mono ?_
  rintro e w2 ⟨vs, rfl, G2, hb2⟩
  have B2 : Hid (Below w.heap.size w w2) := B1.out.trans (hb2.mono B1.out.size)
  have HG2 : Hid (Grp w2 w1.heap.size w1.heap.size D.S.length vs D.C) := G2
  have XL : Hid (w1.heap.size < w2.heap.size) := (G2.lists.lt _ rfl).2
  clear G2 hb2 p0 p1
  go_wp2_with fail
  go_loopw [4, 17] (fun ov i wr => ∃ (k : Nat) (u : Value), u = ov ∧ k ≤ D.S.length ∧ i = .int .i64 k ∧ Hid (Below w.heap.size w wr) ∧ Hid (w2.heap.size ≤ wr.heap.size) ∧ Hid (Grp wr w1.heap.size w1.heap.size D.S.length vs D.C) ∧ Hid (wr.ownsRow w2.heap.size 3 1 u (pendTo D.C k).length (cellsI (pendTo D.C k)))) (fun _ i _ => D.S.length - (intOf i).toNat)
  case atStart => exact ⟨0, _, rfl, by omega, rfl, B2.out, Nat.le_refl _, HG2.out, World.ownsRow_nil _ _ _ _⟩
  case round =>
    obtain ⟨k, u, hu, hk, rfl, hb, hsz, HG, HW⟩ := hrel
    subst hu
    clear B2 HG2
    by_cases hlt : k < D.S.length
    · have hk0 : (0 : Int) ≤ (k : Int) := by omega
      have hkn : (k : Int) < (D.S.length : Int) := by omega
      have hrow := HG.out.row k hlt
      obtain ⟨lk, hlk⟩ : ∃ l, (byS D.C k).length = l := ⟨_, rfl⟩
      rw [hlk] at hrow
      obtain ⟨ak, ck, ek, _, _⟩ := own_src hrow
      have LK : Hid ((byS D.C k).length = lk) := hlk
      have hl500 : lk ≤ 500 := by rw [← hlk]; have := byS_length D.C k; omega
      have hcA := (own_cell HG.out.lists (i := k) (by rw [HG.out.len]; exact hlt)).1
      rw [ek] at hcA
      clear hrow ek hlk
      by_cases h0 : lk = 0
      · subst h0
        have E : Hid (pendTo D.C (k + 1) = pendTo D.C k) := pendTo_no _ _ (List.eq_nil_of_length_eq_zero LK.out)
        clear LK
        go_wp2_with fail
        exact ⟨⟨k + 1, _, rfl, by omega, by go_num, hb.out, hsz.out, HG.out, by rw [E.out]; exact HW.out⟩, by simp [intOf]; omega⟩
      · have hpos : (0 : Int) < (lk : Int) := by omega
        have E : Hid (pendTo D.C (k + 1) = pendTo D.C k ++ [(k : Int)]) := pendTo_yes _ _ (fun e => h0 (by rw [← LK.out, e]; rfl))
        have hpl : Hid ((pendTo D.C k).length ≤ 80) := by have := pendTo_length D.C k; show (pendTo D.C k).length ≤ 80; omega
        clear LK h0
        go_wp2_with (at_builtin; refine wpList_append_src _ rfl _ _ 25 rfl w2.heap.size 3 (.int .i64 0) 1 8 Try.underlying25 infoI rfl (by decide) (by decide) _ (pendTo D.C k).length (cellsI (pendTo D.C k)) rfl (HW.out.alloc _) (some ⟨wr.heap.size, 0, none⟩) 1 1 (cellsI [(k : Int)]) rfl rfl (src_oneI rfl) (cellsI_one _) (by have := hpl.out; omega) (le_alloc hsz.out _) ?_)
        intro v3 w3 hown2 hgrow2
        have hlt3 : ∀ g, Value.ownBlock u = some g → w2.heap.size ≤ g ∧ g < wr.heap.size := fun g e => HW.out.lt g e
        have o2 : Hid (w3.ownsRow w2.heap.size 3 1 v3 (pendTo D.C (k + 1)).length (cellsI (pendTo D.C (k + 1)))) := by
          show w3.ownsRow _ _ _ _ _ _
          rw [E.out, List.length_append, cellsI_append]; exact hown2
        have B3 : Hid (Below w.heap.size w w3) := (hb.out.alloc hb.out.size _).grown hgrow2 (le_alloc hb.out.size _) (fun g e => by have h1 := hlt3 g e; have h2 := XL.out; have h3 := hb.out.size; have h4 := B1.out.size; omega)
        have HG3 : Hid (Grp w3 w1.heap.size w1.heap.size D.S.length vs D.C) := by
          have G1 := HG.out.below ((Below.refl _ _).alloc (Nat.le_refl _) (.cells #[.int .i64 (k : Int)] 3))
          exact ⟨G1.len, own_grown G1.lists hgrow2 (fun g e e2 => own_ne G1.lists (HW.out.alloc _) (by decide) g e e2), fun j hj => own_grown (G1.row j hj) hgrow2 (fun g e e2 => own_ne (G1.row j hj) (HW.out.alloc _) (by decide) g e e2), G1.apart⟩
        have S3 : Hid (w2.heap.size ≤ w3.heap.size) := Nat.le_trans (le_alloc hsz.out _) hgrow2.size
        clear hown2 hgrow2 hlt3
        go_wp2_with fail
        exact ⟨⟨k + 1, _, rfl, by omega, by go_num, B3.out, S3.out, HG3.out, o2.out⟩, by simp [intOf]; omega⟩
    · have hkn : k = D.S.length := by omega
      have HWF : Hid (wr.ownsRow w2.heap.size 3 1 u (pendTo D.C D.S.length).length (cellsI (pendTo D.C D.S.length))) := by rw [hkn] at HW; exact HW
      have F : Hid (dpend D = (pendTo D.C D.S.length, 0)) := dp_ok HOK.out
      clear hkn HW
      go_wp2_with fail
      go_ret2
      exact ⟨_, _, _, rfl, F.out, OwnsI.mk (own_mono HWF.out (by have h2 := XL.out; have h4 := B1.out.size; omega)) (Nat.le_refl _), hb.out⟩
end Go.Proofs.Ytpbodiaglgkkkaa
