
/-
  Searching mails, by the specification. By an AI agent.
-/
import Derived.Test.YtgbhjhbmolgbeaaDoorSrr
namespace Go.Proofs.YtgbhjhbmolgbeaaDoor
open Go.ChangeShapes Go.WideShapes Go.ChangeAt Go.RowKit Go.Deep
set_option linter.unusedVariables false
set_option maxRecDepth 100000

set_option maxHeartbeats 4000000 in
theorem l08SearchS (a : Option Addr) (n c : Nat) (L : List MMl) (nm wd : ByteArray) (w : World) (hL : L.length = n) (hn : n ≤ 100) (hs : ∀ x ∈ L, x.2.2.size ≤ 85) (hnm : nm.size ≤ 65536) (hwd : wd.size ≤ 65536) (h : Src w a (cellsMl L)) :
    Calls Tryd.prog 48 #[.slice a n c, .string nm, .string wd] w fun e w' => ∃ v, e = .returned v ∧ w'.ownsRow w.heap.size 3 1 v ((L.filter (hit nm wd)).map (·.1)).length (cellsI ((L.filter (hit nm wd)).map (·.1))) ∧ Below w.heap.size w w' := by
  obtain ⟨p, hp⟩ : ∃ p, hit nm wd = p := ⟨_, rfl⟩
  have HP : Hid (∀ x : MMl, p x = match textOf nm x.2.2 with
    | none => false
    | some v => Lib.contains (lowL v) (lowL wd)) := fun x => by rw [← hp]; rfl
  rw [hp]
  obtain ⟨K, hK⟩ : ∃ K, (L.filter p).map (·.1) = K := ⟨_, rfl⟩
  have HKK : Hid ((L.filter p).map (·.1) = K) := hK
  rw [hK]
  clear hK
  have HH : Hid (Src w a (cellsMl L)) := h
  have HL : Hid (L.length = n) := hL
  have HS : Hid (∀ x ∈ L, x.2.2.size ≤ 85) := hs
  obtain ⟨WD, hWD⟩ : ∃ W, bsOf (lowL wd) = W := ⟨_, rfl⟩
  have HWD : Hid (bsOf (lowL wd) = WD) := hWD
  have HSW : ∀ w, Calls Tryd.prog 65 #[.string wd] w fun e w' => e = .returned (.string WD) ∧ Below w.heap.size w w' := fun w => by rw [← hWD]; exact smallD wd w (by omega)
  clear h hL hs hp hWD
  go_enter Tryd.func48, Tryd.ntmps48
  go_wp2_with fail
  go_loopw [7, 8] (fun v i wr => ∃ k : Nat, k ≤ n ∧ i = .int .i64 (k : Int) ∧ Hid (wr.ownsRow w.heap.size 3 1 v ((L.take k).filter p).length (cellsI (((L.take k).filter p).map (·.1)))) ∧ Hid (Below w.heap.size w wr)) (fun _ i _ => n - (intOf i).toNat)
  case atStart => exact ⟨0, by omega, rfl, own_congr (own_empty rfl (Nat.le_refl _)) rfl, (Below.refl _ _).alloc (Nat.le_refl _) _⟩
  case round =>
    obtain ⟨k, hk, rfl, ho, hb⟩ := hrel
    obtain ⟨va, vc, rfl, _, _⟩ := own_src ho.out
    by_cases hlt : k < n
    · have hkL : k < L.length := by rw [HL.out]; exact hlt
      obtain ⟨b, q, x, y, t, rfl, hc0, hc1, hc2, hy⟩ := srcMl (HH.out.below hb.out) hkL
      have ht : t.size ≤ 85 := by have := HS.out _ (ml_mem L k hkL); rw [hy.out] at this; exact this
      have HF := filter_snoc p L k hkL
      rw [hy.out] at HF
      obtain ⟨F, hF⟩ : ∃ F, (L.take k).filter p = F := ⟨_, rfl⟩
      obtain ⟨G, hG⟩ : ∃ G, (L.take (k + 1)).filter p = G := ⟨_, rfl⟩
      have hFl : F.length ≤ 100 := by rw [← hF]; exact Nat.le_trans (List.length_filter_le _ _) (by simp; omega)
      have hpx := HP.out (x, y, t)
      simp only at hpx
      have HTZ : Hid (∀ z, textOf nm t = some z → z.size ≤ 85) := fun z hz => textOf_size nm t z ht hz
      rw [hF] at ho HF
      rw [hG] at HF
      have HG : Hid ((L.take (k + 1)).filter p = G) := hG
      rw [hF]
      obtain ⟨f, hf⟩ : ∃ f, F.length = f := ⟨_, rfl⟩
      have HFL : Hid (F.length = f) := hf
      rw [hf] at ho hFl ⊢
      clear hF hG hkL hf
      have HYES : Hid (p (x, y, t) = true → G = F ++ [(x, y, t)]) := fun h => by rw [HF, h]; rfl
      have HNO : Hid (p (x, y, t) = false → G = F) := fun h => by rw [HF, h]; simp
      clear HF
      by_cases h0 : nm.size = 0
      · have hT : textOf nm t = some t := by unfold textOf; rw [if_pos h0]
        have hq : (nm.toList == []) = true := by
          rw [Lib.toList_data, beq_iff_eq]; exact List.length_eq_zero_iff.1 (by simpa using h0)
        rw [hT] at hpx
        simp only at hpx
        have CC : wr.cell? ⟨b, q + k * 3, none⟩ = some (.int .i64 x) := hc0
        clear hT h0 HTZ
        obtain ⟨Z, hZ⟩ : ∃ Z, bsOf (lowL t) = Z := ⟨_, rfl⟩
        have HST : ∀ w, Calls Tryd.prog 65 #[.string t] w fun e w' => e = .returned (.string Z) ∧ Below w.heap.size w w' := fun w => by rw [← hZ]; exact smallD t w (by omega)
        obtain ⟨r, hr⟩ : ∃ r, Lib.contains (lowL t) (lowL wd) = r := ⟨_, rfl⟩
        have HHO : ∀ w, Calls Tryd.prog 67 #[.string Z, .string WD] w fun e w' => e = .returned (.bool r) ∧ w = w' := fun w => by
          rw [← hZ, ← HWD.out, ← hr]
          exact l08HoldsS _ _ w (by unfold lowL; simp; omega) (by unfold lowL; simp; omega)
        rw [hr] at hpx
        clear hZ hr
        cases r with
        | true =>
          have HGF : Hid (G = F ++ [(x, y, t)]) := HYES.out hpx
          clear HYES HNO hpx
          go_wp2_with (first | (go_at_call 67; refine (HHO _).mono ?_; rintro e w' ⟨rfl, rfl⟩) | (go_at_call_of 65 (Value.string wd); refine (HSW _).mono ?_; rintro e ws2 ⟨rfl, hbs2⟩; have BS2 : Hid (Below ws1.heap.size ws1 ws2) := hbs2; have cc0 := (BS2.out.cell (p := ⟨b, q + k * 3, none⟩) (World.block_lt_of_cell? _ _ cc9)).trans cc9; clear hbs2) | (go_at_call 65; refine (HST _).mono ?_; rintro e ws1 ⟨rfl, hbs1⟩; have BS1 : Hid (Below w.heap.size w ws1) := (hb.out.trans (hbs1.mono hb.out.size)); have OS1 : Hid (ws1.ownsRow w.heap.size 3 1 (.slice va f vc) f (cellsI (F.map (·.1)))) := (own_below ho.out hbs1); have cc9 := (hbs1.cell (p := ⟨b, q + k * 3, none⟩) (World.block_lt_of_cell? _ _ CC)).trans CC; clear hbs1) | (at_builtin; refine wpList_append_src _ rfl _ _ 35 rfl w.heap.size 3 (.int .i64 0) 1 8 Tryd.underlying35 infoI rfl (by decide) (by decide) (.slice va f vc) f (cellsI (F.map (·.1))) rfl ((own_below OS1.out BS2.out).alloc _) (some ⟨ws2.heap.size, 0, none⟩) 1 1 (cellsI [x]) rfl rfl (src_oneI rfl) (cellsI_one _) (by omega) (by have := BS1.out.size; have := BS2.out.size; simp; omega) ?_))
          intro v' w2 hown hgrow
          obtain ⟨a', d', rfl, _, _⟩ := own_src hown
          have BB : Hid (Below w.heap.size w ws2) := BS1.out.trans (BS2.out.mono BS1.out.size)
          have B2 : Hid (Below w.heap.size w w2) := (BB.out.alloc BB.out.size _).grown hgrow (le_alloc BB.out.size _) (fun g e => (OS1.out.lt g e).1)
          have O2 : Hid (w2.ownsRow w.heap.size 3 1 (.slice a' (f + 1) d') (f + 1) (cellsI (G.map (·.1)))) := by
            show World.ownsRow _ _ _ _ _ _ _
            rw [HGF.out, List.map_append, cellsI_append]
            exact hown
          have GL : Hid (G.length = f + 1) := by show _ = _; rw [HGF.out, List.length_append, HFL.out]; rfl
          clear hown hgrow
          go_wp2_with fail
          exact ⟨⟨k + 1, by omega, by go_num, by rw [HG.out, GL.out]; exact O2.out, B2.out⟩, by simp [intOf]; omega⟩
        | false =>
          have HGF : Hid (G = F) := HNO.out hpx
          clear HYES HNO hpx
          go_wp2_with (first | (go_at_call 67; refine (HHO _).mono ?_; rintro e w' ⟨rfl, rfl⟩) | (go_at_call_of 65 (Value.string wd); refine (HSW _).mono ?_; rintro e ws2 ⟨rfl, hbs2⟩; have BS2 : Hid (Below ws1.heap.size ws1 ws2) := hbs2; have cc0 := (BS2.out.cell (p := ⟨b, q + k * 3, none⟩) (World.block_lt_of_cell? _ _ cc9)).trans cc9; clear hbs2) | (go_at_call 65; refine (HST _).mono ?_; rintro e ws1 ⟨rfl, hbs1⟩; have BS1 : Hid (Below w.heap.size w ws1) := (hb.out.trans (hbs1.mono hb.out.size)); have OS1 : Hid (ws1.ownsRow w.heap.size 3 1 (.slice va f vc) f (cellsI (F.map (·.1)))) := (own_below ho.out hbs1); have cc9 := (hbs1.cell (p := ⟨b, q + k * 3, none⟩) (World.block_lt_of_cell? _ _ CC)).trans CC; clear hbs1))
          exact ⟨⟨k + 1, by omega, by go_num, by rw [HG.out, HGF.out, HFL.out]; exact own_below OS1.out BS2.out, BS1.out.trans (BS2.out.mono BS1.out.size)⟩, by simp [intOf]; omega⟩
      have hq : (nm.toList == []) = false := by
        rw [Lib.toList_data, beq_eq_false_iff_ne]
        intro e
        have h9 : nm.data.toList.length = nm.size := by simp
        rw [e] at h9
        simp only [List.length_nil] at h9
        omega
      have HPA : ∀ w, Calls Tryd.prog 41 #[.string t] w fun e w' => ParPost (parse t.data.toList) w e w' := fun w => by
        have h9 := l08ParseS t.data.toList w (by have : t.data.toList.length = t.size := by simp
                                                 omega)
        rwa [bsOf_data] at h9
      have hT : textOf nm t = match parse t.data.toList with
        | none => none
        | some D => (findF D.F nm).map (·.2) := by unfold textOf; rw [if_neg h0]; cases parse t.data.toList <;> rfl
      obtain ⟨o, hpo⟩ : ∃ o, parse t.data.toList = o := ⟨_, rfl⟩
      have HNM : Hid (∀ D, o = some D → ∀ f ∈ D.F, f.1.size ≤ 100000) := by
        show ∀ D, _ → _; intro D hD; exact parse_names (hpo.trans hD)
      rw [hpo] at HPA hT
      clear hpo h0
      cases o with
      | none =>
        simp only at hT
        rw [hT] at hpx
        simp only at hpx
        have HGF : Hid (G = F) := HNO.out hpx
        have HPA' : ∀ w, Calls Tryd.prog 41 #[.string t] w fun e w' => ∃ (v : Value) (D : GM), e = .returned (.tuple #[v, .bool false]) ∧ OwnsG w' w.heap.size w'.heap.size v D ∧ Below w.heap.size w w' := fun w => by
          refine (HPA w).mono ?_
          rintro e w' ⟨v, D, rfl, _, h3, _, h5⟩
          exact ⟨v, D, rfl, h3, h5⟩
        clear HPA hT hpx HYES HNO HNM HTZ
        go_wp2_with (go_at_call 41; refine (HPA' _).mono ?_; rintro e w1 ⟨v1, D1, rfl, ow1, hb1⟩; obtain ⟨a1, c1, rfl⟩ := ow1.lit)
        exact ⟨⟨k + 1, by omega, by go_num, by rw [HG.out, HGF.out, HFL.out]; exact (own_below ho.out hb1).alloc _, (hb.out.trans (hb1.mono hb.out.size)).alloc (by have := hb.out.size; have := hb1.size; omega) _⟩, by simp [intOf]; omega⟩
      | some D =>
        simp only at hT
        have HPA' : ∀ w, Calls Tryd.prog 41 #[.string t] w fun e w' => ∃ (v : Value), e = .returned (.tuple #[v, .bool true]) ∧ OwnsG w' w.heap.size w'.heap.size v D ∧ D.F.length ≤ 100000 ∧ Below w.heap.size w w' := fun w => by
          refine (HPA w).mono ?_
          rintro e w' ⟨v, D', rfl, hx, h3, h4, h5⟩
          obtain rfl := hx D rfl
          exact ⟨v, rfl, h3, h4, h5⟩
        have HM : Hid (∀ f ∈ D.F, f.1.size ≤ 100000) := HNM.out D rfl
        obtain ⟨g, hg⟩ : ∃ g, findF D.F nm = g := ⟨_, rfl⟩
        have HGG : Hid (findF D.F nm = g) := hg
        rw [hg] at hT
        clear hg HPA HNM
        cases g with
        | none =>
          simp only [Option.map_none] at hT
          rw [hT] at hpx
          simp only at hpx
          have HGF : Hid (G = F) := HNO.out hpx
          clear hT hpx HYES HNO HTZ
          go_wp2_with fail
          refine (HPA' _).mono ?_
          rintro e w1 ⟨v1, rfl, ow1, hf1, hb1⟩
          obtain ⟨a1, c1, rfl, s1⟩ := ow1.reads
          have HC := fun W (h : Src W a1 (cellsFl D.F)) => l08FieldS a1 D.F.length c1 D.F D.Y nm W rfl hf1 HM.out (by omega) h
          simp only [HGG.out, fldS] at HC
          obtain ⟨n1, hn1⟩ : ∃ n, D.F.length = n := ⟨_, rfl⟩
          obtain ⟨Y, hY⟩ : ∃ Y, D.Y = Y := ⟨_, rfl⟩
          simp only [hn1, hY] at HC ⊢
          have S1 : Hid (Src w1 a1 (cellsFl D.F)) := s1
          have B1 : Hid (Below wr.heap.size wr w1) := hb1
          clear hn1 hY s1 hb1 ow1 hf1
          go_wp2_with (go_at_call 42; refine (HC _ (S1.out.below ((Below.refl _ _).alloc (Nat.le_refl _) _))).mono ?_; rintro e w2 ⟨rfl, hb2⟩)
          have BB : Hid (Below wr.heap.size wr w2) := B1.out.trans ((Below.new hb2).mono B1.out.size)
          exact ⟨⟨k + 1, by omega, by go_num, by rw [HG.out, HGF.out, HFL.out]; exact own_below ho.out BB.out, hb.out.trans (BB.out.mono hb.out.size)⟩, by simp [intOf]; omega⟩
        | some g =>
          simp only [Option.map_some] at hT
          have hgz : g.2.size ≤ 85 := HTZ.out _ hT
          rw [hT] at hpx
          simp only at hpx
          obtain ⟨T, hTT⟩ : ∃ T, g.2 = T := ⟨_, rfl⟩
          have HTT : Hid (g.2 = T) := hTT
          rw [hTT] at hpx hgz
          clear hT HTZ hTT
          have HC0 : Hid (wr.cell? ⟨b, q + k * 3, none⟩ = some (.int .i64 x)) := hc0
          go_wp2_with fail
          refine (HPA' _).mono ?_
          rintro e w1 ⟨v1, rfl, ow1, hf1, hb1⟩
          obtain ⟨a1, c1, rfl, s1⟩ := ow1.reads
          have HC := fun W (h : Src W a1 (cellsFl D.F)) => l08FieldS a1 D.F.length c1 D.F D.Y nm W rfl hf1 HM.out (by omega) h
          simp only [HGG.out, fldS, HTT.out] at HC
          obtain ⟨n1, hn1⟩ : ∃ n, D.F.length = n := ⟨_, rfl⟩
          obtain ⟨Y, hY⟩ : ∃ Y, D.Y = Y := ⟨_, rfl⟩
          simp only [hn1, hY] at HC ⊢
          have S1 : Hid (Src w1 a1 (cellsFl D.F)) := s1
          have B1 : Hid (Below wr.heap.size wr w1) := hb1
          clear hn1 hY s1 hb1 ow1 hf1
          obtain ⟨Z, hZ⟩ : ∃ Z, bsOf (lowL T) = Z := ⟨_, rfl⟩
          have HST : ∀ w, Calls Tryd.prog 65 #[.string T] w fun e w' => e = .returned (.string Z) ∧ Below w.heap.size w w' := fun w => by rw [← hZ]; exact smallD T w (by omega)
          obtain ⟨r, hr⟩ : ∃ r, Lib.contains (lowL T) (lowL wd) = r := ⟨_, rfl⟩
          have HHO : ∀ w, Calls Tryd.prog 67 #[.string Z, .string WD] w fun e w' => e = .returned (.bool r) ∧ w = w' := fun w => by
            rw [← hZ, ← HWD.out, ← hr]
            exact l08HoldsS _ _ w (by unfold lowL; simp; omega) (by unfold lowL; simp; omega)
          rw [hr] at hpx
          clear hZ hr
          cases r with
          | true =>
            have HGF : Hid (G = F ++ [(x, y, t)]) := HYES.out hpx
            clear HYES HNO hpx
            go_wp2_with (first | (go_at_call 42; refine (HC _ (S1.out.below ((Below.refl _ _).alloc (Nat.le_refl _) _))).mono ?_; rintro e w2 ⟨rfl, hb2⟩; have BB9 : Hid (Below wr.heap.size wr w2) := (B1.out.trans ((Below.new hb2).mono B1.out.size)); have HB2 : Hid (Below w.heap.size w w2) := (hb.out.trans (BB9.out.mono hb.out.size)); have HO2 : Hid (w2.ownsRow w.heap.size 3 1 (.slice va f vc) f (cellsI (F.map (·.1)))) := (own_below ho.out BB9.out); have CC : w2.cell? ⟨b, q + k * 3, none⟩ = some (.int .i64 x) := ((BB9.out.cell (p := ⟨b, q + k * 3, none⟩) (World.block_lt_of_cell? _ _ HC0.out)).trans HC0.out); clear hb2) | (go_at_call 67; refine (HHO _).mono ?_; rintro e w' ⟨rfl, rfl⟩) | (go_at_call_of 65 (Value.string wd); refine (HSW _).mono ?_; rintro e ws2 ⟨rfl, hbs2⟩; have BS2 : Hid (Below ws1.heap.size ws1 ws2) := hbs2; have cc0 := (BS2.out.cell (p := ⟨b, q + k * 3, none⟩) (World.block_lt_of_cell? _ _ cc9)).trans cc9; clear hbs2) | (go_at_call 65; refine (HST _).mono ?_; rintro e ws1 ⟨rfl, hbs1⟩; have BS1 : Hid (Below w.heap.size w ws1) := (HB2.out.trans (hbs1.mono HB2.out.size)); have OS1 : Hid (ws1.ownsRow w.heap.size 3 1 (.slice va f vc) f (cellsI (F.map (·.1)))) := (own_below HO2.out hbs1); have cc9 := (hbs1.cell (p := ⟨b, q + k * 3, none⟩) (World.block_lt_of_cell? _ _ CC)).trans CC; clear hbs1) | (at_builtin; refine wpList_append_src _ rfl _ _ 35 rfl w.heap.size 3 (.int .i64 0) 1 8 Tryd.underlying35 infoI rfl (by decide) (by decide) (.slice va f vc) f (cellsI (F.map (·.1))) rfl ((own_below OS1.out BS2.out).alloc _) (some ⟨ws2.heap.size, 0, none⟩) 1 1 (cellsI [x]) rfl rfl (src_oneI rfl) (cellsI_one _) (by omega) (by have := BS1.out.size; have := BS2.out.size; simp; omega) ?_))
            intro v' w2 hown hgrow
            obtain ⟨a', d', rfl, _, _⟩ := own_src hown
            have BB : Hid (Below w.heap.size w ws2) := BS1.out.trans (BS2.out.mono BS1.out.size)
            have B2 : Hid (Below w.heap.size w w2) := (BB.out.alloc BB.out.size _).grown hgrow (le_alloc BB.out.size _) (fun g e => (OS1.out.lt g e).1)
            have O2 : Hid (w2.ownsRow w.heap.size 3 1 (.slice a' (f + 1) d') (f + 1) (cellsI (G.map (·.1)))) := by
              show World.ownsRow _ _ _ _ _ _ _
              rw [HGF.out, List.map_append, cellsI_append]
              exact hown
            have GL : Hid (G.length = f + 1) := by show _ = _; rw [HGF.out, List.length_append, HFL.out]; rfl
            clear hown hgrow
            go_wp2_with fail
            exact ⟨⟨k + 1, by omega, by go_num, by rw [HG.out, GL.out]; exact O2.out, B2.out⟩, by simp [intOf]; omega⟩
          | false =>
            have HGF : Hid (G = F) := HNO.out hpx
            clear HYES HNO hpx
            go_wp2_with (first | (go_at_call 42; refine (HC _ (S1.out.below ((Below.refl _ _).alloc (Nat.le_refl _) _))).mono ?_; rintro e w2 ⟨rfl, hb2⟩; have BB9 : Hid (Below wr.heap.size wr w2) := (B1.out.trans ((Below.new hb2).mono B1.out.size)); have HB2 : Hid (Below w.heap.size w w2) := (hb.out.trans (BB9.out.mono hb.out.size)); have HO2 : Hid (w2.ownsRow w.heap.size 3 1 (.slice va f vc) f (cellsI (F.map (·.1)))) := (own_below ho.out BB9.out); have CC : w2.cell? ⟨b, q + k * 3, none⟩ = some (.int .i64 x) := ((BB9.out.cell (p := ⟨b, q + k * 3, none⟩) (World.block_lt_of_cell? _ _ HC0.out)).trans HC0.out); clear hb2) | (go_at_call 67; refine (HHO _).mono ?_; rintro e w' ⟨rfl, rfl⟩) | (go_at_call_of 65 (Value.string wd); refine (HSW _).mono ?_; rintro e ws2 ⟨rfl, hbs2⟩; have BS2 : Hid (Below ws1.heap.size ws1 ws2) := hbs2; have cc0 := (BS2.out.cell (p := ⟨b, q + k * 3, none⟩) (World.block_lt_of_cell? _ _ cc9)).trans cc9; clear hbs2) | (go_at_call 65; refine (HST _).mono ?_; rintro e ws1 ⟨rfl, hbs1⟩; have BS1 : Hid (Below w.heap.size w ws1) := (HB2.out.trans (hbs1.mono HB2.out.size)); have OS1 : Hid (ws1.ownsRow w.heap.size 3 1 (.slice va f vc) f (cellsI (F.map (·.1)))) := (own_below HO2.out hbs1); have cc9 := (hbs1.cell (p := ⟨b, q + k * 3, none⟩) (World.block_lt_of_cell? _ _ CC)).trans CC; clear hbs1))
            exact ⟨⟨k + 1, by omega, by go_num, by rw [HG.out, HGF.out, HFL.out]; exact own_below OS1.out BS2.out, BS1.out.trans (BS2.out.mono BS1.out.size)⟩, by simp [intOf]; omega⟩
    · have hkn : k = n := by omega
      have OE : Hid (wr.ownsRow w.heap.size 3 1 (.slice va ((L.take k).filter p).length vc) K.length (cellsI K)) := by
        have h9 := ho.out
        have h8 : L.take k = L := List.take_of_length_le (by rw [HL.out]; omega)
        show World.ownsRow _ _ _ _ _ _ _
        rw [h8] at h9 ⊢
        rw [← HKK.out, List.length_map]
        exact h9
      clear hkn
      go_wp2_with fail
      go_ret
      exact ⟨_, rfl, OE.out, hb.out⟩

set_option maxHeartbeats 2000000 in
theorem specSearchMails (a : Option Addr) (n c : Nat) (L : List MMl) (nm wd : ByteArray) (w : World) (hL : L.length = n) (hn : n ≤ 1048576) (hs : ∀ x ∈ L, x.2.2.size ≤ 1048576) (hnm : nm.size ≤ 1048576) (hwd : wd.size ≤ 1048576) (h : Src w a (cellsMl L)) :
    Calls Tryd.prog 17 #[.slice a n c, .string nm, .string wd] w fun e w' => ∃ v, e = .returned (.tuple #[v, .int .i64 (srchA L nm wd).2]) ∧ w'.ownsRow w.heap.size 3 1 v (srchA L nm wd).1.length (cellsI (srchA L nm wd).1) ∧ (srchA L nm wd).1.length ≤ 1048576 ∧ Below w.heap.size w w' := by
  obtain ⟨K, C, hA⟩ : ∃ K C, srchA L nm wd = (K, C) := ⟨_, _, rfl⟩
  rw [hA]
  unfold srchA at hA
  have OM : Hid ((w.alloc (.cells #[] 3)).ownsRow w.heap.size 3 1 (.slice (some ⟨w.heap.size, 0, none⟩) 0 0) ([] : List Int).length (cellsI [])) := own_congr (own_empty rfl (Nat.le_refl _)) rfl
  by_cases h1 : 4096 < n ∨ 65536 < nm.size ∨ 65536 < wd.size
  · rw [if_pos (by rw [hL]; exact h1)] at hA
    obtain ⟨rfl, rfl⟩ : ([] : List Int) = K ∧ (2 : Int) = C := by simpa using hA
    clear hA h hs
    by_cases hA1 : 4096 < n
    · have hd1 : decide (4096 < (n : Int)) = true := decide_eq_true (by omega)
      go_enter Tryd.func17, Tryd.ntmps17
      go_wp2_with fail
      go_ret2
      exact ⟨_, rfl, OM.out, by simp, (Below.refl _ _).alloc (Nat.le_refl _) _⟩
    have hd1 : decide (4096 < (n : Int)) = false := decide_eq_false (by omega)
    by_cases hA2 : 65536 < nm.size
    · have hd2 : decide (65536 < (nm.size : Int)) = true := decide_eq_true (by omega)
      go_enter Tryd.func17, Tryd.ntmps17
      go_wp2_with fail
      go_ret2
      exact ⟨_, rfl, OM.out, by simp, (Below.refl _ _).alloc (Nat.le_refl _) _⟩
    have hd2 : decide (65536 < (nm.size : Int)) = false := decide_eq_false (by omega)
    have hd3 : decide (65536 < (wd.size : Int)) = true := decide_eq_true (by omega)
    go_enter Tryd.func17, Tryd.ntmps17
    go_wp2_with fail
    go_ret2
    exact ⟨_, rfl, OM.out, by simp, (Below.refl _ _).alloc (Nat.le_refl _) _⟩
  rw [if_neg (by rw [hL]; exact h1)] at hA
  have hd1 : decide (4096 < (n : Int)) = false := decide_eq_false (by omega)
  have hd2 : decide (65536 < (nm.size : Int)) = false := decide_eq_false (by omega)
  have hd3 : decide (65536 < (wd.size : Int)) = false := decide_eq_false (by omega)
  by_cases h2 : 100 < n
  · rw [if_pos (by rw [hL]; exact h2)] at hA
    obtain ⟨rfl, rfl⟩ : ([] : List Int) = K ∧ (6 : Int) = C := by simpa using hA
    clear hA h hs h1
    go_enter Tryd.func17, Tryd.ntmps17
    go_wp2_with fail
    go_ret2
    exact ⟨_, rfl, OM.out, by simp, (Below.refl _ _).alloc (Nat.le_refl _) _⟩
  rw [if_neg (by rw [hL]; exact h2)] at hA
  have hn100 : n ≤ 100 := by omega
  have hnm6 : nm.size ≤ 65536 := by omega
  have hwd6 : wd.size ≤ 65536 := by omega
  have HA : Hid ((if (L.drop 0).any longM then ([], 1) else ((L.filter (hit nm wd)).map (·.1), (0 : Int))) = (K, C)) := hA
  have HH : Hid (Src w a (cellsMl L)) := h
  have HL : Hid (L.length = n) := hL
  have HS : Hid (∀ x ∈ L, x.2.2.size ≤ 1048576) := hs
  clear h hL hs hA h1 h2 hn hnm hwd
  go_enter Tryd.func17, Tryd.ntmps17
  go_wp2_with fail
  go_loop [8] (fun i => ∃ k : Nat, k ≤ n ∧ i = .int .i64 (k : Int) ∧ Hid ((if (L.drop k).any longM then ([], 1) else ((L.filter (hit nm wd)).map (·.1), (0 : Int))) = (K, C)) ∧ Hid ((L.drop k).any longM = L.any longM)) (fun i => n - (intOf i).toNat)
  case atStart => exact ⟨0, by omega, rfl, HA, rfl⟩
  case round =>
    obtain ⟨k, hk, rfl, hr, han⟩ := hrel
    by_cases hlt : k < n
    · have hkL : k < L.length := by rw [HL.out]; exact hlt
      obtain ⟨b, q, x, y, t, rfl, hc0, hc1, hc2, hy⟩ := srcMl HH.out hkL
      have ht : t.size ≤ 1048576 := by have := HS.out _ (ml_mem L k hkL); rw [hy.out] at this; exact this
      have HF := hr.out
      rw [any_step L k hkL, hy.out] at HF
      have HN := han.out
      rw [any_step L k hkL, hy.out] at HN
      clear hkL
      by_cases h85 : 85 < t.size
      · have hlm : longM (x, y, t) = true := by unfold longM; exact decide_eq_true h85
        rw [hlm] at HF
        obtain ⟨hK0, rfl⟩ : ([] : List Int) = K ∧ (1 : Int) = C := by simpa using HF
        have HK0 : Hid ([] = K) := hK0
        clear hK0
        have hd : decide (85 < (t.size : Int)) = true := decide_eq_true (by omega)
        clear HF HN hlm
        go_wp2_with fail
        go_ret2
        exact ⟨_, rfl, by rw [← HK0.out]; exact OM.out, by rw [← HK0.out]; simp, (Below.refl _ _).alloc (Nat.le_refl _) _⟩
      · have hlm : longM (x, y, t) = false := by unfold longM; exact decide_eq_false h85
        rw [hlm] at HF HN
        have HF' : Hid ((if (L.drop (k + 1)).any longM then ([], 1) else ((L.filter (hit nm wd)).map (·.1), (0 : Int))) = (K, C)) := HF
        have HN' : Hid ((L.drop (k + 1)).any longM = L.any longM) := HN
        have hd : decide (85 < (t.size : Int)) = false := decide_eq_false (by omega)
        clear HF HN hlm
        go_wp2_with fail
        go_round
        case rel => exact ⟨k + 1, by omega, by go_num, HF', HN'⟩
        case measure => simp [intOf]; omega
    · have HE : (L.drop k).any longM = false := any_end L k (by rw [HL.out]; omega)
      have hr9 := hr.out
      rw [HE] at hr9
      obtain ⟨hK, rfl⟩ : (L.filter (hit nm wd)).map (·.1) = K ∧ (0 : Int) = C := by simpa using hr9
      have H85 : Hid (∀ x ∈ L, x.2.2.size ≤ 85) := any_no (by rw [← han.out, HE])
      have HSE := l08SearchS a n c L nm wd w HL.out hn100 H85.out hnm6 hwd6 HH.out
      rw [hK] at HSE
      have KL : Hid (K.length ≤ 1048576) := by
        show _ ≤ _; rw [← hK, List.length_map]; exact Nat.le_trans (List.length_filter_le _ _) (by rw [HL.out]; omega)
      clear HE hr9 hr han hK
      go_wp2_with (go_at_call 48; refine HSE.mono ?_; rintro e w1 ⟨v1, rfl, ow1, hb1⟩; obtain ⟨b1, d1, rfl, _, _⟩ := own_src ow1)
      go_ret2
      exact ⟨_, rfl, ow1, KL.out, hb1⟩
end Go.Proofs.YtgbhjhbmolgbeaaDoor
