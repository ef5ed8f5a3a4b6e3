
/-
  What the program asks of the library's variables; numbers' texts, of the program. By an AI agent.
-/
import Derived.Test.YthgbclipknfmjaaGreatDoorGetp
import Derived.Lib.SmallJoins
namespace Go.Proofs.YthgbclipknfmjaaGreatDoor
open Go.ChangeShapes Go.WideShapes Go.ChangeAt Go.RowKit Go.Deep Go.Lib
set_option linter.unusedVariables false
set_option maxRecDepth 100000

/-- The variables of the library that are read: two errors, a number, a table of powers. -/
def Gl (w : World) : Prop :=
  (∃ ev, w.cell? ⟨2, 0, none⟩ = some ev ∧ (ev = .nilIface ∨ ∃ te pe, ev = .iface te pe)) ∧
  (∃ ev, w.cell? ⟨3, 0, none⟩ = some ev ∧ (ev = .nilIface ∨ ∃ te pe, ev = .iface te pe)) ∧
  (∃ m, w.cell? ⟨0, 0, none⟩ = some (.int .i64 m)) ∧
  TabIs Tryz.prog w "internal/strconv.uint64pow10" .u64 pow10Tab
theorem pow10_at : Tryz.prog.globalNamed "internal/strconv.uint64pow10" = some 1 := by kernel_rfl
theorem Gl.keep {w w' : World} (h : Gl w) (hb : ∀ k, k < 8 → w'.heap[k]? = w.heap[k]?) : Gl w' := by
  obtain ⟨⟨e1, h1, k1⟩, ⟨e2, h2, k2⟩, ⟨m, h3⟩, h4⟩ := h
  refine ⟨⟨e1, ?_, k1⟩, ⟨e2, ?_, k2⟩, ⟨m, ?_⟩, ?_⟩
  · rw [World.cell?_of_block (hb 2 (by omega))]; exact h1
  · rw [World.cell?_of_block (hb 3 (by omega))]; exact h2
  · rw [World.cell?_of_block (hb 0 (by omega))]; exact h3
  · unfold TabIs World.var? at h4 ⊢
    rw [pow10_at] at h4 ⊢
    simp only [Option.bind_some] at h4 ⊢
    rw [hb 1 (by omega)]
    exact h4
theorem Gl.below {w w' : World} {B : Nat} (h : Gl w) (hB : 8 ≤ B) (hb : Below B w w') : Gl w' := h.keep fun k hk => hb.block k (by omega)
theorem below_grow' (w : World) (k : Nat) (os : Array Obj) : Below w.heap.size w (Sort.grow (w.drewN k) os) :=
  ⟨by simp [Sort.grow, World.drewN], by simp [Sort.grow, World.drewN], by simp [Sort.grow, World.drewN], by simp [Sort.grow, World.drewN], fun j hj => by
    show (w.heap ++ os)[j]? = _
    rw [Array.getElem?_append_left hj]⟩
theorem atoi_range {t : List UInt8} {v : Int} (h : atoiAll t = .ok v) : -9223372036854775808 ≤ v ∧ v ≤ 9223372036854775807 := by
  unfold atoiAll at h
  split at h
  · cases h
  · dsimp only at h
    split at h
    · cases h
    · cases h
    · split at h
      · cases h
      · split at h
        · cases h
        · cases h
          split <;> omega
def NumPost (R : Option Int) (n : Int) : Prop := ∀ m, R = some m → n = m
theorem NumPost.none (n : Int) : NumPost none n := fun m h => by cases h
theorem below_bytes (w : World) (t : ByteArray) : Below w.heap.size w (Lib.bytesWorld w 5 t) := ⟨rfl, rfl, rfl, by rw [Lib.bytesWorld_size]; omega, fun j hj => Lib.bytesWorld_at_old w 5 _ j hj⟩
theorem trim_neg (t : ByteArray) (w : World) : ∃ q : ByteArray, q.data.toList = trimPrefix t.data.toList [45] ∧ Calls Tryz.prog 154 #[.string t, .string ⟨#[45]⟩] w fun e w' => e = .returned (.string q) ∧ w' = w :=
  ⟨_, rfl, Tryz.strings_TrimPrefix t ⟨#[45]⟩ w⟩
theorem trim_le (t : ByteArray) {q : ByteArray} (h : q.data.toList = trimPrefix t.data.toList [45]) : q.size ≤ t.size := by
  rw [← bytes_len q, ← bytes_len t, h]
  unfold trimPrefix
  split
  · rw [List.length_drop]; omega
  · exact Nat.le_refl _
theorem not_num_of {t : List UInt8} (h : ∀ n, ¬ NumIs t n) : numB t = none := by
  cases hn : numB t with
  | none => rfl
  | some n => exact absurd (is_of_num hn) (h n)
set_option maxHeartbeats 2000000 in
theorem readNumberI (t : ByteArray) (w : World) (ht : t.size ≤ 1048576) (hg : Gl w) (h8 : 8 ≤ w.heap.size) :
    Calls Tryz.prog 142 #[.string t] w fun e w' => ∃ n, e = .returned (.tuple #[.int .i64 n, .bool (numB t.data.toList).isSome]) ∧ NumPost (numB t.data.toList) n ∧ Below w.heap.size w w' := by
  obtain ⟨R, hR⟩ : ∃ R, numB t.data.toList = R := ⟨_, rfl⟩
  have HR : Hid (numB t.data.toList = R) := hR
  rw [hR]
  clear hR
  have HG : Hid (Gl w) := hg
  cases hat : atoiAll t.data.toList with
  | «syntax» =>
    obtain ⟨⟨ev, he1, he2⟩, _⟩ := hg
    have CA := Tryz.strconv_Atoi_syntax t (by omega) hat ev w he1 he2
    have HN : Hid (R = none) := by
      show _ = _
      rw [← HR.out]
      exact not_num_of fun n h9 => by rw [atoi_is h9] at hat; cases hat
    clear HR hat he1 he2
    go_enter Tryz.func142, Tryz.ntmps142
    go_wp2_with fail
    refine CA.mono ?_
    rintro e w1 ⟨N, rfl, _, _, hb1⟩
    have B1 : Hid (Below w.heap.size w w1) := hb1
    clear hb1 CA
    obtain ⟨q, hq, CT⟩ := trim_neg t w1
    have hqs := trim_le t hq
    clear hq
    go_wp2_with fail
    refine CT.mono ?_
    rintro e w2 ⟨rfl, hw2⟩
    obtain rfl := hw2
    go_wp2_with fail
    go_ret2
    exact ⟨_, by rw [HN.out]; rfl, by rw [HN.out]; exact NumPost.none _, B1.out⟩
  | range =>
    obtain ⟨_, ⟨ev, he1, he2⟩, _⟩ := hg
    have CA := Tryz.strconv_Atoi_range t (by omega) hat ev w he1 he2
    obtain ⟨z, hz⟩ : ∃ z, atoiSat t.data.toList = z := ⟨_, rfl⟩
    rw [hz] at CA
    have HN : Hid (R = none) := by
      show _ = _
      rw [← HR.out]
      exact not_num_of fun n h9 => by rw [atoi_is h9] at hat; cases hat
    clear HR hat he1 he2 hz
    go_enter Tryz.func142, Tryz.ntmps142
    go_wp2_with fail
    refine CA.mono ?_
    rintro e w1 ⟨N, rfl, _, _, hb1⟩
    have B1 : Hid (Below w.heap.size w w1) := hb1
    clear hb1 CA
    obtain ⟨q, hq, CT⟩ := trim_neg t w1
    have hqs := trim_le t hq
    clear hq
    go_wp2_with fail
    refine CT.mono ?_
    rintro e w2 ⟨rfl, hw2⟩
    obtain rfl := hw2
    go_wp2_with fail
    go_ret2
    exact ⟨_, by rw [HN.out]; rfl, by rw [HN.out]; exact NumPost.none _, B1.out⟩
  | ok v =>
    have CA := Tryz.strconv_Atoi_ok t (by omega) v hat w
    have hvr := atoi_range hat
    go_enter Tryz.func142, Tryz.ntmps142
    go_wp2_with fail
    refine CA.mono ?_
    rintro e w1 ⟨rfl, hw1⟩
    have B1 : Hid (Below w.heap.size w w1) := by
      rcases hw1 with rfl | ⟨t9, rfl⟩
      · exact Below.refl _ _
      · exact below_bytes w t9
    clear hw1 CA
    obtain ⟨q, hq, CT⟩ := trim_neg t w1
    have HQ : Hid (q.data.toList = trimPrefix t.data.toList [45]) := hq
    clear hq
    go_wp2_with fail
    refine CT.mono ?_
    rintro e w2 ⟨rfl, hw2⟩
    obtain rfl := hw2
    clear CT
    by_cases h18 : q.size ≤ 18
    · have h18i : (q.size : Int) ≤ 18 := by omega
      have G1 := HG.out.below h8 (B1.out.mono (Nat.le_refl _))
      have CI := Tryz.strconv_Itoa v hvr.1 hvr.2 w2 G1.2.2.2
      obtain ⟨I, hI⟩ : ∃ I : ByteArray, (⟨(itoa v).toArray⟩ : ByteArray) = I := ⟨_, rfl⟩
      rw [hI] at CI
      have HI : Hid ((⟨(itoa v).toArray⟩ : ByteArray) = I) := hI
      clear hI G1
      go_wp2_with fail
      refine CI.mono ?_
      rintro e w3 ⟨rfl, k, os, hw3⟩
      have B3 : Hid (Below w.heap.size w w3) := by
        rw [hw3]
        exact B1.out.trans ((below_grow' w2 k os).mono B1.out.size)
      clear hw3 CI
      by_cases heq : I = t
      · have HN : Hid (R = some v) := by
          show _ = _
          rw [← HR.out]
          have h1 : itoa v = t.data.toList := by rw [← heq, ← HI.out]
          refine num_of_is ⟨h1, (trim_is h1).1 ?_⟩
          rw [← HQ.out, bytes_len]
          exact h18
        have e1 : (I.toList == t.toList) = true := by rw [heq]; simp
        clear HR hat HI
        subst heq
        go_wp2_with fail
        go_ret2
        exact ⟨v, by rw [HN.out]; rfl, by rw [HN.out]; exact fun m h9 => by cases h9; rfl, B3.out⟩
      · have HN : Hid (R = none) := by
          show _ = _
          rw [← HR.out]
          refine not_num_of fun n h9 => ?_
          have h1 := atoi_is h9
          rw [hat] at h1
          cases h1
          apply heq
          rw [← HI.out]
          exact bs_inj h9.1
        have e1 : (I.toList == t.toList) = false := beq_eq_false_iff_ne.2 (fun h9 => heq (toList_inj h9))
        have e2 : ¬ I.toList = t.toList := fun h9 => heq (toList_inj h9)
        clear HR hat HI
        go_wp2_with fail
        go_ret2
        exact ⟨v, by rw [HN.out]; rfl, by rw [HN.out]; exact NumPost.none _, B3.out⟩
    · have h18i : ¬ (q.size : Int) ≤ 18 := by omega
      have HN : Hid (R = none) := by
        show _ = _
        rw [← HR.out]
        refine not_num_of fun n h9 => ?_
        have h1 := (trim_is h9.1).2 h9.2
        rw [← HQ.out, bytes_len] at h1
        exact h18 h1
      clear HR hat
      go_wp2_with fail
      go_ret2
      exact ⟨v, by rw [HN.out]; rfl, by rw [HN.out]; exact NumPost.none _, B1.out⟩
end Go.Proofs.YthgbclipknfmjaaGreatDoor
