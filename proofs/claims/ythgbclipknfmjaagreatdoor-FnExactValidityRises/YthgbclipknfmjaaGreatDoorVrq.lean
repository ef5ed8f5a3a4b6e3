/-
  Mkq Vrx Mks Ris in one. By an AI agent.
-/
import Derived.Test.YthgbclipknfmjaaGreatDoorUsp
import Derived.Test.YthgbclipknfmjaaGreatDoorTkf
import Derived.Test.YthgbclipknfmjaaGreatDoorHlz
import Derived.Test.YthgbclipknfmjaaGreatDoorShelh
import Derived.Test.YthgbclipknfmjaaGreatDoorEqd
import Derived.WalkMore
import Derived.Deep.LoopGhost
import Derived.BigQuiet
import Derived.Deep.QuietTactic
namespace Go.Proofs.YthgbclipknfmjaaGreatDoor
open Go.ChangeShapes Go.WideShapes Go.ChangeAt Go.RowKit Go.Deep Go.Lib
set_option linter.unusedVariables false
set_option linter.unusedSimpArgs false
set_option maxRecDepth 100000

abbrev MMk := ByteArray × Int × Int
abbrev mk0 : MMk := (⟨#[]⟩, 0, 0)
def cellsMk (L : List MMk) : List Value := L.flatMap fun p => [.string p.1, .int .i64 p.2.1, .int .i64 p.2.2]
theorem cellsMk_length (L : List MMk) : (cellsMk L).length = L.length * 3 := by
  induction L with
  | nil => rfl
  | cons p L ih => simp [cellsMk] at ih ⊢; omega
theorem cellsMk_append (L M : List MMk) : cellsMk (L ++ M) = cellsMk L ++ cellsMk M := by simp [cellsMk]
theorem cellsMk_get : ∀ (L : List MMk) (i : Nat), i < L.length → (cellsMk L)[i * 3]? = some (.string (L.getD i mk0).1) ∧ (cellsMk L)[i * 3 + 1]? = some (.int .i64 (L.getD i mk0).2.1) ∧ (cellsMk L)[i * 3 + 2]? = some (.int .i64 (L.getD i mk0).2.2)
  | [], i, h => absurd h (by simp)
  | p :: L, 0, _ => ⟨rfl, rfl, rfl⟩
  | p :: L, i + 1, h => by
    have ih := cellsMk_get L i (by simpa using h)
    have e1 : (i + 1) * 3 = i * 3 + 1 + 1 + 1 := by omega
    have e2 : cellsMk (p :: L) = .string p.1 :: .int .i64 p.2.1 :: .int .i64 p.2.2 :: cellsMk L := rfl
    rw [e2, e1]
    exact ih
theorem cellsMk_one (L : List MMk) : ∀ u ∈ cellsMk L, u.oneCell' = true := by
  intro u hu
  simp only [cellsMk, List.mem_flatMap] at hu
  obtain ⟨p, _, hp⟩ := hu
  simp at hp
  rcases hp with rfl | rfl | rfl <;> rfl
theorem srcMk {w : World} {a : Option Addr} {L : List MMk} (h : Src w a (cellsMk L)) {i : Nat} (hi : i < L.length) : ∃ b o x0 x1 x2, a = some ⟨b, o, none⟩ ∧ w.cell? ⟨b, o + i * 3, none⟩ = some (.string x0) ∧ w.cell? ⟨b, o + i * 3 + 1, none⟩ = some (.int .i64 x1) ∧ w.cell? ⟨b, o + i * 3 + 2, none⟩ = some (.int .i64 x2) ∧ Hid (L.getD i mk0 = (x0, x1, x2)) := by
  rcases h with h | ⟨b, o, rfl, hc⟩
  · have h2 := cellsMk_length L
    rw [h] at h2
    simp only [List.length_nil] at h2
    omega
  · have h0 := hc (i * 3) (by rw [cellsMk_length]; omega)
    have h1 := hc (i * 3 + 1) (by rw [cellsMk_length]; omega)
    have h2 := hc (i * 3 + 2) (by rw [cellsMk_length]; omega)
    rw [getD_some (cellsMk_get L i hi).1] at h0
    rw [getD_some (cellsMk_get L i hi).2.1] at h1
    rw [getD_some (cellsMk_get L i hi).2.2] at h2
    exact ⟨b, o, _, _, _, rfl, h0, h1, h2, rfl⟩
abbrev fpreK : ByteArray := ⟨#[102, 47]⟩
def markP (p : PM) : MMk := (p.1, (metaV p.2).getD (0, 0))
def marksM (L : List PM) : List MMk := (L.filter fun x => beginsB x.1 fpreK).map markP
def okP (nx : Int) (K : List MMk) (q : MMk) : Bool := decide (nx ≤ q.2.1) || K.any fun k => decide (k.1 = q.1) && (decide (k.2.1 = q.2.1) && decide (k.2.2 ≤ q.2.2))
def risesB (A B : List PM) : Bool := !decide (nextM B < nextM A) && (marksM B).all (okP (nextM A) (marksM A))
def vrM (A B : List PM) : Bool × Int := if 4096 < A.length ∨ 4096 < B.length then (false, 2) else if storeB A = false ∨ storeB B = false then (false, 1) else (risesB A B, 0)
theorem store_pairK {L : List PM} (h : storeB L = true) {p : PM} (hp : p ∈ L) (hk : p.1 ≠ vK) : askG L (nextM L) p.2 (splitL 47 p.1.data.toList) := by
  unfold storeB at h
  rw [Bool.and_eq_true] at h
  exact (pair_iff hk).1 (List.all_eq_true.1 h.2 p hp)
theorem no_slashK {c : UInt8} {l : List UInt8} {G : List (List UInt8)} (h : splitL c l = G) : ∀ p ∈ G, c ∉ (bs p).data.toList := fun p hp => by
  have h1 := splitL_no c l p (by rw [h]; exact hp)
  simpa [bs] using h1
theorem folder_val {B : List PM} {p : PM} (h : storeB B = true) (hp : p ∈ B) (hb : beginsB p.1 fpreK = true) : ∃ v f : ByteArray, (47 : UInt8) ∉ v.data.toList ∧ (47 : UInt8) ∉ f.data.toList ∧ p.1 = folderK v f ∧ v.size ≤ 30 ∧ f.size ≤ 30 ∧ (partsK p.1).map bs = [v, f] ∧ 2 ≤ p.1.size ∧ p.1.size ≤ 30 ∧ ∃ q : Int × Int, metaV p.2 = some q ∧ metaM B v f = some q := by
  obtain ⟨r, hr⟩ := begins_iff.1 hb
  have hr2 : p.1.data.toList = 102 :: 47 :: r := by rw [hr]; rfl
  have hnv : p.1 ≠ vK := fun e => by rw [e] at hr2; cases hr2
  have ha := store_pairK h hp hnv
  have hsp := parts_of hr2 (by decide)
  rw [hsp] at ha
  have hpk : partsK p.1 = splitL 47 r := by unfold partsK; rw [hr2]; rfl
  have hns := no_slashK (c := 47) (l := r) rfl
  have hz := (store_facts h).1.2.1 p hp
  have hu := (store_facts h).1.2.2
  have hsz : p.1.size = r.length + 2 := by rw [← bytes_len, hr2]; rfl
  match hs : splitL 47 r, ha, hns with
  | [], _, _ => exact absurd hs (splitL_ne 47 _)
  | [b], ha, _ =>
    have h1 : ([102] : List UInt8) = [117] := ha.1
    cases h1
  | [b, c], ha, hns =>
    have hb1 := hns b (by simp)
    have hc1 := hns c (by simp)
    have hj : r = b ++ 47 :: c := by
      obtain ⟨rest, h1, h2, _⟩ := split_back hs
      rw [h1, (split_one h2).1]
    have hk : p.1 = folderK (bs b) (bs c) := by
      refine bs_inj ?_
      rw [hr2, folderK_data, hj]
      simp [bs]
    have hf := (pairF_iff.1 ha.2).2.2
    have hg : getM B (folderK (bs b) (bs c)) = some p.2 := (getM_mem hu).2 (by rw [← hk]; exact hp)
    refine ⟨bs b, bs c, hb1, hc1, hk, ?_, ?_, ?_, by omega, hz.2.1, ?_⟩
    · have : (bs b).size = b.length := rfl
      rw [hj, List.length_append] at hsz
      omega
    · have : (bs c).size = c.length := rfl
      rw [hj, List.length_append, List.length_cons] at hsz
      omega
    · rw [hpk, hs]
      rfl
    · match hm : metaM B (bs b) (bs c), hf with
      | some q, _ =>
        refine ⟨q, ?_, rfl⟩
        unfold metaM at hm
        rw [hg] at hm
        exact hm
  | [b, c, d], ha, _ =>
    have h1 : ([102] : List UInt8) = [109] := ha.1
    cases h1
  | _ :: _ :: _ :: _ :: _, ha, _ =>
    exact ha.elim
theorem marks_look {A : List PM} (h : storeB A = true) (v f : ByteArray) (P : Int × Int → Bool) : ((marksM A).any fun k => decide (k.1 = folderK v f) && P k.2) = ((metaM A v f).map P).getD false := by
  have hu := (store_facts h).1.2.2
  rw [Bool.eq_iff_iff, List.any_eq_true]
  constructor
  · rintro ⟨k, hk, h2⟩
    unfold marksM at hk
    obtain ⟨p, hp, rfl⟩ := List.mem_map.1 hk
    obtain ⟨hp1, hp2⟩ := List.mem_filter.1 hp
    rw [Bool.and_eq_true, decide_eq_true_eq] at h2
    obtain ⟨v', f', _, _, _, _, _, _, _, _, q, hq, _⟩ := folder_val h hp1 hp2
    have e1 : p.1 = folderK v f := h2.1
    have hg : getM A (folderK v f) = some p.2 := (getM_mem hu).2 (by rw [← e1]; exact hp1)
    have h3 := h2.2
    unfold metaM
    rw [hg]
    show ((metaV p.2).map P).getD false = true
    unfold markP at h3
    rw [hq] at h3 ⊢
    exact h3
  · intro h2
    match hm : metaM A v f, h2 with
    | some q, h2 =>
      obtain ⟨w, hw, hq⟩ := (meta_iff hu).1 hm
      refine ⟨markP (folderK v f, w), List.mem_map.2 ⟨_, List.mem_filter.2 ⟨hw, begins_iff.2 ⟨v.data.toList ++ 47 :: f.data.toList, ?_⟩⟩, rfl⟩, ?_⟩
      · rw [folderK_data]
        rfl
      · rw [Bool.and_eq_true, decide_eq_true_eq]
        refine ⟨rfl, ?_⟩
        unfold markP
        rw [hq]
        exact h2
/-- What is asked of a folder of the later list, in the words of the specification. -/
def askR (nx x n : Int) : Option (Int × Int) → Bool
  | some t => decide (nx ≤ x) || (decide (t.1 = x) && decide (t.2 ≤ n))
  | none => decide (nx ≤ x)
theorem ok_ask {A : List PM} (hA : storeB A = true) {p : PM} {v f : ByteArray} {q : Int × Int} (hk : p.1 = folderK v f) (hq : metaV p.2 = some q) (nx : Int) : okP nx (marksM A) (markP p) = askR nx q.1 q.2 (metaM A v f) := by
  unfold okP
  have h1 : (markP p).1 = folderK v f := hk
  have h2 : (markP p).2 = q := by unfold markP; rw [hq]; rfl
  rw [h1, h2, marks_look hA v f fun t => decide (t.1 = q.1) && decide (t.2 ≤ q.2)]
  cases metaM A v f with
  | none => exact Bool.or_false _
  | some t => rfl
theorem rises_map {A B : List PM} (nx : Int) : (marksM B).all (okP nx (marksM A)) = (B.filter fun x => beginsB x.1 fpreK).all fun p => okP nx (marksM A) (markP p) := by
  unfold marksM
  rw [List.all_map]
  rfl
end Go.Proofs.YthgbclipknfmjaaGreatDoor
namespace Go.Proofs.YthgbclipknfmjaaGreatDoor
open Go.ChangeShapes Go.WideShapes Go.ChangeAt Go.RowKit Go.Deep Go.Lib
set_option linter.unusedVariables false
set_option linter.unusedSimpArgs false
set_option maxRecDepth 100000

theorem metaSomeK (a : Option Addr) (n c : Nat) (L : List PM) (u f : ByteArray) (w : World) (hL : L.length = n) (hg : GoodL L) (hu : u.size ≤ 1048576) (hf : f.size ≤ 1048576) (h : Src w a (cellsP L)) (x y : Int) (hm : metaM L u f = some (x, y)) :
    Calls Tryz.prog 66 #[.slice a n c, .string u, .string f] w fun e w' => e = .returned (.tuple #[.int .i64 x, .int .i64 y, .bool true]) ∧ Below w.heap.size w w' := by
  refine (l07MetaS a n c L u f w hL hg hu hf h).mono ?_
  rintro e w' ⟨p, q, rfl, hpost, hb⟩
  rw [hm] at hpost ⊢
  obtain ⟨h1, h2⟩ := hpost _ rfl
  dsimp only at h1 h2
  rw [h1, h2]
  exact ⟨rfl, hb⟩
theorem under_isK (L : List PM) (k : ByteArray) : ∀ n, n ≤ L.length → under (fK L) (fV L) k n = (L.take n).filter fun x => beginsB x.1 k := by
  intro n
  induction n with
  | zero => intro _; rfl
  | succ n ih =>
    intro hn
    have h1 := ih (by omega)
    have hlt : n < L.length := by omega
    rw [List.take_add_one, List.getElem?_eq_getElem hlt, List.filter_append]
    cases hb : beginsB (fK L n) k with
    | true =>
      rw [under_hit _ _ _ _ hb, h1, (at_fst hlt).1, (at_fst hlt).2]
      rw [(at_fst hlt).1] at hb
      simp [hb]
    | false =>
      rw [under_miss _ _ _ _ hb, h1]
      rw [(at_fst hlt).1] at hb
      simp [hb]
theorem ret_rises {a b : Bool} {k l : Int} (h1 : a = b) (h2 : k = l) : Ending.returned (.tuple #[.bool a, .int .i64 k]) = .returned (.tuple #[.bool b, .int .i64 l]) := by rw [h1, h2]
theorem vr_long {A B : List PM} (h : 4096 < A.length ∨ 4096 < B.length) : vrM A B = (false, 2) := by unfold vrM; rw [if_pos h]
theorem vr_bad {A B : List PM} (h : ¬ (4096 < A.length ∨ 4096 < B.length)) (h2 : storeB A = false ∨ storeB B = false) : vrM A B = (false, 1) := by unfold vrM; rw [if_neg h, if_pos h2]
theorem vr_ok {A B : List PM} (h : ¬ (4096 < A.length ∨ 4096 < B.length)) (h2 : storeB A = true) (h3 : storeB B = true) : vrM A B = (risesB A B, 0) := by unfold vrM; rw [if_neg h, if_neg (by rw [h2, h3]; simp)]
theorem vr_low {A B : List PM} (h : nextM B < nextM A) : risesB A B = false := by unfold risesB; rw [decide_eq_true h]; rfl
theorem vr_all {A B : List PM} (h : ¬ nextM B < nextM A) : risesB A B = (B.filter fun x => beginsB x.1 fpreK).all fun p => okP (nextM A) (marksM A) (markP p) := by unfold risesB; rw [decide_eq_false h, rises_map]; rfl
set_option maxHeartbeats 8000000 in
theorem specRisesX (a1 : Option Addr) (n1 c1 : Nat) (A : List PM) (a2 : Option Addr) (n2 c2 : Nat) (B : List PM) (w : World) (hA : A.length = n1) (hB : B.length = n2) (hn1 : n1 ≤ 1048576) (hn2 : n2 ≤ 1048576) (hs1 : ∀ x ∈ A, x.1.size ≤ 1048576 ∧ x.2.size ≤ 1048576) (hs2 : ∀ x ∈ B, x.1.size ≤ 1048576 ∧ x.2.size ≤ 1048576) (h1 : Src w a1 (cellsP A)) (h2 : Src w a2 (cellsP B)) (T : Bool) (Q : Int) (HQ : Hid (vrM A B = (T, Q))) :
    Calls Tryz.prog 22 #[.slice a1 n1 c1, .slice a2 n2 c2] w fun e w' => e = .returned (.tuple #[.bool T, .int .i64 Q]) ∧ Below w.heap.size w w' := by
  by_cases hlong : 4096 < A.length ∨ 4096 < B.length
  · obtain ⟨rfl, rfl⟩ : false = T ∧ 2 = Q := by
      have h9 := HQ.out
      rw [vr_long hlong] at h9
      cases h9
      exact ⟨rfl, rfl⟩
    rw [hA, hB] at hlong
    clear HQ hs1 hs2 h1 h2
    by_cases hl1 : 4096 < n1
    · have hl1i : (4096 : Int) < (n1 : Int) := by omega
      go_enter Tryz.func22, Tryz.ntmps22
      go_wp2_with fail
      exact bodyPost_ret (v := .tuple #[.bool false, .int .i64 2]) (by simp [results, Tryz.results22, go_sem]) rfl ⟨rfl, Below.refl _ _⟩
    · have hl1i : ¬ (4096 : Int) < (n1 : Int) := by omega
      have hl2i : (4096 : Int) < (n2 : Int) := by omega
      go_enter Tryz.func22, Tryz.ntmps22
      go_wp2_with fail
      exact bodyPost_ret (v := .tuple #[.bool false, .int .i64 2]) (by simp [results, Tryz.results22, go_sem]) rfl ⟨rfl, Below.refl _ _⟩
  have hl1 : ¬ (4096 : Int) < (n1 : Int) := by omega
  have hl2 : ¬ (4096 : Int) < (n2 : Int) := by omega
  obtain ⟨sA, hsA⟩ : ∃ x, storeB A = x := ⟨_, rfl⟩
  obtain ⟨sB, hsB⟩ : ∃ x, storeB B = x := ⟨_, rfl⟩
  have COA := fun (W : World) (k1 : Src W a1 (cellsP A)) => specMailStoreOK a1 n1 c1 A W hA hn1 hs1 k1 sA hsA
  have COB := fun (W : World) (k1 : Src W a2 (cellsP B)) => specMailStoreOK a2 n2 c2 B W hB hn2 hs2 k1 sB hsB
  have HS : Hid (Src w a1 (cellsP A) ∧ Src w a2 (cellsP B)) := ⟨h1, h2⟩
  cases sA with
  | false =>
    obtain ⟨rfl, rfl⟩ : false = T ∧ 1 = Q := by
      have h9 := HQ.out
      rw [vr_bad hlong (.inl hsA)] at h9
      cases h9
      exact ⟨rfl, rfl⟩
    clear HQ hs1 hs2 h1 h2 hsA hsB COB hlong hA hB
    go_enter Tryz.func22, Tryz.ntmps22
    go_wp2_with fail
    refine (COA w HS.out.1).mono ?_
    rintro e w1 ⟨rfl, hb1⟩
    have B1 : Hid (Below w.heap.size w w1) := hb1
    clear hb1 COA
    go_wp2_with fail
    exact bodyPost_ret (v := .tuple #[.bool false, .int .i64 1]) (by simp [results, Tryz.results22, go_sem]) rfl ⟨rfl, B1.out⟩
  | true =>
  cases sB with
  | false =>
    obtain ⟨rfl, rfl⟩ : false = T ∧ 1 = Q := by
      have h9 := HQ.out
      rw [vr_bad hlong (.inr hsB)] at h9
      cases h9
      exact ⟨rfl, rfl⟩
    clear HQ hs1 hs2 h1 h2 hsA hsB hlong hA hB
    go_enter Tryz.func22, Tryz.ntmps22
    go_wp2_with fail
    refine (COA w HS.out.1).mono ?_
    rintro e w1 ⟨rfl, hb1⟩
    have B1 : Hid (Below w.heap.size w w1) := hb1
    clear hb1 COA
    go_wp2_with fail
    refine (COB w1 (HS.out.2.below B1.out)).mono ?_
    rintro e w2 ⟨rfl, hb2⟩
    have B2 : Hid (Below w.heap.size w w2) := B1.out.trans (hb2.mono B1.out.size)
    clear hb2 COB
    go_wp2_with fail
    exact bodyPost_ret (v := .tuple #[.bool false, .int .i64 1]) (by simp [results, Tryz.results22, go_sem]) rfl ⟨rfl, B2.out⟩
  | true =>
  obtain ⟨rfl, HT⟩ : 0 = Q ∧ Hid (risesB A B = T) := by
    have h9 := HQ.out
    rw [vr_ok hlong hsA hsB] at h9
    cases h9
    exact ⟨rfl, rfl⟩
  clear hlong HQ
  have hgA := (store_facts hsA).1
  have hgB := (store_facts hsB).1
  have n16 : n1 ≤ 60 := by rw [← hA]; exact hgA.1
  have n26 : n2 ≤ 60 := by rw [← hB]; exact hgB.1
  have CNA := fun (W : World) (k1 : Src W a1 (cellsP A)) => l07NextS a1 n1 c1 A W hA hgA k1
  have CNB := fun (W : World) (k1 : Src W a2 (cellsP B)) => l07NextS a2 n2 c2 B W hB hgB k1
  have CMA := fun (v f : ByteArray) (hv : v.size ≤ 30) (hf : f.size ≤ 30) (W : World) (k1 : Src W a1 (cellsP A)) => l07MetaS a1 n1 c1 A v f W hA hgA (by omega) (by omega) k1
  have CMB := fun (v f : ByteArray) (hv : v.size ≤ 30) (hf : f.size ≤ 30) (W : World) (k1 : Src W a2 (cellsP B)) => metaSomeK a2 n2 c2 B v f W hB hgB (by omega) (by omega) k1
  have CU := fun (W : World) (k1 : Src W a2 (cellsP B)) => l01Under a2 n2 c2 (fK B) (fV B) fpreK W (by omega) (by decide) (fun i hi => by
    have hi2 : i < B.length := by omega
    obtain ⟨e1, e2⟩ := at_fst hi2
    rw [e1, e2]
    have := hgB.2.1 _ (List.getElem_mem hi2)
    omega) (sp_src k1 hB)
  have eU : under (fK B) (fV B) fpreK n2 = B.filter fun x => beginsB x.1 fpreK := by
    rw [under_isK B fpreK n2 (by omega), List.take_of_length_le (by omega)]
  simp only [eU] at CU
  obtain ⟨U, hU⟩ : ∃ t, (B.filter fun x => beginsB x.1 fpreK) = t := ⟨_, rfl⟩
  simp only [hU] at CU
  obtain ⟨m, hm⟩ : ∃ t, U.length = t := ⟨_, rfl⟩
  have HUM : Hid (U.length = m) := hm
  have hm60 : m ≤ 60 := by
    rw [← hm, ← hU]
    have := List.length_filter_le (fun x : PM => beginsB x.1 fpreK) B
    omega
  obtain ⟨xa, hxa⟩ : ∃ x, nextM A = x := ⟨_, rfl⟩
  obtain ⟨xb, hxb⟩ : ∃ x, nextM B = x := ⟨_, rfl⟩
  simp only [hxa] at CNA
  simp only [hxb] at CNB
  obtain ⟨G, hG⟩ : ∃ G : PM → Bool, (fun p => okP xa (marksM A) (markP p)) = G := ⟨_, rfl⟩
  have HEA : Hid (∀ p ∈ U, ∃ v f : ByteArray, v.size ≤ 30 ∧ f.size ≤ 30 ∧ (partsK p.1).map bs = [v, f] ∧ 2 ≤ p.1.size ∧ p.1.size ≤ 30 ∧ ∃ x n, metaM B v f = some (x, n) ∧ G p = askR xa x n (metaM A v f)) := fun p hp => by
    rw [← hU, List.mem_filter] at hp
    obtain ⟨v, f, k1, k2, k3, k4, k5, k6, k7, k8, q, k9, k10⟩ := folder_val hsB hp.1 hp.2
    exact ⟨v, f, k4, k5, k6, k7, k8, q.1, q.2, k10, by rw [← hG]; exact ok_ask hsA k3 k9 xa⟩
  by_cases hnb : xb < xa
  · obtain rfl : false = T := by
      rw [← HT.out]
      exact (vr_low (by rw [hxa, hxb]; exact hnb)).symm
    clear HT hs1 hs2 h1 h2 hsA hsB hA hB hgA hgB eU hU hm hxa hxb hG HEA CU CMA CMB
    go_enter Tryz.func22, Tryz.ntmps22
    go_wp2_with fail
    refine (COA w HS.out.1).mono ?_
    rintro e w1 ⟨rfl, hb1⟩
    have B1 : Hid (Below w.heap.size w w1) := hb1
    clear hb1 COA
    go_wp2_with fail
    refine (COB w1 (HS.out.2.below B1.out)).mono ?_
    rintro e w2 ⟨rfl, hb2⟩
    have B2 : Hid (Below w.heap.size w w2) := B1.out.trans (hb2.mono B1.out.size)
    have S2 : Hid (Src w2 a1 (cellsP A) ∧ Src w2 a2 (cellsP B)) := ⟨HS.out.1.below B2.out, HS.out.2.below B2.out⟩
    clear hb2 COB HS
    go_wp2_with fail
    refine (CNB w2 S2.out.2).mono ?_
    rintro e w3 ⟨rfl, hw3⟩
    obtain rfl := hw3
    go_wp2_with fail
    refine (CNA w3 S2.out.1).mono ?_
    rintro e w4 ⟨rfl, hw4⟩
    obtain rfl := hw4
    clear CNB
    go_wp2_with fail
    exact bodyPost_ret (v := .tuple #[.bool false, .int .i64 0]) (by simp [results, Tryz.results22, go_sem]) rfl ⟨rfl, B2.out⟩
  have HAL : Hid ((U.drop 0).all G = T) := by
    show _ = _
    rw [← HT.out, vr_all (by rw [hxa, hxb]; exact hnb), hU, ← hG, hxa]
    rfl
  clear HT hs1 hs2 h1 h2 hsA hsB hA hB hgA hgB eU hU hm hxa hxb hG
  go_enter Tryz.func22, Tryz.ntmps22
  go_wp2_with fail
  refine (COA w HS.out.1).mono ?_
  rintro e w1 ⟨rfl, hb1⟩
  have B1 : Hid (Below w.heap.size w w1) := hb1
  clear hb1 COA
  go_wp2_with fail
  refine (COB w1 (HS.out.2.below B1.out)).mono ?_
  rintro e w2 ⟨rfl, hb2⟩
  have B2 : Hid (Below w.heap.size w w2) := B1.out.trans (hb2.mono B1.out.size)
  have S2 : Hid (Src w2 a1 (cellsP A) ∧ Src w2 a2 (cellsP B)) := ⟨HS.out.1.below B2.out, HS.out.2.below B2.out⟩
  clear hb2 COB HS
  go_wp2_with fail
  refine (CNB w2 S2.out.2).mono ?_
  rintro e w3 ⟨rfl, hw3⟩
  obtain rfl := hw3
  go_wp2_with fail
  refine (CNA w3 S2.out.1).mono ?_
  rintro e w4 ⟨rfl, hw4⟩
  obtain rfl := hw4
  clear CNB
  go_wp2_with fail
  refine (CU w4 S2.out.2).mono ?_
  rintro e w5 ⟨v5, rfl, ho5, hb5⟩
  have ho6 : w5.ownsRow w4.heap.size 68 2 v5 U.length (cellsP U) := ho5
  rw [HUM.out] at ho6
  obtain ⟨au, cu, rfl, hsu, _⟩ := own_src ho6
  have B5 : Hid (Below w.heap.size w w5) := B2.out.trans (hb5.mono B2.out.size)
  have S5 : Hid (Src w5 a1 (cellsP A) ∧ Src w5 a2 (cellsP B) ∧ Src w5 au (cellsP U)) := ⟨S2.out.1.below hb5, S2.out.2.below hb5, hsu⟩
  clear ho5 ho6 hb5 hsu CU S2
  go_wp2_with fail
  go_loopw [7] (fun iv wr => ∃ j : Nat, j ≤ m ∧ iv = .int .i64 (j : Int) ∧ Hid ((U.drop j).all G = T) ∧ Hid (Below w5.heap.size w5 wr)) (fun i _ => m - (RowKit.intOf i).toNat)
  case atStart => exact ⟨0, by omega, rfl, HAL.out, Below.refl _ _⟩
  case round =>
    obtain ⟨j, hj, rfl, hal, hbr⟩ := hrel
    have B6 : Hid (Below w.heap.size w wr) := B5.out.trans (hbr.out.mono B5.out.size)
    by_cases hlt : j < m
    · have hlti : (j : Int) < (m : Int) := by omega
      have hj0 : (0 : Int) ≤ (j : Int) := by omega
      obtain ⟨b, o, x, y, rfl, e0, e1, hx⟩ := srcP (S5.out.2.2.below hbr.out) (i := j) (by rw [HUM.out]; exact hlt)
      have hmem : (x, y) ∈ U := by
        rw [← hx.out, List.getD_eq_getElem?_getD, List.getElem?_eq_getElem (by rw [HUM.out]; exact hlt)]
        exact List.getElem_mem _
      obtain ⟨v, f, hv, hf, hpk, z1, z2, xx, nn, hmB, hok⟩ := HEA.out (x, y) hmem
      have CK := l07NamesS x wr z1 (by have : x.size ≤ 30 := z2; omega)
      have hpk2 : (partsK x).map bs = [v, f] := hpk
      have hpl : (partsK x).length = 2 := by
        have h9 := congrArg List.length hpk2
        rw [List.length_map] at h9
        exact h9
      rw [hpk2, hpl] at CK
      obtain ⟨R, hR⟩ : ∃ R, metaM A v f = R := ⟨_, rfl⟩
      obtain ⟨bm, hbm⟩ : ∃ bm, R.isSome = bm := ⟨_, rfl⟩
      have HOR : Hid (metaM B v f = some (xx, nn) ∧ R.isSome = bm) := ⟨hmB, hbm⟩
      have HAJ : Hid ((askR xa xx nn R && (U.drop (j + 1)).all G) = T) := by
        show _ = _
        rw [← hal.out, all_dx p0 G U j (by rw [HUM.out]; exact hlt), hx.out, hok, hR]
      have CMR := fun (W : World) (k1 : Src W a1 (cellsP A)) => CMA v f hv hf W k1
      simp only [hR, hbm] at CMR
      clear hx hmem hpk hpk2 hpl hmB hok e1 z1 z2 hal hR hbm CMA
      go_wp2_with fail
      refine CK.mono ?_
      rintro e w7 ⟨v7, rfl, ho7, hb7⟩
      obtain ⟨aw, cw, rfl, hsw, _⟩ := own_src ho7
      have B7 : Hid (Below w5.heap.size w5 w7) := hbr.out.trans (hb7.mono hbr.out.size)
      obtain ⟨b8, o8, s0, rfl, g0, hg0⟩ := srcS hsw (i := 0) (by show 0 < 2; omega)
      obtain ⟨b9, o9, s1, e9, g1, hg1⟩ := srcS hsw (i := 1) (by show 1 < 2; omega)
      cases e9
      obtain rfl : v = s0 := hg0.out
      obtain rfl : f = s1 := hg1.out
      have G7 : Hid (Src w7 (some ⟨b8, o8, none⟩) (cellsS [v, f])) := hsw
      have CB7 := CMB v f hv hf w7.drew (S5.out.2.1.below B7.out.drew) xx nn HOR.out.1
      clear ho7 hb7 CK hg0 hg1 hsw e0
      go_wp2_with fail
      go_upto_region 12 with fail
      refine wp_region_noPanic ?_
      refine wp_region_held_drew (S := fun w' => w'.cell? ⟨b8, o8, none⟩ = some (.string v) ∧ w'.cell? ⟨b8, o8 + 1, none⟩ = some (.string f)) (by kernel_rfl) ⟨g0, g1⟩ (fun hHeld => ?_)
      refine tkA (i := 0) (v := .slice a2 n2 c2) ?_ hHeld ?_
      · intro w9 hSw
        obtain ⟨y0, y1⟩ := hSw
        go_simp
      simp only [Act.put, List.setIfInBounds_toArray, List.set_cons_zero, List.set_cons_succ]
      refine tkA (i := 1) (v := .slice (some ⟨b8, o8, none⟩) 2 cw) ?_ hHeld ?_
      · intro w9 hSw
        obtain ⟨y0, y1⟩ := hSw
        go_simp
      simp only [Act.put, List.setIfInBounds_toArray, List.set_cons_zero, List.set_cons_succ]
      refine tkA (i := 2) (v := .pointer (some ⟨b8, o8, none⟩)) ?_ hHeld ?_
      · intro w9 hSw
        obtain ⟨y0, y1⟩ := hSw
        go_simp
      simp only [Act.put, List.setIfInBounds_toArray, List.set_cons_zero, List.set_cons_succ]
      refine tkA (i := 3) (v := .string v) ?_ hHeld ?_
      · intro w9 hSw
        obtain ⟨y0, y1⟩ := hSw
        go_simp
      simp only [Act.put, List.setIfInBounds_toArray, List.set_cons_zero, List.set_cons_succ]
      refine tkA (i := 4) (v := .slice (some ⟨b8, o8, none⟩) 2 cw) ?_ hHeld ?_
      · intro w9 hSw
        obtain ⟨y0, y1⟩ := hSw
        go_simp
      simp only [Act.put, List.setIfInBounds_toArray, List.set_cons_zero, List.set_cons_succ]
      refine tkA (i := 5) (v := .pointer (some ⟨b8, o8 + 1, none⟩)) ?_ hHeld ?_
      · intro w9 hSw
        obtain ⟨y0, y1⟩ := hSw
        go_simp
      simp only [Act.put, List.setIfInBounds_toArray, List.set_cons_zero, List.set_cons_succ]
      refine tkA (i := 6) (v := .string f) ?_ hHeld ?_
      · intro w9 hSw
        obtain ⟨y0, y1⟩ := hSw
        go_simp
      simp only [Act.put, List.setIfInBounds_toArray, List.set_cons_zero, List.set_cons_succ]
      refine wpAnyH_ready (rs := [7]) (by kernel_rfl) (by simp) ?_
      refine AllReadyH.cons rfl (fun K hK => ?_) AllReadyH.nil
      go_simp
      refine CB7.mono ?_
      rintro e w8 ⟨rfl, hb8⟩
      dsimp only
      have B8 : Hid (Below w5.heap.size w5 w8) := B7.out.drew.trans (Below.mono hb8 B7.out.size)
      have G8 : Hid (Src w8 (some ⟨b8, o8, none⟩) (cellsS [v, f])) := Src.below (w := w7.drew) G7.out hb8
      have y0 : w8.cell? ⟨b8, o8, none⟩ = some (.string v) := cell_later (w := w7.drew) hb8 g0
      have y1 : w8.cell? ⟨b8, o8 + 1, none⟩ = some (.string f) := cell_later (w := w7.drew) hb8 g1
      clear hb8 CB7 g0 g1
      refine hK _ _ ⟨y0, y1⟩ (fun hHeld => ?_)
      clear hK K
      refine tkA (i := 8) (v := .tuple #[.int .i64 xx, .int .i64 nn, .bool true]) ?_ hHeld ?_
      · intro w9 hSw
        obtain ⟨y0, y1⟩ := hSw
        go_simp
      simp only [Act.put, List.setIfInBounds_toArray, List.set_cons_zero, List.set_cons_succ]
      refine tkA (i := 9) (v := .int .i64 xx) ?_ hHeld ?_
      · intro w9 hSw
        obtain ⟨y0, y1⟩ := hSw
        go_simp
      simp only [Act.put, List.setIfInBounds_toArray, List.set_cons_zero, List.set_cons_succ]
      refine tkA (i := 10) (v := .int .i64 nn) ?_ hHeld ?_
      · intro w9 hSw
        obtain ⟨y0, y1⟩ := hSw
        go_simp
      simp only [Act.put, List.setIfInBounds_toArray, List.set_cons_zero, List.set_cons_succ]
      refine tkA (i := 11) (v := .bool true) ?_ hHeld ?_
      · intro w9 hSw
        obtain ⟨y0, y1⟩ := hSw
        go_simp
      simp only [Act.put, List.setIfInBounds_toArray, List.set_cons_zero, List.set_cons_succ]
      refine wpAnyH_ready (rs := [12]) (by kernel_rfl) (by simp) ?_
      refine AllReadyH.cons rfl (fun K hK => ?_) AllReadyH.nil
      go_simp
      refine hK _ _ ⟨y0, y1⟩ (fun hHeld => ?_)
      clear hK K
      refine wpAnyH_ready (rs := [13]) (by kernel_rfl) (by simp) ?_
      refine AllReadyH.cons rfl (fun K hK => ?_) AllReadyH.nil
      go_simp
      refine hK _ _ ⟨y0, y1⟩ (fun hHeld => ?_)
      clear hK K
      refine wpAnyH_ready (rs := [14]) (by kernel_rfl) (by simp) ?_
      refine AllReadyH.cons rfl (fun K hK => ?_) AllReadyH.nil
      go_simp
      refine hK _ _ ⟨y0, y1⟩ (fun hHeld => ?_)
      clear hK K
      refine wpAnyH_done (by kernel_rfl) ?_ _
      refine NoPanic.normal ?_
      clear hHeld
      have g0 := y0
      have g1 := y1
      clear y0 y1
      have CA8 := CMR w8.drew (S5.out.1.below B8.out.drew)
      go_upto_region 13 with fail
      refine wp_region_noPanic ?_
      refine wp_region_held_drew (S := fun w' => w'.cell? ⟨b8, o8, none⟩ = some (.string v) ∧ w'.cell? ⟨b8, o8 + 1, none⟩ = some (.string f)) (by kernel_rfl) ⟨g0, g1⟩ (fun hHeld => ?_)
      refine tkA (i := 0) (v := .slice a1 n1 c1) ?_ hHeld ?_
      · intro w9 hSw
        obtain ⟨y0, y1⟩ := hSw
        go_simp
      simp only [Act.put, List.setIfInBounds_toArray, List.set_cons_zero, List.set_cons_succ]
      refine tkA (i := 1) (v := .slice (some ⟨b8, o8, none⟩) 2 cw) ?_ hHeld ?_
      · intro w9 hSw
        obtain ⟨y0, y1⟩ := hSw
        go_simp
      simp only [Act.put, List.setIfInBounds_toArray, List.set_cons_zero, List.set_cons_succ]
      refine tkA (i := 2) (v := .pointer (some ⟨b8, o8, none⟩)) ?_ hHeld ?_
      · intro w9 hSw
        obtain ⟨y0, y1⟩ := hSw
        go_simp
      simp only [Act.put, List.setIfInBounds_toArray, List.set_cons_zero, List.set_cons_succ]
      refine tkA (i := 3) (v := .string v) ?_ hHeld ?_
      · intro w9 hSw
        obtain ⟨y0, y1⟩ := hSw
        go_simp
      simp only [Act.put, List.setIfInBounds_toArray, List.set_cons_zero, List.set_cons_succ]
      refine tkA (i := 4) (v := .slice (some ⟨b8, o8, none⟩) 2 cw) ?_ hHeld ?_
      · intro w9 hSw
        obtain ⟨y0, y1⟩ := hSw
        go_simp
      simp only [Act.put, List.setIfInBounds_toArray, List.set_cons_zero, List.set_cons_succ]
      refine tkA (i := 5) (v := .pointer (some ⟨b8, o8 + 1, none⟩)) ?_ hHeld ?_
      · intro w9 hSw
        obtain ⟨y0, y1⟩ := hSw
        go_simp
      simp only [Act.put, List.setIfInBounds_toArray, List.set_cons_zero, List.set_cons_succ]
      refine tkA (i := 6) (v := .string f) ?_ hHeld ?_
      · intro w9 hSw
        obtain ⟨y0, y1⟩ := hSw
        go_simp
      simp only [Act.put, List.setIfInBounds_toArray, List.set_cons_zero, List.set_cons_succ]
      refine wpAnyH_ready (rs := [7]) (by kernel_rfl) (by simp) ?_
      refine AllReadyH.cons rfl (fun K hK => ?_) AllReadyH.nil
      go_simp
      refine CA8.mono ?_
      rintro e w9 ⟨p, q, rfl, hpq, hb9⟩
      dsimp only
      have HPQ : Hid (MetaPost R p q) := hpq
      clear hpq
      have B9 : Hid (Below w5.heap.size w5 w9) := B8.out.drew.trans (Below.mono hb9 B8.out.size)
      have G9 : Hid (Src w9 (some ⟨b8, o8, none⟩) (cellsS [v, f])) := Src.below (w := w8.drew) G8.out hb9
      have y0 : w9.cell? ⟨b8, o8, none⟩ = some (.string v) := cell_later (w := w8.drew) hb9 g0
      have y1 : w9.cell? ⟨b8, o8 + 1, none⟩ = some (.string f) := cell_later (w := w8.drew) hb9 g1
      clear hb9 CA8 g0 g1
      refine hK _ _ ⟨y0, y1⟩ (fun hHeld => ?_)
      clear hK K
      refine tkA (i := 8) (v := .tuple #[.int .i64 p, .int .i64 q, .bool bm]) ?_ hHeld ?_
      · intro w9 hSw
        obtain ⟨y0, y1⟩ := hSw
        go_simp
      simp only [Act.put, List.setIfInBounds_toArray, List.set_cons_zero, List.set_cons_succ]
      refine tkA (i := 9) (v := .int .i64 p) ?_ hHeld ?_
      · intro w9 hSw
        obtain ⟨y0, y1⟩ := hSw
        go_simp
      simp only [Act.put, List.setIfInBounds_toArray, List.set_cons_zero, List.set_cons_succ]
      refine tkA (i := 10) (v := .int .i64 q) ?_ hHeld ?_
      · intro w9 hSw
        obtain ⟨y0, y1⟩ := hSw
        go_simp
      simp only [Act.put, List.setIfInBounds_toArray, List.set_cons_zero, List.set_cons_succ]
      refine tkA (i := 11) (v := .bool bm) ?_ hHeld ?_
      · intro w9 hSw
        obtain ⟨y0, y1⟩ := hSw
        go_simp
      simp only [Act.put, List.setIfInBounds_toArray, List.set_cons_zero, List.set_cons_succ]
      refine wpAnyH_ready (rs := [12]) (by kernel_rfl) (by simp) ?_
      refine AllReadyH.cons rfl (fun K hK => ?_) AllReadyH.nil
      go_simp
      refine hK _ _ ⟨y0, y1⟩ (fun hHeld => ?_)
      clear hK K
      refine wpAnyH_ready (rs := [13]) (by kernel_rfl) (by simp) ?_
      refine AllReadyH.cons rfl (fun K hK => ?_) AllReadyH.nil
      go_simp
      refine hK _ _ ⟨y0, y1⟩ (fun hHeld => ?_)
      clear hK K
      refine wpAnyH_ready (rs := [14]) (by kernel_rfl) (by simp) ?_
      refine AllReadyH.cons rfl (fun K hK => ?_) AllReadyH.nil
      go_simp
      refine hK _ _ ⟨y0, y1⟩ (fun hHeld => ?_)
      clear hK K
      refine wpAnyH_done (by kernel_rfl) ?_ _
      refine NoPanic.normal ?_
      clear hHeld
      have CN9 := CNA w9 (S5.out.1.below B9.out)
      clear y0 y1
      go_wp2_with fail
      refine CN9.mono ?_
      rintro e w10 ⟨rfl, hw10⟩
      obtain rfl := hw10
      clear CN9
      by_cases hx : xa ≤ xx
      · have HJ2 : Hid ((U.drop (j + 1)).all G = T) := by
          show _ = _
          rw [← HAJ.out, show askR xa xx nn R = true from by cases R <;> simp [askR, hx], Bool.true_and]
        go_wp2_with fail
        exact ⟨⟨j + 1, by omega, by go_num, HJ2.out, B9.out⟩, by simp [RowKit.intOf]; omega⟩
      · cases bm with
        | false =>
          obtain rfl : false = T := by
            rw [← HAJ.out]
            have h9 := HOR.out.2
            cases R with
            | none => rw [show askR xa xx nn none = false from decide_eq_false hx, Bool.false_and]
            | some t => cases h9
          have B10 : Hid (Below w.heap.size w w10) := B5.out.trans (B9.out.mono B5.out.size)
          go_wp2_with fail
          exact bodyPost_ret (v := .tuple #[.bool false, .int .i64 0]) (by simp [results, Tryz.results22, go_sem]) rfl ⟨rfl, B10.out⟩
        | true =>
          have B10 : Hid (Below w.heap.size w w10) := B5.out.trans (B9.out.mono B5.out.size)
          obtain ⟨t, ht⟩ := Option.isSome_iff_exists.1 HOR.out.2
          obtain ⟨hp1, hp2⟩ := HPQ.out t ht
          have HA4 : Hid ((askR xa xx nn (some (p, q)) && (U.drop (j + 1)).all G) = T) := by
            show _ = _
            rw [← HAJ.out, ht, hp1, hp2]
          clear hp1 hp2 ht HAJ HPQ
          by_cases hpx : xx = p
          · subst hpx
            by_cases hqn : nn < q
            · obtain rfl : false = T := by
                rw [← HA4.out, show askR xa xx nn (some (xx, q)) = false from by simp [askR, hx]; omega, Bool.false_and]
              go_wp2_with fail
              exact bodyPost_ret (v := .tuple #[.bool false, .int .i64 0]) (by simp [results, Tryz.results22, go_sem]) rfl ⟨rfl, B10.out⟩
            · have HJ2 : Hid ((U.drop (j + 1)).all G = T) := by
                show _ = _
                rw [← HA4.out, show askR xa xx nn (some (xx, q)) = true from by simp [askR]; omega, Bool.true_and]
              go_wp2_with fail
              exact ⟨⟨j + 1, by omega, by go_num, HJ2.out, B9.out⟩, by simp [RowKit.intOf]; omega⟩
          · have hne : (xx != p) = true := by simpa using hpx
            obtain rfl : false = T := by
              rw [← HA4.out, show askR xa xx nn (some (p, q)) = false from by simp [askR, hx, Ne.symm hpx], Bool.false_and]
            go_wp2_with fail
            exact bodyPost_ret (v := .tuple #[.bool false, .int .i64 0]) (by simp [results, Tryz.results22, go_sem]) rfl ⟨rfl, B10.out⟩
    · obtain rfl : j = m := by omega
      have hlti : ¬ (j : Int) < (j : Int) := by omega
      obtain rfl : true = T := by rw [← hal.out, all_de _ _ _ (by rw [HUM.out]; exact Nat.le_refl _)]
      clear hal HAL
      go_wp2_with fail
      exact bodyPost_ret (v := .tuple #[.bool true, .int .i64 0]) (by simp [results, Tryz.results22, go_sem]) rfl ⟨rfl, B6.out⟩
end Go.Proofs.YthgbclipknfmjaaGreatDoor
namespace Go.Proofs.YthgbclipknfmjaaGreatDoor
open Go.ChangeShapes Go.WideShapes Go.ChangeAt Go.RowKit Go.Deep Go.Lib
set_option linter.unusedVariables false
set_option linter.unusedSimpArgs false
set_option maxRecDepth 100000

theorem infoMk : (Tryz.prog.info? 144).map (fun i => (i.zero, i.size, i.bytes)) = some (some (.agg #[.string ⟨#[]⟩, .int .i64 0, .int .i64 0]), 3, 32) := by kernel_rfl
theorem has_begins (x : ByteArray) : hasPrefix x.data.toList fpreK.data.toList = beginsB x fpreK := by
  rw [Bool.eq_iff_iff, begins_iff]
  unfold hasPrefix
  rw [List.isPrefixOf_iff_prefix]
  constructor
  · rintro ⟨r, hr⟩; exact ⟨r, hr.symm⟩
  · rintro ⟨r, hr⟩; exact ⟨r, hr.symm⟩
theorem beginsI (x : ByteArray) (b : Bool) (h : beginsB x fpreK = b) (w : World) : Calls Tryz.prog 150 #[.string x, .string ⟨#[102, 47]⟩] w fun e w' => e = .returned (.bool b) ∧ w' = w := by
  rw [← h, ← has_begins]
  exact Tryz.strings_HasPrefix x fpreK w
theorem meta_cut {y : ByteArray} {q : Int × Int} (h : metaV y = some q) : numB (cut y.data.toList [32]).1 = some q.1 ∧ numB (cut y.data.toList [32]).2.1 = some q.2 := by
  have h9 : q.1 < 10000 := by
    match hs : splitL 32 y.data.toList with
    | [a, b] =>
      rw [metaV_two hs] at h
      have := metaN_some.1 h
      omega
    | [] => rw [metaV_not (by rw [hs]; decide)] at h; cases h
    | [_] => rw [metaV_not (by rw [hs]; simp)] at h; cases h
    | _ :: _ :: _ :: _ => rw [metaV_not (by rw [hs]; simp)] at h; cases h
  have h1 : folderM 10000 inboxT y = some ⟨inboxT, q.1, q.2, []⟩ := (folder_meta (by omega)).2 ⟨by kernel_rfl, h, h9, rfl⟩
  have h2 : folderN 10000 inboxT (numB (cut y.data.toList [32]).1) (numB (cut y.data.toList [32]).2.1) = some ⟨inboxT, q.1, q.2, []⟩ := h1
  obtain ⟨_, h3, h4, _⟩ := folderN_some.1 h2
  exact ⟨h3, h4⟩
theorem src_oneMk {w : World} {x : ByteArray} {a b : Int} {B ty : Nat} (hB : B = w.heap.size) : Src (w.alloc (.cells #[.string x, .int .i64 a, .int .i64 b] ty)) (some ⟨B, 0, none⟩) (cellsMk [(x, a, b)]) := by
  have hb : Box (w.alloc (.cells #[.string x, .int .i64 a, .int .i64 b] ty)) B [.string x, .int .i64 a, .int .i64 b] := Box.new hB
  refine .inr ⟨B, 0, rfl, fun j hj => ?_⟩
  have hj4 : j < 3 := hj
  rw [Nat.zero_add]
  match j, hj4 with
  | 0, _ => exact (hb 0 _ rfl).1
  | 1, _ => exact (hb 1 _ rfl).1
  | 2, _ => exact (hb 2 _ rfl).1
theorem marks_yes {L : List PM} {k : Nat} (hk : k < L.length) {x y : ByteArray} (he : L.getD k p0 = (x, y)) (hb : beginsB x fpreK = true) : marksM (L.take (k + 1)) = marksM (L.take k) ++ [markP (x, y)] := by
  unfold marksM
  rw [List.take_add_one, List.getElem?_eq_getElem hk, List.filter_append]
  have e : L[k] = (x, y) := by
    rw [← he, List.getD_eq_getElem?_getD, List.getElem?_eq_getElem hk]
    rfl
  rw [e]
  simp [hb]
theorem marks_no {L : List PM} {k : Nat} (hk : k < L.length) {x y : ByteArray} (he : L.getD k p0 = (x, y)) (hb : beginsB x fpreK = false) : marksM (L.take (k + 1)) = marksM (L.take k) := by
  unfold marksM
  rw [List.take_add_one, List.getElem?_eq_getElem hk, List.filter_append]
  have e : L[k] = (x, y) := by
    rw [← he, List.getD_eq_getElem?_getD, List.getElem?_eq_getElem hk]
    rfl
  rw [e]
  simp [hb]
theorem marks_len (L : List PM) : (marksM L).length ≤ L.length := by
  unfold marksM
  rw [List.length_map]
  exact List.length_filter_le _ _
set_option maxHeartbeats 4000000 in
theorem marksOfI (a : Option Addr) (n c : Nat) (L : List PM) (w : World) (hL : L.length = n) (hst : storeB L = true) (h : Src w a (cellsP L)) (hG : Gl w) (h8 : 8 ≤ w.heap.size) :
    Calls Tryz.prog 124 #[.slice a n c] w fun e w' => ∃ v, e = .returned v ∧ w'.ownsRow w.heap.size 144 3 v (marksM L).length (cellsMk (marksM L)) ∧ Below w.heap.size w w' := by
  have n60 : n ≤ 60 := by rw [← hL]; exact (store_facts hst).1.1
  have HF : Hid (∀ p ∈ L, p.1.size ≤ 30 ∧ p.2.size ≤ 90 ∧ (beginsB p.1 fpreK = true → ∃ q, metaV p.2 = some q)) := fun p hp => by
    have := (store_facts hst).1.2.1 p hp
    refine ⟨this.2.1, this.2.2, fun hb => ?_⟩
    obtain ⟨v, f, _, _, _, _, _, _, _, _, q, hq, _⟩ := folder_val hst hp hb
    exact ⟨q, hq⟩
  have HL : Hid (L.length = n) := hL
  have HS : Hid (Src w a (cellsP L)) := h
  have HG : Hid (Gl w) := hG
  clear hL hst h hG
  go_enter Tryz.func124, Tryz.ntmps124
  go_wp2_with fail
  go_loopw [3, 12] (fun lv iv wr => ∃ (k : Nat) (v : Value), k ≤ n ∧ iv = .int .i64 (k : Int) ∧ v = lv ∧ Hid (wr.ownsRow w.heap.size 144 3 v (marksM (L.take k)).length (cellsMk (marksM (L.take k)))) ∧ Hid (Below w.heap.size w wr)) (fun _ i _ => n - (RowKit.intOf i).toNat)
  case atStart => exact ⟨0, _, by omega, rfl, rfl, World.ownsRow_nil _ _ _ _, Below.refl _ _⟩
  case round =>
    obtain ⟨k, v, hk, rfl, rfl, hown, hbr⟩ := hrel
    by_cases hlt : k < n
    · have hlti : (k : Int) < (n : Int) := by omega
      have hj0 : (0 : Int) ≤ (k : Int) := by omega
      obtain ⟨b, o, x, y, rfl, e0, e1, hx⟩ := srcP (HS.out.below hbr.out) (i := k) (by rw [HL.out]; exact hlt)
      have hmem : (x, y) ∈ L := by
        rw [← hx.out, List.getD_eq_getElem?_getD, List.getElem?_eq_getElem (by rw [HL.out]; exact hlt)]
        exact List.getElem_mem _
      obtain ⟨hxs, hys, hmt⟩ := HF.out (x, y) hmem
      obtain ⟨bb, hbb⟩ : ∃ bb, beginsB x fpreK = bb := ⟨_, rfl⟩
      have CB := fun W => beginsI x bb hbb W
      obtain ⟨w1, hw1⟩ : ∃ W, wr.alloc (.cells #[.string x, .string y] 68) = W := ⟨_, rfl⟩
      have B1 : Hid (Below w.heap.size w w1) := by show Below _ _ _; rw [← hw1]; exact hbr.out.alloc hbr.out.size _
      have X1 : Hid (Box w1 wr.heap.size [.string x, .string y]) := by show Box _ _ _; rw [← hw1]; exact Box.new rfl
      have O1 : Hid (w1.ownsRow w.heap.size 144 3 v (marksM (L.take k)).length (cellsMk (marksM (L.take k)))) := by show w1.ownsRow _ _ _ _ _ _; rw [← hw1]; exact hown.out.alloc _
      obtain ⟨x10, _⟩ := X1.out 0 _ rfl
      obtain ⟨x11, _⟩ := X1.out 1 _ rfl
      cases bb with
      | false =>
        have HN : Hid (marksM (L.take (k + 1)) = marksM (L.take k)) := marks_no (by rw [HL.out]; exact hlt) hx.out hbb
        clear hmem hxs hys hmt hbb hx hown
        go_wp2_with fail
        refine (CB _).mono ?_
        rintro e w2 ⟨rfl, hw2⟩
        obtain rfl := hw2
        clear CB
        go_wp2_with fail
        refine ⟨⟨k + 1, _, by omega, by go_num, rfl, by rw [HN.out]; exact O1.out, B1.out⟩, by simp [RowKit.intOf]; omega⟩
      | true =>
        obtain ⟨q, hq⟩ := hmt hbb
        obtain ⟨hn1, hn2⟩ := meta_cut hq
        have hys2 : y.size ≤ 90 := hys
        have HY : Hid (marksM (L.take (k + 1)) = marksM (L.take k) ++ [(x, q.1, q.2)]) := by
          show _ = _
          rw [marks_yes (by rw [HL.out]; exact hlt) hx.out hbb]
          unfold markP
          rw [hq]
          rfl
        obtain ⟨q1, hq1⟩ : ∃ z, q.1 = z := ⟨_, rfl⟩
        obtain ⟨q2, hq2⟩ : ∃ z, q.2 = z := ⟨_, rfl⟩
        rw [hq1] at hn1 HY
        rw [hq2] at hn2 HY
        obtain ⟨cm, hcm⟩ := (HG.out.below h8 B1.out).2.2.1
        have CC := Tryz.strings_Cut y ⟨#[32]⟩ cm w1 (by omega) hcm
        obtain ⟨hz1, hz2⟩ := cut_sizes y.data.toList
        rw [bytes_len] at hz1 hz2
        obtain ⟨c1, hc1⟩ : ∃ l, (cut y.data.toList [32]).1 = l := ⟨_, rfl⟩
        obtain ⟨c2, hc2⟩ : ∃ l, (cut y.data.toList [32]).2.1 = l := ⟨_, rfl⟩
        obtain ⟨c3, hc3⟩ : ∃ l, (cut y.data.toList [32]).2.2 = l := ⟨_, rfl⟩
        have CC2 : Calls Tryz.prog 151 #[.string y, .string ⟨#[32]⟩] w1 fun e w' => e = .returned (.tuple #[.string (bs c1), .string (bs c2), .bool c3]) ∧ ∃ n, w' = w1.drewN n := by
          rw [← hc1, ← hc2, ← hc3]; exact CC
        rw [hc1] at hz1 hn1
        rw [hc2] at hz2 hn2
        have hs1 : (bs c1).size ≤ 90 := by have : (bs c1).size = c1.length := rfl; omega
        have hs2 : (bs c2).size ≤ 90 := by have : (bs c2).size = c2.length := rfl; omega
        have N1 : ∀ W, Gl W → 8 ≤ W.heap.size → Calls Tryz.prog 142 #[.string (bs c1)] W fun e w' => e = .returned (.tuple #[.int .i64 q1, .bool true]) ∧ Below W.heap.size W w' := fun W hg h9 => by
          refine (readNumberI (bs c1) W (by omega) hg h9).mono ?_
          rintro e w' ⟨n9, rfl, hp, hb9⟩
          have e9 : numB (bs c1).data.toList = some q1 := by rw [show (bs c1).data.toList = c1 from by simp [bs]]; exact hn1
          rw [e9] at hp ⊢
          rw [hp _ rfl]
          exact ⟨rfl, hb9⟩
        have N2 : ∀ W, Gl W → 8 ≤ W.heap.size → Calls Tryz.prog 142 #[.string (bs c2)] W fun e w' => e = .returned (.tuple #[.int .i64 q2, .bool true]) ∧ Below W.heap.size W w' := fun W hg h9 => by
          refine (readNumberI (bs c2) W (by omega) hg h9).mono ?_
          rintro e w' ⟨n9, rfl, hp, hb9⟩
          have e9 : numB (bs c2).data.toList = some q2 := by rw [show (bs c2).data.toList = c2 from by simp [bs]]; exact hn2
          rw [e9] at hp ⊢
          rw [hp _ rfl]
          exact ⟨rfl, hb9⟩
        obtain ⟨t1, ht1⟩ : ∃ t, bs c1 = t := ⟨_, rfl⟩
        obtain ⟨t2, ht2⟩ : ∃ t, bs c2 = t := ⟨_, rfl⟩
        rw [ht1] at N1
        rw [ht2] at N2
        rw [ht1, ht2] at CC2
        have hml : (marksM (L.take k)).length ≤ 60 := by
          have h9 := marks_len (L.take k)
          rw [List.length_take] at h9
          omega
        clear hmem hxs hys hmt hbb hx hown hcm CC hz1 hz2 hc1 hc2 hc3 hs1 hs2 ht1 ht2 hn1 hn2 hq hq1 hq2
        go_wp2_with fail
        refine (CB _).mono ?_
        rintro e w9 ⟨rfl, hw9⟩
        obtain rfl := hw9
        clear CB
        go_wp2_with fail
        refine CC2.mono ?_
        rintro e w2 ⟨rfl, dn, hw2⟩
        have L2 : Below w9.heap.size w9 w2 := by rw [hw2]; exact Below.drewN' (Below.refl _ _) _
        have X2 : Hid (Box w2 wr.heap.size [.string x, .string y]) := Box.below X1.out L2
        have B2 : Hid (Below w.heap.size w w2) := B1.out.trans (L2.mono B1.out.size)
        have O2 : Hid (w2.ownsRow w.heap.size 144 3 v (marksM (L.take k)).length (cellsMk (marksM (L.take k)))) := own_below O1.out L2
        obtain ⟨x20, _⟩ := X2.out 0 _ rfl
        clear hw2 L2 CC2 x10 x11 X1 O1
        have L3 : Hid (Below w2.heap.size w2 (w2.alloc (.cells #[.string x, .int .i64 0, .int .i64 0] 144))) := (Below.refl _ _).alloc (Nat.le_refl _) _
        have X3 : Hid (Box (w2.alloc (.cells #[.string x, .int .i64 0, .int .i64 0] 144)) w2.heap.size [.string x, .int .i64 0, .int .i64 0]) := Box.new rfl
        have CN1 := N1 (w2.alloc (.cells #[.string x, .int .i64 0, .int .i64 0] 144)) (HG.out.below h8 (B2.out.trans (L3.out.mono B2.out.size))) (by have := B2.out.size; have := L3.out.size; omega)
        clear N1
        go_wp2_with fail
        refine CN1.mono ?_
        rintro e w4 ⟨rfl, hb4⟩
        have L4 : Hid (Below w2.heap.size w2 w4) := L3.out.trans (hb4.mono L3.out.size)
        have X4 : Hid (Box w4 w2.heap.size [.string x, .int .i64 0, .int .i64 0]) := Box.below X3.out hb4
        obtain ⟨p41, f41⟩ := X4.out 1 _ rfl
        clear hb4 CN1 X3 L3 x20
        obtain ⟨w5, hw5⟩ : ∃ W, w4.setCell ⟨w2.heap.size, 1, none⟩ (.int .i64 q1) = W := ⟨_, rfl⟩
        have L5 : Hid (Below w2.heap.size w2 w5) := by show Below _ _ _; rw [← hw5]; exact L4.out.setCell (Nat.le_refl _) _
        have X5 : Hid (Box w5 w2.heap.size [.string x, .int .i64 q1, .int .i64 0]) := by show Box _ _ _; rw [← hw5]; exact X4.out.set 1 (.int .i64 q1)
        have g5 : Gl w5 := HG.out.below h8 (B2.out.trans (L5.out.mono B2.out.size))
        have CN2 := N2 w5 g5 (by have := B2.out.size; have := L5.out.size; omega)
        clear N2 g5
        go_wp2_with fail
        refine CN2.mono ?_
        rintro e w6 ⟨rfl, hb6⟩
        have L6 : Hid (Below w2.heap.size w2 w6) := L5.out.trans (hb6.mono L5.out.size)
        have X6 : Hid (Box w6 w2.heap.size [.string x, .int .i64 q1, .int .i64 0]) := Box.below X5.out hb6
        obtain ⟨p62, f62⟩ := X6.out 2 _ rfl
        clear hb6 CN2 hw5 X5 L5 p41 f41 X4 L4
        obtain ⟨w7, hw7⟩ : ∃ W, w6.setCell ⟨w2.heap.size, 2, none⟩ (.int .i64 q2) = W := ⟨_, rfl⟩
        have L7 : Hid (Below w2.heap.size w2 w7) := by show Below _ _ _; rw [← hw7]; exact L6.out.setCell (Nat.le_refl _) _
        have X7 : Hid (Box w7 w2.heap.size [.string x, .int .i64 q1, .int .i64 q2]) := by show Box _ _ _; rw [← hw7]; exact X6.out.set 2 (.int .i64 q2)
        obtain ⟨r0, _⟩ := X7.out 0 _ rfl
        obtain ⟨r1, _⟩ := X7.out 1 _ rfl
        obtain ⟨r2, _⟩ := X7.out 2 _ rfl
        have B7 : Hid (Below w.heap.size w w7) := B2.out.trans (L7.out.mono B2.out.size)
        have O7 : Hid (w7.ownsRow w.heap.size 144 3 v (marksM (L.take k)).length (cellsMk (marksM (L.take k)))) := own_below O2.out L7.out
        obtain ⟨K, hK⟩ : ∃ K, marksM (L.take k) = K := ⟨_, rfl⟩
        rw [hK] at O7 HY hml
        clear hK O2 X6 L6 L7 X7
        go_wp2_with (at_builtin; refine wpList_append_src _ rfl _ _ 141 rfl w.heap.size 144 (.agg #[.string ⟨#[]⟩, .int .i64 0, .int .i64 0]) 3 32 Tryz.underlying141 infoMk rfl (by decide) (by decide) _ K.length (cellsMk K) rfl (O7.out.alloc _) (some ⟨w7.heap.size, 0, none⟩) 1 1 (cellsMk [(x, q1, q2)]) rfl rfl (src_oneMk rfl) (cellsMk_one _) (by omega) (le_alloc B7.out.size _) ?_)
        intro v8 w8 hown8 hgrow8
        have O8 : Hid (w8.ownsRow w.heap.size 144 3 v8 (marksM (L.take (k + 1))).length (cellsMk (marksM (L.take (k + 1))))) := by
          show w8.ownsRow _ _ _ _ _ _
          rw [HY.out, cellsMk_append, List.length_append]
          exact hown8
        have B8 : Hid (Below w.heap.size w w8) := (B7.out.alloc B7.out.size _).grown hgrow8 (le_alloc B7.out.size _) (fun g e => (O7.out.lt g e).1)
        clear hown8 hgrow8 p62 f62 r0 r1 r2
        go_wp2_with fail
        exact ⟨⟨k + 1, _, by omega, by go_num, rfl, O8.out, B8.out⟩, by simp [RowKit.intOf]; omega⟩
    · obtain rfl : k = n := by omega
      have hlti : ¬ (k : Int) < (k : Int) := by omega
      have HO : Hid (wr.ownsRow w.heap.size 144 3 v (marksM L).length (cellsMk (marksM L))) := by
        have h9 := hown.out
        rw [List.take_of_length_le (by rw [HL.out]; exact Nat.le_refl _)] at h9
        exact h9
      clear hown
      go_wp2_with fail
      go_ret
      exact ⟨v, rfl, HO.out, hbr.out⟩
end Go.Proofs.YthgbclipknfmjaaGreatDoor
namespace Go.Proofs.YthgbclipknfmjaaGreatDoor
open Go.ChangeShapes Go.WideShapes Go.ChangeAt Go.RowKit Go.Deep Go.Lib
set_option linter.unusedVariables false
set_option linter.unusedSimpArgs false
set_option maxRecDepth 100000

theorem any_dx {α : Type} (d : α) (f : α → Bool) (L : List α) (k : Nat) (hk : k < L.length) : (L.drop k).any f = (f (L.getD k d) || (L.drop (k + 1)).any f) := by
  rw [List.drop_eq_getElem_cons hk, List.any_cons, List.getD_eq_getElem?_getD, List.getElem?_eq_getElem hk]
  rfl
theorem any_de {α : Type} (f : α → Bool) (L : List α) (k : Nat) (hk : L.length ≤ k) : (L.drop k).any f = false := by
  rw [List.drop_of_length_le hk]
  rfl
def sameK (q k : MMk) : Bool := decide (k.1 = q.1) && (decide (k.2.1 = q.2.1) && decide (k.2.2 ≤ q.2.2))
theorem ok_any (nx : Int) (K : List MMk) (q : MMk) : okP nx K q = (decide (nx ≤ q.2.1) || K.any (sameK q)) := rfl
theorem same_yes {x : ByteArray} {v n m : Int} (h : m ≤ n) : sameK (x, v, n) (x, v, m) = true := by unfold sameK; simp [h]
theorem same_no1 {x y : ByteArray} {v n u m : Int} (h : y ≠ x) : sameK (x, v, n) (y, u, m) = false := by unfold sameK; simp [h]
theorem same_no2 {x y : ByteArray} {v n u m : Int} (h : u ≠ v) : sameK (x, v, n) (y, u, m) = false := by unfold sameK; simp [h]
theorem same_no3 {x y : ByteArray} {v n u m : Int} (h : ¬ m ≤ n) : sameK (x, v, n) (y, u, m) = false := by unfold sameK; simp [h]
theorem str_ne {x y : ByteArray} (h : y ≠ x) : (y.toList == x.toList) = false := beq_eq_false_iff_ne.2 fun e => h (by
  rw [ByteArray.toList_eq, ByteArray.toList_eq] at e
  exact bs_inj e)
set_option maxHeartbeats 4000000 in
theorem risesI (a1 : Option Addr) (n1 c1 : Nat) (A : List PM) (a2 : Option Addr) (n2 c2 : Nat) (B : List PM) (w : World) (hA : A.length = n1) (hB : B.length = n2) (hsA : storeB A = true) (hsB : storeB B = true) (h1 : Src w a1 (cellsP A)) (h2 : Src w a2 (cellsP B)) (hG : Gl w) (h8 : 8 ≤ w.heap.size) (T : Bool) (HT : Hid (risesB A B = T)) :
    Calls Tryz.prog 72 #[.slice a1 n1 c1, .slice a2 n2 c2] w fun e w' => e = .returned (.bool T) ∧ Below w.heap.size w w' := by
  obtain ⟨hgA, xa0, hxa0, _, _, hinA, _, _⟩ := store_facts hsA
  obtain ⟨hgB, xb0, hxb0, _, _, hinB, _, _⟩ := store_facts hsB
  subst hxa0 hxb0
  have CDA := fun (W : World) (k1 : Src W a1 (cellsP A)) (k2 : Gl W) (k3 : 8 ≤ W.heap.size) => deskI a1 n1 c1 A W hA hgA k1 k2 k3 true hinA
  have CDB := fun (W : World) (k1 : Src W a2 (cellsP B)) (k2 : Gl W) (k3 : 8 ≤ W.heap.size) => deskI a2 n2 c2 B W hB hgB k1 k2 k3 true hinB
  have CMA := fun (W : World) (k1 : Src W a1 (cellsP A)) (k2 : Gl W) (k3 : 8 ≤ W.heap.size) => marksOfI a1 n1 c1 A W hA hsA k1 k2 k3
  have CMB := fun (W : World) (k1 : Src W a2 (cellsP B)) (k2 : Gl W) (k3 : 8 ≤ W.heap.size) => marksOfI a2 n2 c2 B W hB hsB k1 k2 k3
  have hka60 : (marksM A).length ≤ 60 := by have := marks_len A; have := hgA.1; omega
  have hkb60 : (marksM B).length ≤ 60 := by have := marks_len B; have := hgB.1; omega
  have HTL : Hid (risesB A B = (!decide (nextM B < nextM A) && (marksM B).all (okP (nextM A) (marksM A)))) := rfl
  have HNX : Hid ((∀ nx, NumPost (numB ((getM A vK).getD e0).data.toList) nx → nx = nextM A) ∧ ∀ nx, NumPost (numB ((getM B vK).getD e0).data.toList) nx → nx = nextM B) := ⟨fun nx h => (in_next hinA h).1, fun nx h => (in_next hinB h).1⟩
  obtain ⟨RA, hRA⟩ : ∃ R, numB ((getM A vK).getD e0).data.toList = R := ⟨_, rfl⟩
  obtain ⟨RB, hRB⟩ : ∃ R, numB ((getM B vK).getD e0).data.toList = R := ⟨_, rfl⟩
  rw [hRA, hRB] at HNX
  simp only [hRA] at CDA
  simp only [hRB] at CDB
  obtain ⟨xa, hxa⟩ : ∃ x, nextM A = x := ⟨_, rfl⟩
  obtain ⟨xb, hxb⟩ : ∃ x, nextM B = x := ⟨_, rfl⟩
  obtain ⟨KA, hKA⟩ : ∃ K, marksM A = K := ⟨_, rfl⟩
  obtain ⟨KB, hKB⟩ : ∃ K, marksM B = K := ⟨_, rfl⟩
  rw [hxa, hxb] at HTL HNX
  rw [hKA, hKB] at HTL
  rw [hKA] at hka60
  rw [hKB] at hkb60
  simp only [hKA] at CMA
  simp only [hKB] at CMB
  have HT2 : Hid ((!decide (xb < xa) && KB.all (okP xa KA)) = T) := by show _ = _; rw [← HT.out, HTL.out]
  have HS : Hid (Src w a1 (cellsP A) ∧ Src w a2 (cellsP B)) := ⟨h1, h2⟩
  have HG : Hid (Gl w) := hG
  obtain ⟨ma, hma⟩ : ∃ m, KA.length = m := ⟨_, rfl⟩
  obtain ⟨mb, hmb⟩ : ∃ m, KB.length = m := ⟨_, rfl⟩
  have HLA : Hid (KA.length = ma) := hma
  have HLB : Hid (KB.length = mb) := hmb
  rw [hma] at hka60
  rw [hmb] at hkb60
  clear hgA hgB hinA hinB hsA hsB hA hB h1 h2 hG HT HTL hRA hRB hxa hxb hKA hKB hma hmb
  go_enter Tryz.func72, Tryz.ntmps72
  go_wp2_with fail
  go_step3
  go_wp2_with fail
  refine (CDA w HS.out.1 HG.out h8).mono ?_
  rintro e w1 ⟨nxa, Ma, rfl, hnpa, hMa, hda, hb1⟩
  obtain rfl : nxa = xa := HNX.out.1 _ hnpa
  have B1 : Hid (Below w.heap.size w w1) := hb1
  have DA1 : Hid (Box w1 (Ma + 1) (cellsD Ma ⟨a1, n1, c1, .slice none 0 0, [], nxa, ⟨#[]⟩, ⟨#[]⟩, []⟩)) := hda.1
  have CDB1 := CDB w1 (HS.out.2.below hb1) (HG.out.below h8 hb1) (by have := hb1.size; omega)
  clear hnpa hda hb1 CDA CDB hMa
  go_wp2_with fail
  refine CDB1.mono ?_
  rintro e w2 ⟨nxb, Mb, rfl, hnpb, hMb, hdb, hb2⟩
  obtain rfl : nxb = xb := HNX.out.2 _ hnpb
  have B2 : Hid (Below w.heap.size w w2) := B1.out.trans (hb2.mono B1.out.size)
  have DA2 : Hid (Box w2 (Ma + 1) (cellsD Ma ⟨a1, n1, c1, .slice none 0 0, [], nxa, ⟨#[]⟩, ⟨#[]⟩, []⟩)) := Box.below DA1.out hb2
  obtain ⟨pa, _⟩ := DA2.out 2 _ rfl
  obtain ⟨pb, _⟩ := hdb.1 2 _ rfl
  clear hnpb hdb hb2 CDB1 hMb DA1 HNX
  go_wp2_with fail
  by_cases hnb : nxb < nxa
  · obtain rfl : false = T := by
      rw [← HT2.out, decide_eq_true hnb]
      rfl
    go_quiet (fail)
    have B3 : Hid (Below w.heap.size w (w2.drewN nq)) := Below.drewN' B2.out _
    go_wp2_with fail
    first | rw [Exit.noGoto_ret] | skip
    go_ret
    exact ⟨rfl, B3.out⟩
  have HAL : Hid ((KB.drop 0).all (okP nxa KA) = T) := by
    show _ = _
    rw [← HT2.out, decide_eq_false hnb]
    rfl
  clear HT2
  go_quiet (fail)
  obtain ⟨w3, hw3⟩ : ∃ W, w2.drewN nq = W := ⟨_, rfl⟩
  have L3 : Below w2.heap.size w2 w3 := by rw [← hw3]; exact Below.drewN' (Below.refl _ _) _
  have B3 : Hid (Below w.heap.size w w3) := B2.out.trans (L3.mono B2.out.size)
  have DA3 : Hid (Box w3 (Ma + 1) (cellsD Ma ⟨a1, n1, c1, .slice none 0 0, [], nxa, ⟨#[]⟩, ⟨#[]⟩, []⟩)) := Box.below DA2.out L3
  rw [hw3]
  clear hw3 L3 DA2 pa pb B2
  have CA3 := CMA w3 (HS.out.1.below B3.out) (HG.out.below h8 B3.out) (by have := B3.out.size; omega)
  clear CMA
  go_wp2_with fail
  refine CA3.mono ?_
  rintro e w4 ⟨v4, rfl, own4, hb4⟩
  rw [HLA.out] at own4
  obtain ⟨ea, fa, rfl, sa4, _⟩ := own_src own4
  have B4 : Hid (Below w.heap.size w w4) := B3.out.trans (hb4.mono B3.out.size)
  have DA4 : Hid (Box w4 (Ma + 1) (cellsD Ma ⟨a1, n1, c1, .slice none 0 0, [], nxa, ⟨#[]⟩, ⟨#[]⟩, []⟩)) := Box.below DA3.out hb4
  have SA4 : Hid (Src w4 ea (cellsMk KA)) := sa4
  have CB4 := CMB w4 (HS.out.2.below B4.out) (HG.out.below h8 B4.out) (by have := B4.out.size; omega)
  clear own4 sa4 hb4 CA3 CMB DA3 B3
  go_wp2_with fail
  go_step3
  go_wp2_with fail
  refine CB4.mono ?_
  rintro e w5 ⟨v5, rfl, own5, hb5⟩
  rw [HLB.out] at own5
  obtain ⟨eb, fb, rfl, sb5, _⟩ := own_src own5
  have B5 : Hid (Below w.heap.size w w5) := B4.out.trans (hb5.mono B4.out.size)
  have DA5 : Hid (Box w5 (Ma + 1) (cellsD Ma ⟨a1, n1, c1, .slice none 0 0, [], nxa, ⟨#[]⟩, ⟨#[]⟩, []⟩)) := Box.below DA4.out hb5
  have S5 : Hid (Src w5 ea (cellsMk KA) ∧ Src w5 eb (cellsMk KB)) := ⟨SA4.out.below hb5, sb5⟩
  clear own5 sb5 hb5 CB4 DA4 B4 SA4
  go_wp2_with fail
  go_loopg [38] mb (fun g iv wr => ∃ j : Nat, j + g = mb ∧ iv = .int .i64 (j : Int) ∧ Hid ((KB.drop j).all (okP nxa KA) = T) ∧ Hid (Below w5.heap.size w5 wr))
  case atStart => exact ⟨0, by omega, rfl, HAL.out, Below.refl _ _⟩
  case round =>
    obtain ⟨j, hjg, rfl, hal, hbr⟩ := hrel
    have B6 : Hid (Below w.heap.size w wr) := B5.out.trans (hbr.out.mono B5.out.size)
    clear HAL
    cases gk with
    | zero =>
      have hlti : ¬ (j : Int) < (mb : Int) := by omega
      obtain rfl : true = T := by rw [← hal.out, all_de _ _ _ (by rw [HLB.out]; omega)]
      clear hal
      go_wp2_with fail
      first | rw [Exit.noGoto_ret] | skip
      go_ret
      exact ⟨rfl, B6.out⟩
    | succ g =>
      have hltn : j < mb := by omega
      have hlti : (j : Int) < (mb : Int) := by omega
      have hj0 : (0 : Int) ≤ (j : Int) := by omega
      obtain ⟨b, o, x0, x1, x2, rfl, e0, e1, e2, hx⟩ := srcMk (S5.out.2.below hbr.out) (i := j) (by rw [HLB.out]; exact hltn)
      obtain ⟨sf, hsf⟩ : ∃ sf, KA.any (sameK (x0, x1, x2)) = sf := ⟨_, rfl⟩
      have HAJ : Hid (((decide (nxa ≤ x1) || sf) && (KB.drop (j + 1)).all (okP nxa KA)) = T) := by
        show _ = _
        rw [← hal.out, all_dx mk0 _ KB j (by rw [HLB.out]; exact hltn), hx.out, ok_any, hsf]
      have HSF : Hid ((KA.drop 0).any (sameK (x0, x1, x2)) = sf) := hsf
      obtain ⟨w6, hw6⟩ : ∃ W, wr.alloc (.cells #[.string x0, .int .i64 x1, .int .i64 x2] 144) = W := ⟨_, rfl⟩
      obtain ⟨BX, hBX⟩ : ∃ z, wr.heap.size = z := ⟨_, rfl⟩
      have L6 : Hid (Below w5.heap.size w5 w6) := by show Below _ _ _; rw [← hw6]; exact hbr.out.alloc hbr.out.size _
      have X6 : Hid (Box w6 BX [.string x0, .int .i64 x1, .int .i64 x2]) := by show Box _ _ _; rw [← hw6]; exact Box.new hBX.symm
      obtain ⟨q1, _⟩ := X6.out 1 _ rfl
      obtain ⟨pa, _⟩ := (Box.below DA5.out L6.out) 2 _ rfl
      clear hal hsf hx
      go_wp2_with fail
      clear hw6 e0 e1 e2 hBX
      by_cases hxx : nxa ≤ x1
      · have HJ2 : Hid ((KB.drop (j + 1)).all (okP nxa KA) = T) := by
          show _ = _
          rw [← HAJ.out, decide_eq_true hxx, Bool.true_or, Bool.true_and]
        go_quiet (fail)
        have L7 : Hid (Below w5.heap.size w5 (w6.drewN nq)) := Below.drewN' L6.out _
        go_wp2_with fail
        go_roundg g
        case measure => omega
        case rel => exact ⟨j + 1, by omega, by go_num, HJ2.out, L7.out⟩
      · have HA2 : Hid ((sf && (KB.drop (j + 1)).all (okP nxa KA)) = T) := by
          show _ = _
          rw [← HAJ.out, decide_eq_false hxx, Bool.false_or]
        clear HAJ
        go_quiet (fail)
        obtain ⟨w7, hw7⟩ : ∃ W, w6.drewN nq = W := ⟨_, rfl⟩
        have L7 : Hid (Below w5.heap.size w5 w7) := by show Below _ _ _; rw [← hw7]; exact Below.drewN' L6.out _
        have X7 : Hid (Box w7 BX [.string x0, .int .i64 x1, .int .i64 x2]) := Box.below X6.out (by rw [← hw7]; exact Below.drewN' (Below.refl _ _) _)
        have hwr : BX + 1 ≤ w7.heap.size := World.block_lt_of_cell? _ _ (X7.out 0 _ rfl).1
        rw [hw7]
        clear hw7 X6 L6 q1 pa
        go_wp2_with fail
        go_loopg [51] ma (fun g2 iv wy => ∃ i : Nat, i + g2 = ma ∧ iv = .int .i64 (i : Int) ∧ Hid ((KA.drop i).any (sameK (x0, x1, x2)) = sf) ∧ Hid (Below w7.heap.size w7 wy))
        case atStart => exact ⟨0, by omega, rfl, HSF.out, Below.refl _ _⟩
        case round =>
          obtain ⟨i, hig, rfl, han, hby⟩ := hrel
          have L8 : Hid (Below w5.heap.size w5 wr) := L7.out.trans (hby.out.mono L7.out.size)
          cases gk with
          | zero =>
            have hltj : ¬ (i : Int) < (ma : Int) := by omega
            obtain rfl : false = sf := by rw [← han.out, any_de _ _ _ (by rw [HLA.out]; omega)]
            obtain rfl : false = T := by rw [← HA2.out, Bool.false_and]
            have B8 : Hid (Below w.heap.size w wr) := B5.out.trans (L8.out.mono B5.out.size)
            clear han
            go_wp2_with fail
            first | rw [Exit.noGoto_ret] | skip
            go_ret
            exact ⟨rfl, B8.out⟩
          | succ g2 =>
            have hlti2 : i < ma := by omega
            have hltj : (i : Int) < (ma : Int) := by omega
            have hi0 : (0 : Int) ≤ (i : Int) := by omega
            obtain ⟨b', o', y0, y1, y2, rfl, e0, e1, e2, hy⟩ := srcMk (S5.out.1.below L8.out) (i := i) (by rw [HLA.out]; exact hlti2)
            have all_an : (KA.drop i).any (sameK (x0, x1, x2)) = (sameK (x0, x1, x2) (y0, y1, y2) || (KA.drop (i + 1)).any (sameK (x0, x1, x2))) := by
              rw [any_dx mk0 _ KA i (by rw [HLA.out]; exact hlti2), hy.out]
            have HAN : Hid ((sameK (x0, x1, x2) (y0, y1, y2) || (KA.drop (i + 1)).any (sameK (x0, x1, x2))) = sf) := by show _ = _; rw [← all_an]; exact han.out
            obtain ⟨w8, hw8⟩ : ∃ W, wr.alloc (.cells #[.string y0, .int .i64 y1, .int .i64 y2] 144) = W := ⟨_, rfl⟩
            have L9 : Hid (Below w7.heap.size w7 w8) := by show Below _ _ _; rw [← hw8]; exact hby.out.alloc hby.out.size _
            have L10 : Hid (Below w5.heap.size w5 w8) := L7.out.trans (L9.out.mono L7.out.size)
            have Y8 : Hid (Box w8 wr.heap.size [.string y0, .int .i64 y1, .int .i64 y2]) := by show Box _ _ _; rw [← hw8]; exact Box.new rfl
            have X8 : Hid (Box w8 BX [.string x0, .int .i64 x1, .int .i64 x2]) := Box.below X7.out L9.out
            obtain ⟨p0, _⟩ := Y8.out 0 _ rfl
            obtain ⟨p1, _⟩ := Y8.out 1 _ rfl
            obtain ⟨p2, _⟩ := Y8.out 2 _ rfl
            obtain ⟨q0, _⟩ := X8.out 0 _ rfl
            obtain ⟨q1, _⟩ := X8.out 1 _ rfl
            obtain ⟨q2, _⟩ := X8.out 2 _ rfl
            clear all_an hy han
            by_cases hk0 : y0 = x0
            · subst hk0
              have hkb : (y0.toList == y0.toList) = true := by simp
              by_cases hk1 : y1 = x1
              · subst hk1
                have hk1b : (y1 == y1) = true := by simp
                by_cases hk2 : y2 ≤ x2
                · obtain rfl : true = sf := by rw [← HAN.out, same_yes hk2, Bool.true_or]
                  have HJ2 : Hid ((KB.drop (j + 1)).all (okP nxa KA) = T) := by
                    show _ = _
                    rw [← HA2.out, Bool.true_and]
                  go_wp2_with fail
                  go_roundg g
                  case measure => omega
                  case rel => exact ⟨j + 1, by omega, by go_num, HJ2.out, L10.out⟩
                · have HN : Hid ((KA.drop (i + 1)).any (sameK (y0, y1, x2)) = sf) := by
                    show _ = _
                    rw [← HAN.out, same_no3 hk2, Bool.false_or]
                  go_wp2_with fail
                  go_roundg g2
                  case measure => omega
                  case rel => exact ⟨i + 1, by omega, by go_num, HN.out, L9.out⟩
              · have hk1b : (y1 == x1) = false := by simpa using hk1
                have HN : Hid ((KA.drop (i + 1)).any (sameK (y0, x1, x2)) = sf) := by
                  show _ = _
                  rw [← HAN.out, same_no2 hk1, Bool.false_or]
                go_wp2_with fail
                go_roundg g2
                case measure => omega
                case rel => exact ⟨i + 1, by omega, by go_num, HN.out, L9.out⟩
            · have hkb := str_ne hk0
              have HN : Hid ((KA.drop (i + 1)).any (sameK (x0, x1, x2)) = sf) := by
                show _ = _
                rw [← HAN.out, same_no1 hk0, Bool.false_or]
              go_wp2_with fail
              go_roundg g2
              case measure => omega
              case rel => exact ⟨i + 1, by omega, by go_num, HN.out, L9.out⟩
set_option maxHeartbeats 2000000 in
theorem implRisesX (a1 : Option Addr) (n1 c1 : Nat) (A : List PM) (a2 : Option Addr) (n2 c2 : Nat) (B : List PM) (w : World) (hA : A.length = n1) (hB : B.length = n2) (hn1 : n1 ≤ 1048576) (hn2 : n2 ≤ 1048576) (hs1 : ∀ x ∈ A, x.1.size ≤ 1048576 ∧ x.2.size ≤ 1048576) (hs2 : ∀ x ∈ B, x.1.size ≤ 1048576 ∧ x.2.size ≤ 1048576) (h1 : Src w a1 (cellsP A)) (h2 : Src w a2 (cellsP B)) (hG : Gl w) (h8 : 8 ≤ w.heap.size) (T : Bool) (Q : Int) (HQ : Hid (vrM A B = (T, Q))) :
    Calls Tryz.prog 30 #[.slice a1 n1 c1, .slice a2 n2 c2] w fun e w' => e = .returned (.tuple #[.bool T, .int .i64 Q]) ∧ Below w.heap.size w w' := by
  by_cases hlong : 4096 < A.length ∨ 4096 < B.length
  · obtain ⟨rfl, rfl⟩ : false = T ∧ 2 = Q := by
      have h9 := HQ.out
      rw [vr_long hlong] at h9
      cases h9
      exact ⟨rfl, rfl⟩
    rw [hA, hB] at hlong
    clear HQ hs1 hs2 h1 h2 hG
    by_cases hl1 : 4096 < n1
    · have hl1i : (4096 : Int) < (n1 : Int) := by omega
      go_enter Tryz.func30, Tryz.ntmps30
      go_wp2_with fail
      exact bodyPost_ret (v := .tuple #[.bool false, .int .i64 2]) (by simp [results, Tryz.results30, go_sem]) rfl ⟨rfl, Below.refl _ _⟩
    · have hl1i : ¬ (4096 : Int) < (n1 : Int) := by omega
      have hl2i : (4096 : Int) < (n2 : Int) := by omega
      go_enter Tryz.func30, Tryz.ntmps30
      go_wp2_with fail
      exact bodyPost_ret (v := .tuple #[.bool false, .int .i64 2]) (by simp [results, Tryz.results30, go_sem]) rfl ⟨rfl, Below.refl _ _⟩
  have hl1 : ¬ (4096 : Int) < (n1 : Int) := by omega
  have hl2 : ¬ (4096 : Int) < (n2 : Int) := by omega
  obtain ⟨sA, hsA⟩ : ∃ x, storeB A = x := ⟨_, rfl⟩
  obtain ⟨sB, hsB⟩ : ∃ x, storeB B = x := ⟨_, rfl⟩
  have COA := fun (W : World) (k1 : Src W a1 (cellsP A)) (k2 : Gl W) (k3 : 8 ≤ W.heap.size) => implMailStoreOK a1 n1 c1 A W hA hn1 hs1 k1 k2 k3 sA ((impl_store A).trans hsA)
  have COB := fun (W : World) (k1 : Src W a2 (cellsP B)) (k2 : Gl W) (k3 : 8 ≤ W.heap.size) => implMailStoreOK a2 n2 c2 B W hB hn2 hs2 k1 k2 k3 sB ((impl_store B).trans hsB)
  have HS : Hid (Src w a1 (cellsP A) ∧ Src w a2 (cellsP B)) := ⟨h1, h2⟩
  have HG : Hid (Gl w) := hG
  cases sA with
  | false =>
    obtain ⟨rfl, rfl⟩ : false = T ∧ 1 = Q := by
      have h9 := HQ.out
      rw [vr_bad hlong (.inl hsA)] at h9
      cases h9
      exact ⟨rfl, rfl⟩
    have C1 := COA w h1 hG h8
    clear HQ hs1 hs2 h1 h2 hsA hsB COA COB hlong hA hB hG
    go_enter Tryz.func30, Tryz.ntmps30
    go_wp2_with fail
    refine C1.mono ?_
    rintro e w1 ⟨rfl, hb1⟩
    have B1 : Hid (Below w.heap.size w w1) := hb1
    clear hb1 C1
    go_wp2_with fail
    exact bodyPost_ret (v := .tuple #[.bool false, .int .i64 1]) (by simp [results, Tryz.results30, go_sem]) rfl ⟨rfl, B1.out⟩
  | true =>
  have C1 := COA w h1 hG h8
  clear COA
  cases sB with
  | false =>
    obtain ⟨rfl, rfl⟩ : false = T ∧ 1 = Q := by
      have h9 := HQ.out
      rw [vr_bad hlong (.inr hsB)] at h9
      cases h9
      exact ⟨rfl, rfl⟩
    clear HQ hs1 hs2 h1 h2 hsA hsB hlong hA hB hG
    go_enter Tryz.func30, Tryz.ntmps30
    go_wp2_with fail
    refine C1.mono ?_
    rintro e w1 ⟨rfl, hb1⟩
    have B1 : Hid (Below w.heap.size w w1) := hb1
    have C2 := COB w1 (HS.out.2.below hb1) (HG.out.below h8 hb1) (by have := hb1.size; omega)
    clear hb1 C1 COB
    go_wp2_with fail
    refine C2.mono ?_
    rintro e w2 ⟨rfl, hb2⟩
    have B2 : Hid (Below w.heap.size w w2) := B1.out.trans (hb2.mono B1.out.size)
    clear hb2 C2
    go_wp2_with fail
    exact bodyPost_ret (v := .tuple #[.bool false, .int .i64 1]) (by simp [results, Tryz.results30, go_sem]) rfl ⟨rfl, B2.out⟩
  | true =>
  obtain ⟨rfl, HT⟩ : 0 = Q ∧ Hid (risesB A B = T) := by
    have h9 := HQ.out
    rw [vr_ok hlong hsA hsB] at h9
    cases h9
    exact ⟨rfl, rfl⟩
  have CR := fun (W : World) (k1 : Src W a1 (cellsP A)) (k2 : Src W a2 (cellsP B)) (k3 : Gl W) (k4 : 8 ≤ W.heap.size) => risesI a1 n1 c1 A a2 n2 c2 B W hA hB hsA hsB k1 k2 k3 k4 T HT
  clear HQ HT hs1 hs2 h1 h2 hsA hsB hlong hA hB hG
  go_enter Tryz.func30, Tryz.ntmps30
  go_wp2_with fail
  refine C1.mono ?_
  rintro e w1 ⟨rfl, hb1⟩
  have B1 : Hid (Below w.heap.size w w1) := hb1
  have C2 := COB w1 (HS.out.2.below hb1) (HG.out.below h8 hb1) (by have := hb1.size; omega)
  clear hb1 C1 COB
  go_wp2_with fail
  refine C2.mono ?_
  rintro e w2 ⟨rfl, hb2⟩
  have B2 : Hid (Below w.heap.size w w2) := B1.out.trans (hb2.mono B1.out.size)
  have C3 := CR w2 (HS.out.1.below B2.out) (HS.out.2.below B2.out) (HG.out.below h8 B2.out) (by have := B2.out.size; omega)
  clear hb2 C2 CR
  go_wp2_with fail
  refine C3.mono ?_
  rintro e w3 ⟨rfl, hb3⟩
  have B3 : Hid (Below w.heap.size w w3) := B2.out.trans (hb3.mono B2.out.size)
  clear hb3 C3
  go_wp2_with fail
  exact bodyPost_ret (v := .tuple #[.bool T, .int .i64 0]) (by simp [results, Tryz.results30, go_sem]) rfl ⟨rfl, B3.out⟩
end Go.Proofs.YthgbclipknfmjaaGreatDoor
