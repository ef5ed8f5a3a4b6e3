/-
  Dml Drn Mwk Smp Sfo Fot Ltr in one. By an AI agent.
-/
import Derived.Test.YthgbclipknfmjaaGreatDoorFr33
import Derived.Test.YthgbclipknfmjaaGreatDoorFr18
import Derived.Test.YthgbclipknfmjaaGreatDoorFr05
import Derived.Test.YthgbclipknfmjaaGreatDoorFr25
import Derived.Test.YthgbclipknfmjaaGreatDoorFr27
import Derived.Test.YthgbclipknfmjaaGreatDoorFr30
import Derived.Test.YthgbclipknfmjaaGreatDoorFr21
import Derived.BigQuiet
import Derived.Deep.QuietTactic
namespace Go.Proofs.YthgbclipknfmjaaGreatDoor
open Go.ChangeShapes Go.WideShapes Go.ChangeAt Go.RowKit Go.Deep Go.Lib
set_option linter.unusedVariables false
set_option linter.unusedSimpArgs false
set_option maxRecDepth 100000

def oneT : ByteArray := ⟨#[49]⟩
def appleT : ByteArray := ⟨#[97, 112, 112, 108, 101]⟩
def berryT : ByteArray := ⟨#[98, 101, 114, 114, 121]⟩
def new0 : List PM := [(vK, oneT)]
def new1 : List PM := [(folderK annT inboxT, metaT 1 1), (userK annT, appleT), (vK, bs (itoa 2))]
def new2 : List PM := [(folderK annT inboxT, metaT 1 1), (folderK bobT inboxT, metaT 2 1), (userK annT, appleT), (userK bobT, berryT), (vK, bs (itoa 3))]
theorem new1_is : addR new0 annT appleT = (new1, 0) := by kernel_rfl
theorem new2_is : addR new1 bobT berryT = (new2, 0) := by kernel_rfl
theorem new0_good : GoodL new0 := ⟨by decide, fun p hp => by simp [new0] at hp; subst hp; decide, List.pairwise_singleton _ _⟩
theorem new2_store : storeB new2 = true := by kernel_rfl
theorem new1_store : storeB new1 = true := by kernel_rfl
theorem new2_drawn : Drawn 0 new2 := by
  have hg := (store_facts new2_store).1
  refine ⟨new2_store, by show nextM new2 ≤ 3 + ((0 : Nat) : Int); rw [show nextM new2 = 3 from by kernel_rfl]; omega, fun v hv => ?_, fun p hp v f e y hy => ?_, fun p hp v f hv hf e => ?_⟩
  · constructor
    · intro h
      obtain ⟨x, hx⟩ := Option.isSome_iff_exists.1 h
      have hm := (getM_mem hg.2.2).1 hx
      simp only [new2, List.mem_cons, List.not_mem_nil, or_false] at hm
      have hk : ∀ {z : ByteArray}, userK v = z → v.data.toList = z.data.toList.drop 2 := fun {z} e9 => by rw [← e9, userK_data]; rfl
      rcases hm with h9 | h9 | h9 | h9 | h9
      · have h8 := congrArg (fun x : PM => x.1.data.toList) h9
        simp only [userK_data, folderK_data] at h8
        cases h8
      · have h8 := congrArg (fun x : PM => x.1.data.toList) h9
        simp only [userK_data, folderK_data] at h8
        cases h8
      · exact .inl (userK_inj (congrArg Prod.fst h9))
      · exact .inr (userK_inj (congrArg Prod.fst h9))
      · exact absurd (congrArg Prod.fst h9) (user_nv v)
    · rintro (rfl | rfl) <;> kernel_rfl
  · simp only [new2, List.mem_cons, List.not_mem_nil, or_false] at hp
    have h9 : metaV p.2 = some (1, 1) ∨ metaV p.2 = some (2, 1) ∨ p.1 ≠ folderK v f := by
      rcases hp with rfl | rfl | rfl | rfl | rfl
      · exact .inl (by kernel_rfl)
      · exact .inr (.inl (by kernel_rfl))
      · exact .inr (.inr fun e9 => by
          have h8 := congrArg (fun x : ByteArray => x.data.toList) e9
          simp only [userK_data, folderK_data] at h8
          cases h8)
      · exact .inr (.inr fun e9 => by
          have h8 := congrArg (fun x : ByteArray => x.data.toList) e9
          simp only [userK_data, folderK_data] at h8
          cases h8)
      · exact .inr (.inr fun e9 => folder_nv v f e9.symm)
    rcases h9 with h9 | h9 | h9
    · rw [hy] at h9
      cases h9
      show (1 : Int) ≤ 1 + ((0 : Nat) : Int)
      omega
    · rw [hy] at h9
      cases h9
      show (1 : Int) ≤ 1 + ((0 : Nat) : Int)
      omega
    · exact absurd e h9
  · have hus : ∀ z : ByteArray, (47 : UInt8) ∉ z.data.toList → folderK z inboxT = folderK v f → FoldN f := fun z hz e9 => by
      have h6 := congrArg (fun x : ByteArray => x.data.toList) e9
      simp only [folderK_data] at h6
      have hn := seg_inj hz hv (List.cons.inj (List.cons.inj h6).2).2
      exact .inl (bs_inj hn.2).symm
    simp only [new2, List.mem_cons, List.not_mem_nil, or_false] at hp
    rcases hp with rfl | rfl | rfl | rfl | rfl
    · exact hus annT (by decide) e
    · exact hus bobT (by decide) e
    · have h8 := congrArg (fun x : ByteArray => x.data.toList) e
      simp only [userK_data, folderK_data] at h8
      cases h8
    · have h8 := congrArg (fun x : ByteArray => x.data.toList) e
      simp only [userK_data, folderK_data] at h8
      cases h8
    · exact absurd e.symm (folder_nv v f)
theorem src_some {w : World} {a : Option Addr} {L : List PM} (h : Src w a (cellsP L)) (hne : L ≠ []) : ∃ b o, a = some ⟨b, o, none⟩ := by
  rcases h with h | ⟨b, o, e, _⟩
  · have h1 := cellsP_length L
    rw [h] at h1
    have h2 := List.length_pos_iff.2 hne
    simp at h1
    omega
  · exact ⟨b, o, e⟩
set_option maxHeartbeats 2000000 in
theorem newDr (w : World) :
    Calls Tryz.prog 74 #[] w fun e w' => ∃ b o n c, e = .returned (.slice (some ⟨b, o, none⟩) n c) ∧ LenC new2 n c ∧ Src w' (some ⟨b, o, none⟩) (cellsP new2) ∧ Below w.heap.size w w' := by
  go_enter Tryz.func74, Tryz.ntmps74
  go_wp2_with fail
  obtain ⟨w1, hw1⟩ : ∃ W, w.alloc (.cells #[.string ⟨#[118]⟩, .string ⟨#[49]⟩] 68) = W := ⟨_, rfl⟩
  have B1 : Hid (Below w.heap.size w w1) := by show Below _ _ _; rw [← hw1]; exact (Below.refl _ _).alloc (Nat.le_refl _) _
  have S1 : Hid (Src w1 (some ⟨w.heap.size, 0, none⟩) (cellsP new0)) := by
    show Src _ _ _
    rw [← hw1]
    have hb : Box (w.alloc (.cells #[.string ⟨#[118]⟩, .string ⟨#[49]⟩] 68)) w.heap.size [.string ⟨#[118]⟩, .string ⟨#[49]⟩] := Box.new rfl
    refine .inr ⟨w.heap.size, 0, rfl, fun j hj => ?_⟩
    have hj2 : j < 2 := hj
    rw [Nat.zero_add]
    match j, hj2 with
    | 0, _ => exact (hb 0 _ rfl).1
    | 1, _ => exact (hb 1 _ rfl).1
  refine (l07AddUserC w.heap.size 0 1 1 new0 rfl (by omega) (by unfold maxLen; omega) new0_good annT appleT (by decide) (by decide) (by decide) _ (by rw [hw1]; exact S1.out) new1 0 new1_is).mono ?_
  rintro e w2 ⟨a2, n2, c2, rfl, hl2, hs2, hb2⟩
  rw [hw1] at hb2
  obtain ⟨b2, o2, rfl⟩ := src_some hs2 (by decide)
  have B2 : Hid (Below w.heap.size w w2 ∧ LenC new1 n2 c2 ∧ Src w2 (some ⟨b2, o2, none⟩) (cellsP new1)) := ⟨B1.out.trans (hb2.mono B1.out.size), hl2, hs2⟩
  clear hb2 hl2 hs2 hw1 S1 B1
  go_wp2_with fail
  refine (l07AddUserC b2 o2 n2 c2 new1 B2.out.2.1.1 B2.out.2.1.2.1 B2.out.2.1.2.2 (store_facts new1_store).1 bobT berryT (by decide) (by decide) (by rw [show nextM new1 = 2 from by kernel_rfl]; decide) w2 B2.out.2.2 new2 0 new2_is).mono ?_
  rintro e w3 ⟨a3, n3, c3, rfl, hl3, hs3, hb3⟩
  obtain ⟨b3, o3, rfl⟩ := src_some hs3 (by decide)
  have B3 : Hid (LenC new2 n3 c3 ∧ Src w3 (some ⟨b3, o3, none⟩) (cellsP new2) ∧ Below w.heap.size w w3) := ⟨hl3, hs3, B2.out.1.trans (hb3.mono B2.out.1.size)⟩
  clear hb3 hl3 hs3 B2
  go_wp2_with fail
  go_ret
  exact ⟨b3, o3, n3, c3, rfl, B3.out⟩
set_option maxHeartbeats 2000000 in
theorem sizeDr (P n cc K : Nat) (ca : Option Addr) (C : List Nat) (w : World) (h : DrawOK w P ca n cc K C) :
    Calls Tryz.prog 76 #[.pointer (some ⟨P, 0, none⟩), .int .i64 16] w fun e w' => ∃ x : Nat, e = .returned (.int .i64 (x : Int)) ∧ 1 ≤ x ∧ x ≤ 16 ∧ Below w.heap.size w w' := by
  obtain ⟨⟨a, s, hbox, _⟩, _, hn, _⟩ := h
  obtain ⟨c0, _⟩ := hbox 0 _ rfl
  clear hbox
  obtain ⟨y, hy⟩ : ∃ y : Nat, n / 12 = y := ⟨_, rfl⟩
  have T : Int.tdiv (n : Int) 12 = (y : Int) := by rw [← hy]; rfl
  have hy9 : y ≤ 1048576 := by omega
  clear hy
  by_cases h16 : 1 + y ≤ 16
  · have hm : min (1 + (y : Int)) 16 = 1 + (y : Int) := by omega
    go_enter Tryz.func76, Tryz.ntmps76
    go_wp2_with fail
    go_ret
    exact ⟨1 + y, by simp, by omega, h16, Below.refl _ _⟩
  · have hm : min (1 + (y : Int)) 16 = 16 := by omega
    go_enter Tryz.func76, Tryz.ntmps76
    go_wp2_with fail
    go_ret
    exact ⟨16, rfl, by omega, by omega, Below.refl _ _⟩
/-- A drawn store. -/
def DrawnM (L : List PM) : Prop := ∃ k, k ≤ 22 ∧ Drawn k L
set_option maxHeartbeats 4000000 in
theorem mailsDr (P n cc : Nat) (ca : Option Addr) (C : List Nat) (w : World) (h : DrawOK w P ca n cc 0 C) :
    Calls Tryz.prog 33 #[.pointer (some ⟨P, 0, none⟩)] w fun e w' => ∃ v L, e = .returned v ∧ DrawnM L ∧ w'.ownsRow w.heap.size 68 2 v L.length (cellsP L) ∧ Turned P (P + 1) w w' := by
  have H : Hid (DrawOK w P ca n cc 0 C) := h
  have PL : Hid (P < w.heap.size) := h.lt
  clear h
  go_enter Tryz.func33, Tryz.ntmps33
  go_wp2_with fail
  refine (newDr w).mono ?_
  rintro e w1 ⟨b, o, m, c, rfl, hl1, hs1, hb1⟩
  have S1 : Hid (Turned P (P + 1) w w1 ∧ DrawOK w1 P ca n cc 0 C ∧ Src w1 (some ⟨b, o, none⟩) (cellsP new2) ∧ LenC new2 m c) := ⟨Turned.of_below hb1, H.out.below hb1, hs1, hl1⟩
  clear hl1 hs1 hb1 H
  go_wp2_with fail
  refine (sizeDr P n cc 0 ca C w1 S1.out.2.1).mono ?_
  rintro e w2 ⟨x, rfl, hx1, hx2, hb2⟩
  have S2 : Hid (Turned P (P + 1) w w2 ∧ DrawOK w2 P ca n cc 0 C ∧ Src w2 (some ⟨b, o, none⟩) (cellsP new2) ∧ LenC new2 m c) := ⟨S1.out.1.trans (Turned.of_below hb2), S1.out.2.1.below hb2, S1.out.2.2.1.below hb2, S1.out.2.2.2⟩
  have hxi : (x : Int) + 6 = ((x + 6 : Nat) : Int) := by omega
  have CN := drawNext P n cc 0 (x + 6) ca C w2 (by omega) (by omega) (by omega) S2.out.2.1
  rw [← hxi] at CN
  clear hb2 S1 hxi
  go_wp2_with fail
  refine CN.mono ?_
  rintro e w3 ⟨y, rfl, hy, ht3, hd3⟩
  have S3 : Hid (DW P n cc 3 ca C b o new2 w w3) := DW.step (wi := w2) (K1 := 0) ⟨S2.out.1, S2.out.2.1, S2.out.2.2.1⟩ (by decide) ht3 hd3
  have HL : Hid (LenC new2 m c) := S2.out.2.2.2
  have hy22 : y ≤ 22 := by omega
  clear ht3 hd3 CN S2 hx1 hx2 hy
  go_wp2_with fail
  go_loopw [3, 4] (fun lv iv wr => ∃ (j k b' o' m' c' : Nat) (L : List PM), lv = .slice (some ⟨b', o', none⟩) m' c' ∧ iv = .int .i64 (j : Int) ∧ j + k ≤ 22 ∧ Hid (Drawn k L) ∧ Hid (LenC L m' c') ∧ Hid (DW P n cc (3 + 30 * k) ca C b' o' L w wr)) (fun _ i _ => (RowKit.intOf i).toNat)
  case atStart => exact ⟨y, 0, b, o, m, c, new2, rfl, rfl, by omega, new2_drawn, HL.out, S3.out⟩
  case round =>
    obtain ⟨j, k, b', o', m', c', L, rfl, rfl, hjk, hD, hLn, hW⟩ := hrel
    by_cases hj : 0 < j
    · have hj0 : (0 : Int) < (j : Int) := by omega
      go_wp2_with fail
      refine (workDr P n cc (3 + 30 * k) k ca C b' o' m' c' L wr (by omega) hW.out.2.1 hD.out hLn.out hW.out.2.2).mono ?_
      rintro e w4 ⟨v, rfl, ⟨a4, n4, c4, L4, rfl, hl4, hs4, ⟨hd4, _⟩, ht4⟩, ho4⟩
      obtain ⟨b4, o4, rfl⟩ := src_some hs4 hd4.ne
      have HF : Hid (Drawn (k + 1) L4 ∧ LenC L4 n4 c4 ∧ DW P n cc (3 + 30 * (k + 1)) ca C b4 o4 L4 w w4) := ⟨hd4, hl4, hW.out.1.trans ht4, ho4.more (by omega), hs4⟩
      clear hl4 hs4 hd4 ht4 ho4 hD hLn hW
      go_wp2_with fail
      exact ⟨⟨j - 1, k + 1, b4, o4, n4, c4, L4, rfl, by go_num, by omega, HF.out.1, HF.out.2.1, HF.out.2.2⟩, by simp [RowKit.intOf]; omega⟩
    · have hj0 : ¬ (0 : Int) < (j : Int) := by omega
      have hn60 := (store_facts hD.out.st).1.1
      have hlen := hLn.out.1
      have CO := l07OwnS (some ⟨b', o', none⟩) m' c' L wr hlen (by omega) hW.out.2.2
      have HM : Hid (L.length = m') := hlen
      have HK : Hid (DrawnM L) := ⟨k, by omega, hD.out⟩
      clear hn60 hlen hLn hD
      go_wp2_with fail
      refine CO.mono ?_
      rintro e w5 ⟨v, rfl, ho5, hb5⟩
      have HF : Hid (w5.ownsRow w.heap.size 68 2 v L.length (cellsP L) ∧ Turned P (P + 1) w w5) := ⟨by rw [HM.out]; exact own_mono ho5 hW.out.1.size, hW.out.1.trans (Turned.of_below hb5)⟩
      clear ho5 hb5 CO hW
      go_wp2_with fail
      go_ret
      exact ⟨v, L, rfl, HK.out, HF.out⟩
set_option maxHeartbeats 2000000 in
theorem specMailsOf (ca : Option Addr) (n cc : Nat) (C : List Nat) (w : World) (hC : C.length = n) (hn : n ≤ 1048576) (h8 : ∀ x ∈ C, x < 256) (hs : Src w ca (cellsB C)) :
    Calls Tryz.prog 7 #[.slice ca n cc] w fun e w' => ∃ v L, e = .returned v ∧ DrawnM L ∧ w'.ownsRow w.heap.size 68 2 v L.length (cellsP L) ∧ Below w.heap.size w w' := by
  have CS := l00Source ca n cc C w hC (Nat.le_trans hn (by decide)) h8 hs
  clear hC hn h8 hs
  go_enter Tryz.func7, Tryz.ntmps7
  go_wp2_with fail
  refine CS.mono ?_
  rintro e w1 ⟨rfl, hz1, hb1, hd1⟩
  have B1 : Hid (Below w.heap.size w w1 ∧ w1.heap.size = w.heap.size + 1) := ⟨hb1, hz1⟩
  have CM := mailsDr w.heap.size n cc ca C w1 hd1
  clear hz1 hb1 hd1 CS
  go_wp2_with fail
  refine CM.mono ?_
  rintro e w2 ⟨v, L, rfl, hL, ho, ht⟩
  have HF : Hid (DrawnM L ∧ w2.ownsRow w.heap.size 68 2 v L.length (cellsP L) ∧ Below w.heap.size w w2) := ⟨hL, own_mono ho B1.out.1.size, Below.turned B1.out.1 ht (Nat.le_refl _) (Nat.le_refl _)⟩
  clear hL ho ht CM
  go_wp2_with fail
  go_ret
  exact ⟨v, L, rfl, HF.out⟩
set_option maxHeartbeats 2000000 in
theorem specUserOf (ca : Option Addr) (n cc : Nat) (C : List Nat) (w : World) (hC : C.length = n) (hn : n ≤ 1048576) (h8 : ∀ x ∈ C, x < 256) (hs : Src w ca (cellsB C)) :
    Calls Tryz.prog 8 #[.slice ca n cc] w fun e w' => ∃ s : ByteArray, e = .returned (.string s) ∧ (s = annT ∨ s = bobT) ∧ Below w.heap.size w w' := by
  have CS := l00Source ca n cc C w hC (Nat.le_trans hn (by decide)) h8 hs
  clear hC hn h8 hs
  go_enter Tryz.func8, Tryz.ntmps8
  go_wp2_with fail
  refine CS.mono ?_
  rintro e w1 ⟨rfl, hz1, hb1, hd1⟩
  have B1 : Hid (Below w.heap.size w w1) := hb1
  have CM := userDr w.heap.size n cc 0 ca C w1 (by omega) hd1
  clear hz1 hb1 hd1 CS
  go_wp2_with fail
  refine CM.mono ?_
  rintro e w2 ⟨s, rfl, hp, ht, _⟩
  have HF : Hid ((s = annT ∨ s = bobT) ∧ Below w.heap.size w w2) := ⟨hp, Below.turned B1.out ht (Nat.le_refl _) (Nat.le_refl _)⟩
  clear hp ht CM
  go_wp2_with fail
  go_ret
  exact ⟨s, rfl, HF.out⟩
set_option maxHeartbeats 2000000 in
theorem specFolderOf (ca : Option Addr) (n cc : Nat) (C : List Nat) (w : World) (hC : C.length = n) (hn : n ≤ 1048576) (h8 : ∀ x ∈ C, x < 256) (hs : Src w ca (cellsB C)) :
    Calls Tryz.prog 9 #[.slice ca n cc] w fun e w' => ∃ s : ByteArray, e = .returned (.string s) ∧ shortB s = true ∧ Below w.heap.size w w' := by
  have CS := l00Source ca n cc C w hC (Nat.le_trans hn (by decide)) h8 hs
  clear hC hn h8 hs
  go_enter Tryz.func9, Tryz.ntmps9
  go_wp2_with fail
  refine CS.mono ?_
  rintro e w1 ⟨rfl, hz1, hb1, hd1⟩
  have B1 : Hid (Below w.heap.size w w1) := hb1
  have CM := folderDr w.heap.size n cc 0 ca C w1 (by omega) hd1
  clear hz1 hb1 hd1 CS
  go_wp2_with fail
  refine CM.mono ?_
  rintro e w2 ⟨s, rfl, hp, ht, _⟩
  have HF : Hid (shortB s = true ∧ Below w.heap.size w w2) := ⟨fold_short hp, Below.turned B1.out ht (Nat.le_refl _) (Nat.le_refl _)⟩
  clear hp ht CM
  go_wp2_with fail
  go_ret
  exact ⟨s, rfl, HF.out⟩
set_option maxHeartbeats 2000000 in
theorem specMailWork (ca : Option Addr) (n cc : Nat) (C : List Nat) (k b o m c : Nat) (L : List PM) (w : World) (hC : C.length = n) (hn : n ≤ 1048577) (h8 : ∀ x ∈ C, x < 256) (hs : Src w ca (cellsB C)) (hD : Drawn k L) (hL : LenC L m c) (hl : Src w (some ⟨b, o, none⟩) (cellsP L)) :
    Calls Tryz.prog 18 #[.slice ca n cc, .slice (some ⟨b, o, none⟩) m c] w fun e w' => ∃ a2 n2 c2 L', e = .returned (.slice a2 n2 c2) ∧ LenC L' n2 c2 ∧ Src w' a2 (cellsP L') ∧ (Drawn (k + 1) L' ∧ nextM L ≤ nextM L') ∧ Below w.heap.size w w' := by
  have CS := l00Source ca n cc C w hC hn h8 hs
  have HD : Hid (Drawn k L ∧ LenC L m c ∧ Src w (some ⟨b, o, none⟩) (cellsP L)) := ⟨hD, hL, hl⟩
  clear hC hn h8 hs hD hL hl
  go_enter Tryz.func18, Tryz.ntmps18
  go_wp2_with fail
  refine CS.mono ?_
  rintro e w1 ⟨rfl, hz1, hb1, hd1⟩
  have B1 : Hid (Below w.heap.size w w1 ∧ w1.heap.size = w.heap.size + 1) := ⟨hb1, hz1⟩
  have CM := workDr w.heap.size n cc 0 k ca C b o m c L w1 (by omega) hd1 HD.out.1 HD.out.2.1 (HD.out.2.2.below hb1)
  clear hz1 hb1 hd1 CS
  go_wp2_with fail
  refine CM.mono ?_
  rintro e w2 ⟨v, rfl, ⟨a2, n2, c2, L2, rfl, h1, h2, h3, ht⟩, _⟩
  have HF : Hid (LenC L2 n2 c2 ∧ Src w2 a2 (cellsP L2) ∧ (Drawn (k + 1) L2 ∧ nextM L ≤ nextM L2) ∧ Below w.heap.size w w2) := ⟨h1, h2, h3, Below.turned B1.out.1 ht (Nat.le_refl _) (Nat.le_refl _)⟩
  clear h1 h2 h3 ht CM
  go_wp2_with fail
  go_ret
  exact ⟨a2, n2, c2, L2, rfl, HF.out⟩
end Go.Proofs.YthgbclipknfmjaaGreatDoor
namespace Go.Proofs.YthgbclipknfmjaaGreatDoor
open Go.ChangeShapes Go.WideShapes Go.ChangeAt Go.RowKit Go.Deep
set_option linter.unusedVariables false
set_option maxRecDepth 100000

set_option maxHeartbeats 1000000 in
theorem samePairs (a b : Option Addr) (n c d : Nat) (f g : Nat → ByteArray) (w : World) (hn : n ≤ 1048576) (ha : Sp w a n f g) (hb : Sp w b n f g) :
    Calls Tryz.prog 15 #[.slice a n c, .slice b n d] w fun e w' => e = .returned (.bool true) ∧ Below w.heap.size w w' := by
  have hne : ((n : Int) != (n : Int)) = false := by simp
  have HA : Hid (Sp w a n f g) := ha
  have HB : Hid (Sp w b n f g) := hb
  clear ha hb
  go_enter Tryz.func15, Tryz.ntmps15
  go_wp2_with fail
  go_loopw [5] (fun i wr => ∃ k : Nat, k ≤ n ∧ i = .int .i64 k ∧ Hid (Below w.heap.size w wr)) (fun i _ => n - (RowKit.intOf i).toNat)
  case atStart => exact ⟨0, by omega, rfl, Below.refl _ _⟩
  case round =>
    obtain ⟨k, hk, rfl, hB⟩ := hrel
    by_cases hlt : k < n
    · rcases HA.out.below hB.out with h0 | ⟨b1, o1, rfl, hc1⟩
      · omega
      rcases HB.out.below hB.out with h0 | ⟨b2, o2, rfl, hc2⟩
      · omega
      obtain ⟨x, hx⟩ : ∃ x, f k = x := ⟨_, rfl⟩
      obtain ⟨y, hy⟩ : ∃ y, g k = y := ⟨_, rfl⟩
      obtain ⟨p1, p2⟩ := hc1 k hlt
      obtain ⟨p3, p4⟩ := hc2 k hlt
      rw [hx] at p1 p3
      rw [hy] at p2 p4
      clear hx hy hc1 hc2
      have hk0 : (0 : Int) ≤ (k : Int) := by omega
      have hki : (k : Int) < (n : Int) := by omega
      go_wp2_with fail
      go_quiet (fail)
      go_wp2_with fail
      exact ⟨⟨k + 1, by omega, by go_num, Below.drewN' hB.out _⟩, by simp [RowKit.intOf]; omega⟩
    · go_wp2_with fail
      go_ret
      exact ⟨rfl, hB.out⟩
theorem samePairsM (a b : Option Addr) (n c d : Nat) (L : List PM) (w : World) (hL : L.length = n) (hn : n ≤ 1048576) (ha : Src w a (cellsP L)) (hb : Src w b (cellsP L)) :
    Calls Tryz.prog 15 #[.slice a n c, .slice b n d] w fun e w' => e = .returned (.bool true) ∧ Below w.heap.size w w' :=
  samePairs a b n c d (fK L) (fV L) w hn (sp_src ha hL) (sp_src hb hL)
end Go.Proofs.YthgbclipknfmjaaGreatDoor
namespace Go.Proofs.YthgbclipknfmjaaGreatDoor
open Go.ChangeShapes Go.WideShapes Go.ChangeAt Go.RowKit Go.Deep
set_option linter.unusedVariables false
set_option linter.unusedSimpArgs false
set_option maxRecDepth 100000

set_option maxHeartbeats 2000000 in
theorem sameFolderM (nm : ByteArray) (va nx : Int) (a b : Option Addr) (n c d : Nat) (L : List MMl) (w : World) (hL : L.length = n) (hn : n ≤ 1048576) (ha : Src w a (cellsMl L)) (hb : Src w b (cellsMl L)) :
    Calls Tryz.prog 24 #[.agg #[.string nm, .int .i64 va, .int .i64 nx, .slice a n c], .agg #[.string nm, .int .i64 va, .int .i64 nx, .slice b n d]] w fun e w' => e = .returned (.bool true) ∧ Below w.heap.size w w' := by
  have hne : ((n : Int) != (n : Int)) = false := by simp
  have hv : (va != va) = false := by simp
  have hx : (nx != nx) = false := by simp
  have HA : Hid (Src w a (cellsMl L)) := ha
  have HB : Hid (Src w b (cellsMl L)) := hb
  have HL : Hid (L.length = n) := hL
  clear ha hb hL
  go_enter Tryz.func24, Tryz.ntmps24
  go_wp2_with fail
  obtain ⟨W, hW⟩ : ∃ W, (w.alloc (.cells #[.string nm, .int .i64 va, .int .i64 nx, .slice a n c] 28)).alloc (.cells #[.string nm, .int .i64 va, .int .i64 nx, .slice b n d] 28) = W := ⟨_, rfl⟩
  have BW : Hid (Below w.heap.size w W) := by show Below _ _ _; rw [← hW]; exact ((Below.refl _ _).alloc (Nat.le_refl _) _).alloc (by simp) _
  have BA : Hid (Box W w.heap.size [.string nm, .int .i64 va, .int .i64 nx, .slice a n c]) := by show Box _ _ _; rw [← hW]; exact Box.below (Box.new rfl) ((Below.refl _ _).alloc (Nat.le_refl _) _)
  have BB : Hid (Box W (w.heap.size + 1) [.string nm, .int .i64 va, .int .i64 nx, .slice b n d]) := by show Box _ _ _; rw [← hW]; exact Box.new (by simp)
  rw [hW]
  clear hW
  go_loopw [5] (fun i wr => ∃ k : Nat, k ≤ n ∧ i = .int .i64 k ∧ Hid (Below W.heap.size W wr)) (fun i _ => n - (RowKit.intOf i).toNat)
  case atStart => exact ⟨0, by omega, rfl, Below.refl _ _⟩
  case round =>
    obtain ⟨k, hk, rfl, hB⟩ := hrel
    have B2 : Hid (Below w.heap.size w wr) := BW.out.trans (hB.out.mono BW.out.size)
    obtain ⟨p3, _⟩ := (Box.below BA.out hB.out) 3 _ rfl
    obtain ⟨q3, _⟩ := (Box.below BB.out hB.out) 3 _ rfl
    by_cases hlt : k < n
    · obtain ⟨b1, o1, x0, x1, x2, rfl, p0, p1, p2, hy1⟩ := srcMl (HA.out.below B2.out) (i := k) (by rw [HL.out]; exact hlt)
      obtain ⟨b2, o2, x0', x1', x2', rfl, r0, r1, r2, hy2⟩ := srcMl (HB.out.below B2.out) (i := k) (by rw [HL.out]; exact hlt)
      obtain ⟨rfl, rfl, rfl⟩ : x0 = x0' ∧ x1 = x1' ∧ x2 = x2' := by have := hy1.out.symm.trans hy2.out; simpa using this
      have hk0 : (0 : Int) ≤ (k : Int) := by omega
      have hki : (k : Int) < (n : Int) := by omega
      clear hy1 hy2
      go_wp2_with fail
      go_quiet (fail)
      have B3 : Hid (Below W.heap.size W (wr.drewN nq)) := Below.drewN' hB.out _
      go_wp2_with fail
      exact ⟨⟨k + 1, by omega, by go_num, B3.out⟩, by simp [RowKit.intOf]; omega⟩
    · go_wp2_with fail
      go_ret
      exact ⟨rfl, B2.out⟩
end Go.Proofs.YthgbclipknfmjaaGreatDoor
namespace Go.Proofs.YthgbclipknfmjaaGreatDoor
open Go.ChangeShapes Go.WideShapes Go.ChangeAt Go.RowKit Go.Deep Go.Lib
set_option linter.unusedVariables false
set_option linter.unusedSimpArgs false
set_option maxRecDepth 100000

set_option maxHeartbeats 4000000 in
theorem implFolderAt (a : Option Addr) (n c : Nat) (L : List PM) (x y : ByteArray) (w : World) (hL : L.length = n) (hn : n ≤ 1048576) (hs : ∀ x ∈ L, x.1.size ≤ 1048576 ∧ x.2.size ≤ 1048576) (h : Src w a (cellsP L)) (hx : x.size ≤ 1048576) (hy : y.size ≤ 1048576) (hG : Gl w) (h8 : 8 ≤ w.heap.size) :
    Calls Tryz.prog 10 #[.slice a n c, .string x, .string y] w fun e w' => ∃ nm va nx a' n' c' R q, e = .returned (.tuple #[.agg #[.string nm, .int .i64 va, .int .i64 nx, .slice a' n' c'], .int .i64 q]) ∧ faM L x y = ((nm, va, nx, R), q) ∧ R.length = n' ∧ w'.ownsRow w.heap.size 37 3 (.slice a' n' c') n' (cellsMl R) ∧ Below w.heap.size w w' := by
  have HLN : Hid (L.length = n) := hL
  have HS : Hid (Src w a (cellsP L)) := h
  have AL : Hid (Below w.heap.size w (w.alloc (.cells #[.string ⟨#[]⟩, .int .i64 0, .int .i64 0, .slice none 0 0] 28))) := (Below.refl _ _).alloc (Nat.le_refl _) _
  have AN : Hid (Below w.heap.size w ((w.alloc (.cells #[.string ⟨#[]⟩, .int .i64 0, .int .i64 0, .slice none 0 0] 28)).alloc (.cells #[.string x, .string y] 9))) := AL.out.alloc (by simp) _
  have XN : Hid (Box ((w.alloc (.cells #[.string ⟨#[]⟩, .int .i64 0, .int .i64 0, .slice none 0 0] 28)).alloc (.cells #[.string x, .string y] 9)) w.heap.size [.string ⟨#[]⟩, .int .i64 0, .int .i64 0, .slice none 0 0]) := (Box.new rfl).old _
  have ZN : Hid (w.heap.size < ((w.alloc (.cells #[.string ⟨#[]⟩, .int .i64 0, .int .i64 0, .slice none 0 0] 28)).alloc (.cells #[.string x, .string y] 9)).heap.size) := by show w.heap.size < ((w.alloc (.cells #[.string ⟨#[]⟩, .int .i64 0, .int .i64 0, .slice none 0 0] 28)).alloc (.cells #[.string x, .string y] 9)).heap.size; simp; omega
  obtain ⟨q, hq⟩ : ∃ q, askM L [x, y] = q := ⟨_, rfl⟩
  have HQQ : Hid (askM L [x, y] = q) := hq
  have CA := mailFaultI a n c L (some ⟨w.heap.size + 1, 0, none⟩) 2 2 [x, y] ((w.alloc (.cells #[.string ⟨#[]⟩, .int .i64 0, .int .i64 0, .slice none 0 0] 28)).alloc (.cells #[.string x, .string y] 9)) hL hn hs (HS.out.below AN.out) rfl (by omega) (fun s hs => by
    rcases List.mem_cons.1 hs with rfl | hs
    · exact hx
    · rw [List.mem_singleton.1 hs]; exact hy) (src_2S (by simp)) (hG.below h8 AN.out) (by have := AN.out.size; omega) q hq
  have HG : Hid (Gl w) := hG
  clear hL h hs hq hG
  by_cases hq0 : q = 0
  case neg =>
    have hqi : (q != 0) = true := by simpa using hq0
    have HE : Hid (faM L x y = ((⟨#[]⟩, 0, 0, []), q)) := fa_ask HQQ.out hq0
    clear hq0
    go_enter Tryz.func10, Tryz.ntmps10
    go_wp2_with fail
    refine CA.mono ?_
    rintro e w3 ⟨rfl, hb3⟩
    have B3 : Hid (Below w.heap.size w w3) := AN.out.trans (hb3.mono AN.out.size)
    have X3 : Hid (Box w3 w.heap.size [.string ⟨#[]⟩, .int .i64 0, .int .i64 0, .slice none 0 0]) := Box.below XN.out hb3
    have Z3 : Hid (w.heap.size < w3.heap.size) := Nat.lt_of_lt_of_le ZN.out hb3.size
    clear hb3 CA

    obtain ⟨p0, pf0⟩ := (X3.out) 0 _ rfl
    obtain ⟨p1, pf1⟩ := ((X3.out).set 0 (.string ⟨#[]⟩)) 1 _ rfl
    obtain ⟨p2, pf2⟩ := (((X3.out).set 0 (.string ⟨#[]⟩)).set 1 (.int .i64 0)) 2 _ rfl
    obtain ⟨p3, pf3⟩ := ((((X3.out).set 0 (.string ⟨#[]⟩)).set 1 (.int .i64 0)).set 2 (.int .i64 0)) 3 _ rfl
    have X8 := ((((X3.out).set 0 (.string ⟨#[]⟩)).set 1 (.int .i64 0)).set 2 (.int .i64 0)).set 3 (.slice none 0 0)
    obtain ⟨r0, _⟩ := X8 0 _ rfl
    obtain ⟨r1, _⟩ := X8 1 _ rfl
    obtain ⟨r2, _⟩ := X8 2 _ rfl
    obtain ⟨r3, _⟩ := X8 3 _ rfl
    clear X8
    have BE : Hid (Below w.heap.size w ((((w3.setCell ⟨w.heap.size, 0, none⟩ (.string ⟨#[]⟩)).setCell ⟨w.heap.size, 1, none⟩ (.int .i64 0)).setCell ⟨w.heap.size, 2, none⟩ (.int .i64 0)).setCell ⟨w.heap.size, 3, none⟩ (.slice none 0 0))) := (((B3.out.setCell (Nat.le_refl _) _).setCell (Nat.le_refl _) _).setCell (Nat.le_refl _) _).setCell (Nat.le_refl _) _
    go_wp2_with fail
    exact bodyPost_ret (v := .tuple #[.agg #[.string ⟨#[]⟩, .int .i64 0, .int .i64 0, .slice none 0 0], .int .i64 q]) (by simp [results, Tryz.results10, go_sem, r0, r1, r2, r3]) rfl ⟨_, _, _, _, _, _, [], _, rfl, HE.out, rfl, World.ownsRow_nil _ _ _ _, BE.out⟩

  subst hq0
  obtain ⟨hst, hsx, hsy⟩ := ask_zero2 HQQ.out
  have hus := word_slash hsx
  have hfs := word_slash hsy
  have hu8 := short_size hsx
  have hy8 := short_size hsy
  have CD := fun W (hW : Below w.heap.size w W) => deskWithI a n c L x W HLN.out (HS.out.below hW) (HG.out.below h8 hW) (by have := hW.size; omega) hst hus (by omega)
  have HFA : Hid (∀ S, takeAll (nextM L) x S0 L = some S → lackM S.word S.fs [y] = knownR L x y ∧ faM L x y = (faG (lookF y S.fs), knownR L x y)) := fun S hS => ⟨lack_known hst hus hfs hS, fa_desk HQQ.out hS⟩
  obtain ⟨nx, hnx⟩ : ∃ z, nextM L = z := ⟨_, rfl⟩
  simp only [hnx] at CD HFA
  clear hst hsx hsy hus hfs hnx
  go_enter Tryz.func10, Tryz.ntmps10
  go_wp2_with fail
  refine CA.mono ?_
  rintro e w3 ⟨rfl, hb3⟩
  have B3 : Hid (Below w.heap.size w w3) := AN.out.trans (hb3.mono AN.out.size)
  have X3 : Hid (Box w3 w.heap.size [.string ⟨#[]⟩, .int .i64 0, .int .i64 0, .slice none 0 0]) := Box.below XN.out hb3
  have Z3 : Hid (w.heap.size < w3.heap.size) := Nat.lt_of_lt_of_le ZN.out hb3.size
  clear hb3 CA

  have CD3 := CD w3 B3.out
  clear CD
  go_wp2_with fail
  refine CD3.mono ?_
  rintro e w5 ⟨M, S, rfl, hS, hSt, hM, hb5⟩
  have B5 : Hid (Below w.heap.size w w5) := B3.out.trans (hb5.mono B3.out.size)
  have X5 : Hid (Box w5 w.heap.size [.string ⟨#[]⟩, .int .i64 0, .int .i64 0, .slice none 0 0]) := Box.below X3.out hb5
  have ZM : Hid (w.heap.size < M + 2) := by have h9 := Z3.out; show w.heap.size < M + 2; omega
  obtain ⟨k1, k2⟩ := HFA.out S hS
  obtain ⟨va0, X, hD, nm, v1, v2, a', n', c', R, hat, hR, hown, hfg⟩ := at_pack hSt y
  have CT := atI y w5 M ⟨a, n, c, va0, S.aside, nx, x, S.word, X⟩ (by omega) (by show x.size ≤ _; omega) hD
  have hat2 : atX (lookX (folderK x y) X) = .agg #[.string nm, .int .i64 v1, .int .i64 v2, .slice a' n' c'] := hat
  have CT2 : Calls Tryz.prog 38 #[.pointer (some ⟨M + 1, 0, none⟩), .string y] w5 fun e w' => e = .returned (.agg #[.string nm, .int .i64 v1, .int .i64 v2, .slice a' n' c']) ∧ Below w5.heap.size w5 w' := by rw [← hat2]; exact CT
  obtain ⟨kk, hkk⟩ : ∃ z, knownR L x y = z := ⟨_, rfl⟩
  have HE : Hid (faM L x y = ((nm, v1, v2, R), kk)) := by show _ = _; rw [k2, hfg, hkk]
  have HGM : Hid (R.length = n') := hR
  have O5 : Hid (w5.ownsRow (M + 2) 37 3 (.slice a' n' c') n' (cellsMl R)) := hown
  have HST : Hid (StAt w5 M a n c nx x S n) := hSt
  have hk1 : lackM S.word S.fs [y] = kk := by rw [k1, hkk]
  have CL := fun W (hW : Below w5.heap.size w5 W) => lacksI (W.alloc (.cells #[.string y] 9)) M a n c nx x S n (hSt.later (hW.alloc hW.size _)) (by omega) (some ⟨W.heap.size, 0, none⟩) 1 1 [y] rfl (by omega) (fun s hs => by rw [List.mem_singleton.1 hs]; omega) (src_1S rfl) kk hk1
  have hB5 : Hid (M + 2 ≤ w5.heap.size) := by
    have h9 : M + 1 < w5.heap.size := World.block_lt_of_cell? _ _ (hD.1 0 _ rfl).1
    show M + 2 ≤ w5.heap.size
    omega
  clear hS hSt hb5 CD3 k1 k2 hD hat hR hown hfg CT hat2 hkk hk1 HFA hM
  go_wp2_with fail
  refine CT2.mono ?_
  rintro e w6 ⟨rfl, hb6⟩
  have CL6 := CL w6 hb6
  have B6 : Hid (Below w.heap.size w w6) := B5.out.trans (hb6.mono B5.out.size)
  have X6 : Hid (Box w6 w.heap.size [.string ⟨#[]⟩, .int .i64 0, .int .i64 0, .slice none 0 0]) := Box.below X5.out hb6
  have O6 : Hid (w6.ownsRow (M + 2) 37 3 (.slice a' n' c') n' (cellsMl R)) := own_below O5.out hb6
  clear hb6 CT2 CL
  go_wp2_with fail
  refine CL6.mono ?_
  rintro e w7 ⟨rfl, hb7⟩
  have A7 : Hid (Below w6.heap.size w6 (w6.alloc (.cells #[.string y] 9))) := (Below.refl _ _).alloc (Nat.le_refl _) _
  have B67 : Hid (Below w6.heap.size w6 w7) := A7.out.trans (hb7.mono A7.out.size)
  have B7 : Hid (Below w.heap.size w w7) := B6.out.trans (B67.out.mono B6.out.size)
  have X7 : Hid (Box w7 w.heap.size [.string ⟨#[]⟩, .int .i64 0, .int .i64 0, .slice none 0 0]) := Box.below X6.out B67.out
  have O7 : Hid (w7.ownsRow (M + 2) 37 3 (.slice a' n' c') n' (cellsMl R)) := own_below O6.out B67.out
  clear hb7 CL6
  obtain ⟨p0, pf0⟩ := (X7.out) 0 _ rfl
  obtain ⟨p1, pf1⟩ := ((X7.out).set 0 (.string nm)) 1 _ rfl
  obtain ⟨p2, pf2⟩ := (((X7.out).set 0 (.string nm)).set 1 (.int .i64 v1)) 2 _ rfl
  obtain ⟨p3, pf3⟩ := ((((X7.out).set 0 (.string nm)).set 1 (.int .i64 v1)).set 2 (.int .i64 v2)) 3 _ rfl
  have X8 := ((((X7.out).set 0 (.string nm)).set 1 (.int .i64 v1)).set 2 (.int .i64 v2)).set 3 (.slice a' n' c')
  obtain ⟨r0, _⟩ := X8 0 _ rfl
  obtain ⟨r1, _⟩ := X8 1 _ rfl
  obtain ⟨r2, _⟩ := X8 2 _ rfl
  obtain ⟨r3, _⟩ := X8 3 _ rfl
  clear X8
  have BE : Hid (Below w.heap.size w ((((w7.setCell ⟨w.heap.size, 0, none⟩ (.string nm)).setCell ⟨w.heap.size, 1, none⟩ (.int .i64 v1)).setCell ⟨w.heap.size, 2, none⟩ (.int .i64 v2)).setCell ⟨w.heap.size, 3, none⟩ (.slice a' n' c'))) := (((B7.out.setCell (Nat.le_refl _) _).setCell (Nat.le_refl _) _).setCell (Nat.le_refl _) _).setCell (Nat.le_refl _) _
  have OE : Hid (((((w7.setCell ⟨w.heap.size, 0, none⟩ (.string nm)).setCell ⟨w.heap.size, 1, none⟩ (.int .i64 v1)).setCell ⟨w.heap.size, 2, none⟩ (.int .i64 v2)).setCell ⟨w.heap.size, 3, none⟩ (.slice a' n' c')).ownsRow w.heap.size 37 3 (.slice a' n' c') n' (cellsMl R)) := own_mono (own_setLow (own_setLow (own_setLow (own_setLow (O7.out) ZM.out _) ZM.out _) ZM.out _) ZM.out _) (Nat.le_of_lt ZM.out)
  go_wp2_with fail
  exact bodyPost_ret (v := .tuple #[.agg #[.string nm, .int .i64 v1, .int .i64 v2, .slice a' n' c'], .int .i64 kk]) (by simp [results, Tryz.results10, go_sem, r0, r1, r2, r3]) rfl ⟨_, _, _, _, _, _, R, _, rfl, HE.out, HGM.out, OE.out, BE.out⟩

end Go.Proofs.YthgbclipknfmjaaGreatDoor
