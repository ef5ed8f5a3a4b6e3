/-
  Sfr Sad Sdr in one. By an AI agent.
-/
import Derived.Test.YthgbclipknfmjaaGreatDoorFr17
import Derived.Test.YthgbclipknfmjaaGreatDoorFr18
import Derived.Test.YthgbclipknfmjaaGreatDoorFr05
namespace Go.Proofs.YthgbclipknfmjaaGreatDoor
open Go.ChangeShapes Go.WideShapes Go.ChangeAt Go.RowKit Go.Deep Go.Lib
set_option linter.unusedVariables false
set_option linter.unusedSimpArgs false
set_option maxRecDepth 100000

theorem put_is (L : List PM) (n : Nat) (hn : L.length = n) (k v : ByteArray) (p : Nat) (hu : UpL L) (hp : IsPlace (fK L) n k p) : putL (fK L) (fV L) n k v p = insL k v L := by
  subst hn
  rw [← put_ins hu hp]
  unfold putL
  have h1 : listP (fK L) (fV L) L.length = L := by
    apply List.ext_getElem (by rw [listP_length])
    intro i h1 h2
    simp only [listP, List.getElem_map, List.getElem_range]
    rw [(at_fst h2).1, (at_fst h2).2]
  rw [h1]
theorem l01PutM (b o n c : Nat) (L : List PM) (key val : ByteArray) (w : World) (hL : L.length = n) (hn : n ≤ 4000) (hc : n ≤ c) (hc9 : c ≤ maxLen) (hu : UpL L) (h : Src w (some ⟨b, o, none⟩) (cellsP L)) :
    Calls Tryz.prog 93 #[.slice (some ⟨b, o, none⟩) n c, .string key, .string val] w fun e w' => ∃ g cap, e = .returned (.slice (some ⟨g, 0, none⟩) (insL key val L).length cap) ∧ (insL key val L).length ≤ cap ∧ cap ≤ maxLen ∧ Src w' (some ⟨g, 0, none⟩) (cellsP (insL key val L)) ∧ Below w.heap.size w w' := by
  obtain ⟨p, hp⟩ := place_exists (fK L) key n
  refine (l01PutC b o n c (fK L) (fV L) key val p w (by omega) hc hc9 hp (sp_src h hL)).mono ?_
  rintro e w' ⟨v, rfl, ho, hb⟩
  rw [put_is L n hL key val p hu hp] at ho
  have ho2 : w'.ownsRow w.heap.size 68 2 v (insL key val L).length (cellsP (insL key val L)) := ho
  obtain ⟨g, cap, rfl, h1, h2⟩ := own_someP ho2 (ins_len hu).2
  exact ⟨g, cap, rfl, h1, (own_capx ho2).2, h2, hb⟩
def LenC (R : List PM) (n c : Nat) : Prop := R.length = n ∧ n ≤ c ∧ c ≤ maxLen
def FreshEnd (q : Int) (a2 : Option Addr) (n2 c2 n1 c1 : Nat) : Prop := (q = 0 → (∃ g, a2 = some ⟨g, 0, none⟩) ∧ n2 ≤ c2 ∧ c2 ≤ maxLen) ∧ (q ≠ 0 → n2 = n1 ∧ c2 = c1)
theorem FreshEnd.bad {q : Int} {a2 : Option Addr} {n c : Nat} (h : q ≠ 0) : FreshEnd q a2 n c n c := ⟨fun h9 => absurd h9 h, fun _ => ⟨rfl, rfl⟩⟩
theorem FreshEnd.good {g n2 c2 n1 c1 : Nat} (h : n2 ≤ c2 ∧ c2 ≤ maxLen) : FreshEnd 0 (some ⟨g, 0, none⟩) n2 c2 n1 c1 := ⟨fun _ => ⟨⟨g, rfl⟩, h⟩, fun h9 => absurd rfl h9⟩
def fitsR (W Y : List PM) : List PM × Int := if 60 < Y.length then (W, 7) else (Y, 0)
def freshR (N W : List PM) (u f : ByteArray) (next : Int) : List PM × Int := if 9999 < nextM N then (W, 6) else fitsR W (insL (folderK u f) (metaT (nextM N) next) (insL vK (bs (itoa (nextM N + 1))) N))
def addR (L : List PM) (u p : ByteArray) : List PM × Int := if (getM L (userK u)).isSome = true then (L, 9) else freshR (insL (userK u) p L) L u inboxT 1
def knownR (L : List PM) (u f : ByteArray) : Int := if (getM L (userK u)).isSome = false then 15 else if (metaM L u f).isSome = false then 16 else 0
def mkR (L : List PM) (u f : ByteArray) : List PM × Int := if knownR L u f = 15 then (L, 15) else if knownR L u f = 0 then (L, 9) else freshR L L u f 1
theorem get_ins {k k' v : ByteArray} {L : List PM} (hu : UpL L) (hk : k' ≠ k) : getM (insL k v L) k' = getM L k' := by
  have h1 : ∀ x, getM (insL k v L) k' = some x ↔ getM L k' = some x := fun x => by
    rw [getM_mem (ins_up hu), getM_mem hu]
    constructor
    · intro h
      rcases ins_mem hu h with h | h
      · cases h; exact absurd rfl hk
      · exact h.1
    · intro h
      refine (ins_perm hu).mem_iff.2 (List.mem_cons_of_mem _ ?_)
      exact List.mem_filter.2 ⟨h, decide_eq_true hk⟩
  cases hx : getM L k' with
  | some x => exact (h1 x).2 hx
  | none =>
    cases hy : getM (insL k v L) k' with
    | none => rfl
    | some y => rw [(h1 y).1 hy] at hx; cases hx
theorem next_ins {k v : ByteArray} {L : List PM} (hu : UpL L) (hk : vK ≠ k) : nextM (insL k v L) = nextM L := by
  unfold nextM
  rw [get_ins hu hk]
theorem metaT_size {x y : Int} (h0 : 0 ≤ x) (h1 : x ≤ 10000) (h2 : 0 ≤ y) (h3 : y ≤ 10000) : (metaT x y).size ≤ 201 := by
  have a := itoa_small x h0 h1
  have b := itoa_small y h2 h3
  have e : (metaT x y).size = (bs (itoa x)).size + 1 + (bs (itoa y)).size := by
    unfold metaT
    rw [ByteArray.size_append, ByteArray.size_append]
    rfl
  omega
set_option maxHeartbeats 1000000 in
theorem l07PutS (b o n c : Nat) (L : List PM) (u f : ByteArray) (x y : Int) (w : World) (hL : L.length = n) (hn : n ≤ 4000) (hc : n ≤ c) (hc9 : c ≤ maxLen) (hu : UpL L) (h : Src w (some ⟨b, o, none⟩) (cellsP L)) (hus : u.size ≤ 1000) (hfs : f.size ≤ 1000) (x0 : 0 ≤ x) (x1 : x ≤ 10000) (y0 : 0 ≤ y) (y1 : y ≤ 10000) (K T : ByteArray) (HK : Hid (folderK u f = K)) (HT : Hid (metaT x y = T)) :
    Calls Tryz.prog 138 #[.slice (some ⟨b, o, none⟩) n c, .string u, .string f, .int .i64 x, .int .i64 y] w fun e w' => ∃ g cap, e = .returned (.slice (some ⟨g, 0, none⟩) (insL K T L).length cap) ∧ (insL K T L).length ≤ cap ∧ cap ≤ maxLen ∧ Src w' (some ⟨g, 0, none⟩) (cellsP (insL K T L)) ∧ Below w.heap.size w w' := by
  have CF := fun W => l07FolderS u f W (by omega) (by omega)
  have CX := fun W => digitsI x x0 x1 W
  have CY := fun W => digitsI y y0 y1 W
  have zx := itoa_small x x0 x1
  have zy := itoa_small y y0 y1
  have HM : Hid ((bs (itoa x) ++ ⟨#[32]⟩) ++ bs (itoa y) = T) := HT.out
  obtain ⟨TX, hTX⟩ : ∃ t, bs (itoa x) = t := ⟨_, rfl⟩
  obtain ⟨TY, hTY⟩ : ∃ t, bs (itoa y) = t := ⟨_, rfl⟩
  simp only [hTX] at CX zx HM
  simp only [hTY] at CY zy HM
  simp only [HK.out] at CF
  have CP := fun W (hW : Below w.heap.size w W) => l01PutM b o n c L K T W hL hn hc hc9 hu (h.below hW)
  obtain ⟨R, hR⟩ : ∃ r, insL K T L = r := ⟨_, rfl⟩
  simp only [hR] at CP ⊢
  clear hL hu h hTX hTY hR HT HK
  go_enter Tryz.func138, Tryz.ntmps138
  go_wp2_with fail
  refine (CF _).mono ?_
  rintro e w1 ⟨rfl, hw1⟩
  obtain rfl := hw1
  go_wp2_with fail
  refine (CX _).mono ?_
  rintro e w2 ⟨rfl, hb2⟩
  have B2 : Hid (Below w1.heap.size w1 w2) := hb2
  clear hb2
  go_wp2_with fail
  refine (CY _).mono ?_
  rintro e w3 ⟨rfl, hb3⟩
  have B3 : Hid (Below w1.heap.size w1 w3) := B2.out.trans (hb3.mono B2.out.size)
  clear hb3
  have hm := HM.out
  go_wp2_with fail
  try rw [hm]
  refine (CP _ B3.out).mono ?_
  rintro e w4 ⟨g, cap, rfl, k1, k2, k3, hb4⟩
  have HF : Hid (R.length ≤ cap ∧ cap ≤ maxLen ∧ Src w4 (some ⟨g, 0, none⟩) (cellsP R) ∧ Below w1.heap.size w1 w4) := ⟨k1, k2, k3, B3.out.trans (hb4.mono B3.out.size)⟩
  clear k1 k2 k3 hb4 CP CX CY CF
  go_wp2_with fail
  go_ret
  exact ⟨g, cap, rfl, HF.out⟩
set_option maxHeartbeats 1000000 in
theorem l07FitsS (a1 : Option Addr) (n1 c1 : Nat) (a2 : Option Addr) (n2 c2 : Nat) (w : World) (a3 : Option Addr) (n3 c3 : Nat) (q : Int) (HQ : Hid (if 60 < n2 then (a3, n3, c3, q) = (a1, n1, c1, 7) else (a3, n3, c3, q) = (a2, n2, c2, 0))) :
    Calls Tryz.prog 110 #[.slice a1 n1 c1, .slice a2 n2 c2] w fun e w' => e = .returned (.tuple #[.slice a3 n3 c3, .int .i64 q]) ∧ w' = w := by
  by_cases h : 60 < n2
  · have hi : (60 : Int) < (n2 : Int) := by omega
    have h9 := HQ.out
    rw [if_pos h] at h9
    cases h9
    clear HQ
    go_enter Tryz.func110, Tryz.ntmps110
    go_wp2_with fail
    exact bodyPost_ret (v := .tuple #[.slice a1 n1 c1, .int .i64 7]) (by simp [results, Tryz.results110, go_sem]) rfl ⟨rfl, rfl⟩
  · have hi : ¬ (60 : Int) < (n2 : Int) := by omega
    have h9 := HQ.out
    rw [if_neg h] at h9
    cases h9
    clear HQ
    go_enter Tryz.func110, Tryz.ntmps110
    go_wp2_with fail
    exact bodyPost_ret (v := .tuple #[.slice a2 n2 c2, .int .i64 0]) (by simp [results, Tryz.results110, go_sem]) rfl ⟨rfl, rfl⟩
set_option maxHeartbeats 2000000 in
theorem l07FreshX (b o n c : Nat) (N : List PM) (hN : N.length = n) (hn : n ≤ 64) (hc : n ≤ c) (hc9 : c ≤ maxLen) (hg : GoodW N) (a1 : Option Addr) (n1 c1 : Nat) (W : List PM) (hW : W.length = n1) (u f : ByteArray) (next : Int) (w : World) (h : Src w (some ⟨b, o, none⟩) (cellsP N)) (hw : Src w a1 (cellsP W)) (hus : u.size ≤ 1000) (hfs : f.size ≤ 1000) (n0 : 0 ≤ nextM N) (m0 : 0 ≤ next) (m1 : next ≤ 10000) (R : List PM) (q : Int) (HR : Hid (freshR N W u f next = (R, q))) :
    Calls Tryz.prog 107 #[.slice (some ⟨b, o, none⟩) n c, .slice a1 n1 c1, .string u, .string f, .int .i64 next] w fun e w' => ∃ a2 n2 c2, e = .returned (.tuple #[.slice a2 n2 c2, .int .i64 q]) ∧ R.length = n2 ∧ Src w' a2 (cellsP R) ∧ Below w.heap.size w w' ∧ FreshEnd q a2 n2 c2 n1 c1 := by
  have CN := l07NextW (some ⟨b, o, none⟩) n c N w hN hg h
  have HW : Hid (W.length = n1 ∧ Src w a1 (cellsP W)) := ⟨hW, hw⟩
  by_cases hx : 9999 < nextM N
  · obtain ⟨rfl, rfl⟩ : W = R ∧ 6 = q := by
      have h9 := HR.out
      unfold freshR at h9
      rw [if_pos hx] at h9
      cases h9
      exact ⟨rfl, rfl⟩
    obtain ⟨x, hxx⟩ : ∃ x, nextM N = x := ⟨_, rfl⟩
    rw [hxx] at CN hx
    clear hN hg h hW hw HR hxx n0
    go_enter Tryz.func107, Tryz.ntmps107
    go_wp2_with fail
    refine CN.mono ?_
    rintro e w1 ⟨rfl, hw1⟩
    obtain rfl := hw1
    go_wp2_with fail
    exact bodyPost_ret (v := .tuple #[.slice a1 n1 c1, .int .i64 6]) (by simp [results, Tryz.results107, go_sem]) rfl ⟨a1, n1, c1, rfl, HW.out.1, HW.out.2, Below.refl _ _, FreshEnd.bad (by decide)⟩
  · have HR2 : Hid (fitsR W (insL (folderK u f) (metaT (nextM N) next) (insL vK (bs (itoa (nextM N + 1))) N)) = (R, q)) := by
      have h9 := HR.out
      unfold freshR at h9
      rw [if_neg hx] at h9
      exact h9
    obtain ⟨x, hxx⟩ : ∃ x, nextM N = x := ⟨_, rfl⟩
    rw [hxx] at CN hx HR2 n0
    have CD := fun W => digitsI (x + 1) (by omega) (by omega) W
    obtain ⟨T1, hT1⟩ : ∃ t, bs (itoa (x + 1)) = t := ⟨_, rfl⟩
    simp only [hT1] at CD HR2
    have CP := fun Wd (hWd : Below w.heap.size w Wd) => l01PutM b o n c N vK T1 Wd hN (by omega) hc hc9 hg.2.2 (h.below hWd)
    have hl1 := (ins_len (k := vK) (v := T1) hg.2.2).1
    have hu1 := ins_up (k := vK) (v := T1) hg.2.2
    rw [hN] at hl1
    obtain ⟨N1, hN1⟩ : ∃ t, insL vK T1 N = t := ⟨_, rfl⟩
    simp only [hN1] at CP HR2 hl1 hu1
    obtain ⟨n2, hn2⟩ : ∃ t, N1.length = t := ⟨_, rfl⟩
    simp only [hn2] at CP hl1
    have CQ := fun (g cap : Nat) (Wd : World) (k1 : n2 ≤ cap) (k2 : cap ≤ maxLen) (k3 : Src Wd (some ⟨g, 0, none⟩) (cellsP N1)) => l07PutS g 0 n2 cap N1 u f x next Wd hn2 (by omega) k1 k2 hu1 k3 hus hfs n0 (by omega) m0 m1 _ _ rfl rfl
    obtain ⟨N2, hN2⟩ : ∃ t, insL (folderK u f) (metaT x next) N1 = t := ⟨_, rfl⟩
    simp only [hN2] at CQ HR2
    obtain ⟨n3, hn3⟩ : ∃ t, N2.length = t := ⟨_, rfl⟩
    simp only [hn3] at CQ
    have HN3 : Hid (N2.length = n3) := hn3
    clear hN hg h hW hw HR hxx hT1 hN1 hn2 hN2 hn3 hu1
    go_enter Tryz.func107, Tryz.ntmps107
    go_wp2_with fail
    refine CN.mono ?_
    rintro e w1 ⟨rfl, hw1⟩
    obtain rfl := hw1
    clear CN
    go_wp2_with fail
    refine (CD _).mono ?_
    rintro e w2 ⟨rfl, hb2⟩
    have B2 : Hid (Below w1.heap.size w1 w2) := hb2
    clear hb2 CD
    go_wp2_with fail
    refine (CP _ B2.out).mono ?_
    rintro e w3 ⟨g, cap, rfl, k1, k2, k3, hb3⟩
    have B3 : Hid (Below w1.heap.size w1 w3) := B2.out.trans (hb3.mono B2.out.size)
    have CQ1 := CQ g cap w3 k1 k2 k3
    clear hb3 CP k1 k2 k3 CQ
    go_wp2_with fail
    refine CQ1.mono ?_
    rintro e w4 ⟨g4, cap4, rfl, k1, k2, k3, hb4⟩
    have B4 : Hid (Below w1.heap.size w1 w4) := B3.out.trans (hb4.mono B3.out.size)
    have H4 : Hid (Src w4 (some ⟨g4, 0, none⟩) (cellsP N2)) := k3
    have HC4 : Hid (n3 ≤ cap4 ∧ cap4 ≤ maxLen) := ⟨k1, k2⟩
    clear hb4 CQ1 k1 k2 k3
    by_cases h6 : 60 < n3
    · have CF := l07FitsS a1 n1 c1 (some ⟨g4, 0, none⟩) n3 cap4 w4 a1 n1 c1 7 (by show ite _ _ _; rw [if_pos h6])
      obtain ⟨rfl, rfl⟩ : W = R ∧ 7 = q := by
        have h9 := HR2.out
        unfold fitsR at h9
        rw [HN3.out, if_pos h6] at h9
        cases h9
        exact ⟨rfl, rfl⟩
      go_wp2_with fail
      refine CF.mono ?_
      rintro e w5 ⟨rfl, hw5⟩
      obtain rfl := hw5
      clear CF
      go_wp2_with fail
      exact bodyPost_ret (v := .tuple #[.slice a1 n1 c1, .int .i64 7]) (by simp [results, Tryz.results107, go_sem]) rfl ⟨a1, n1, c1, rfl, HW.out.1, HW.out.2.below B4.out, B4.out, FreshEnd.bad (by decide)⟩
    · have CF := l07FitsS a1 n1 c1 (some ⟨g4, 0, none⟩) n3 cap4 w4 (some ⟨g4, 0, none⟩) n3 cap4 0 (by show ite _ _ _; rw [if_neg h6])
      obtain ⟨rfl, rfl⟩ : N2 = R ∧ 0 = q := by
        have h9 := HR2.out
        unfold fitsR at h9
        rw [HN3.out, if_neg h6] at h9
        cases h9
        exact ⟨rfl, rfl⟩
      go_wp2_with fail
      refine CF.mono ?_
      rintro e w5 ⟨rfl, hw5⟩
      obtain rfl := hw5
      clear CF
      go_wp2_with fail
      exact bodyPost_ret (v := .tuple #[.slice (some ⟨g4, 0, none⟩) n3 cap4, .int .i64 0]) (by simp [results, Tryz.results107, go_sem]) rfl ⟨_, n3, cap4, rfl, HN3.out, H4.out, B4.out, FreshEnd.good HC4.out⟩
theorem l07FreshC (b o n c : Nat) (N : List PM) (hN : N.length = n) (hn : n ≤ 64) (hc : n ≤ c) (hc9 : c ≤ maxLen) (hg : GoodW N) (a1 : Option Addr) (n1 c1 : Nat) (W : List PM) (hW : W.length = n1) (hc1 : n1 ≤ c1 ∧ c1 ≤ maxLen) (u f : ByteArray) (next : Int) (w : World) (h : Src w (some ⟨b, o, none⟩) (cellsP N)) (hw : Src w a1 (cellsP W)) (hus : u.size ≤ 1000) (hfs : f.size ≤ 1000) (n0 : 0 ≤ nextM N) (m0 : 0 ≤ next) (m1 : next ≤ 10000) (R : List PM) (q : Int) (HR : Hid (freshR N W u f next = (R, q))) :
    Calls Tryz.prog 107 #[.slice (some ⟨b, o, none⟩) n c, .slice a1 n1 c1, .string u, .string f, .int .i64 next] w fun e w' => ∃ a2 n2 c2, e = .returned (.tuple #[.slice a2 n2 c2, .int .i64 q]) ∧ LenC R n2 c2 ∧ Src w' a2 (cellsP R) ∧ Below w.heap.size w w' :=
  (l07FreshX b o n c N hN hn hc hc9 hg a1 n1 c1 W hW u f next w h hw hus hfs n0 m0 m1 R q HR).mono fun e w' ⟨a2, n2, c2, h1, h2, h3, h4, h5⟩ => ⟨a2, n2, c2, h1, ⟨h2, by
    by_cases e0 : q = 0
    · exact (h5.1 e0).2
    · obtain ⟨e1, e2⟩ := h5.2 e0
      rw [e1, e2]
      exact hc1⟩, h3, h4⟩
set_option maxHeartbeats 1000000 in
theorem l07OwnS (a : Option Addr) (n c : Nat) (L : List PM) (w : World) (hL : L.length = n) (hn : n ≤ 1048576) (h : Src w a (cellsP L)) :
    Calls Tryz.prog 51 #[.slice a n c] w fun e w' => ∃ v, e = .returned v ∧ w'.ownsRow w.heap.size 68 2 v n (cellsP L) ∧ Below w.heap.size w w' := by
  have HH : Hid (Src w a (cellsP L)) := h
  have HL : Hid ((cellsP L).length = n * 2) := by show _ = _; rw [cellsP_length, hL]
  clear h hL
  go_enter Tryz.func51, Tryz.ntmps51
  go_wp2_with (at_builtin; refine wpList_append_src _ rfl _ _ 23 rfl w.heap.size 68 (.agg #[.string ⟨#[]⟩, .string ⟨#[]⟩]) 2 32 Tryz.underlying23 infoP rfl (by decide) (by decide) _ 0 [] rfl (own_empty rfl (Nat.le_refl _)) a n c (cellsP L) rfl HL.out (HH.out.below ((Below.refl _ _).alloc (Nat.le_refl _) _)) (cellsP_one L) (by omega) (by simp) ?_)
  intro v' w1 hown hgrow
  have HO : Hid (w1.ownsRow w.heap.size 68 2 v' n (cellsP L)) := by simpa [Hid] using hown
  have HB : Hid (Below w.heap.size w w1) := ((Below.refl _ _).alloc (Nat.le_refl _) _).grown hgrow (by simp) (fun k e => by cases e; exact Nat.le_refl _)
  clear hown hgrow
  go_wp2_with fail
  go_ret
  exact ⟨_, rfl, HO.out, HB.out⟩
theorem userK_size (u : ByteArray) : (userK u).size = u.size + 2 := by
  rw [ByteArray.size_append]
  show 2 + u.size = _
  omega
set_option maxHeartbeats 2000000 in
theorem l07AddUserC (b o n c : Nat) (L : List PM) (hL : L.length = n) (hc : n ≤ c) (hc9 : c ≤ maxLen) (hg : GoodL L) (u p : ByteArray) (hus : u.size ≤ 8) (hps : p.size ≤ 8) (n0 : 0 ≤ nextM L) (w : World) (h : Src w (some ⟨b, o, none⟩) (cellsP L)) (R : List PM) (q : Int) (HR : Hid (addR L u p = (R, q))) :
    Calls Tryz.prog 125 #[.slice (some ⟨b, o, none⟩) n c, .string u, .string p] w fun e w' => ∃ a2 n2 c2, e = .returned (.tuple #[.slice a2 n2 c2, .int .i64 q]) ∧ LenC R n2 c2 ∧ Src w' a2 (cellsP R) ∧ Below w.heap.size w w' := by
  have CU := fun W => l07UserS u W (by omega)
  have CG := fun W (hW : Below w.heap.size w W) => l01GetM (some ⟨b, o, none⟩) n c L (userK u) W hL hg (h.below hW)
  have hn60 := hg.1
  rw [hL] at hn60
  have HLN : Hid (LenC L n c ∧ Src w (some ⟨b, o, none⟩) (cellsP L)) := ⟨⟨hL, hc, hc9⟩, h⟩
  obtain ⟨tv, htv⟩ : ∃ t, (getM L (userK u)).getD e0 = t := ⟨_, rfl⟩
  obtain ⟨tb, htb⟩ : ∃ t, (getM L (userK u)).isSome = t := ⟨_, rfl⟩
  simp only [htv, htb] at CG
  have HR1 : Hid ((if tb = true then (L, 9) else freshR (insL (userK u) p L) L u inboxT 1) = (R, q)) := by
    have h9 := HR.out
    unfold addR at h9
    rw [htb] at h9
    exact h9
  have hz : GoodW (insL (userK u) p L) := ins_good hg.2.2 hg.2.1 (by rw [hL]; omega) (by rw [userK_size]; omega) (by omega)
  have CP := fun W (hW : Below w.heap.size w W) => l01PutM b o n c L (userK u) p W hL (by omega) hc hc9 hg.2.2 (h.below hW)
  have hnx := next_ins (k := userK u) (v := p) hg.2.2 (user_not u).symm
  obtain ⟨N1, hN1⟩ : ∃ t, insL (userK u) p L = t := ⟨_, rfl⟩
  rw [hN1] at hz HR1 hnx
  simp only [hN1] at CP
  obtain ⟨n1, hn1⟩ : ∃ t, N1.length = t := ⟨_, rfl⟩
  simp only [hn1] at CP
  have hn64 : n1 ≤ 64 := by rw [← hn1]; exact hz.1
  have CF := fun (g cap : Nat) (W : World) (k1 : n1 ≤ cap) (k2 : cap ≤ maxLen) (k3 : Src W (some ⟨g, 0, none⟩) (cellsP N1)) (k4 : Src W (some ⟨b, o, none⟩) (cellsP L)) (hq : freshR N1 L u inboxT 1 = (R, q)) => l07FreshC g 0 n1 cap N1 hn1 hn64 k1 k2 hz (some ⟨b, o, none⟩) n c L hL ⟨hc, hc9⟩ u inboxT 1 W k3 k4 (by omega) (by decide) (by rw [hnx]; exact n0) (by omega) (by omega) R q hq
  obtain ⟨KU, hKU⟩ : ∃ t, userK u = t := ⟨_, rfl⟩
  simp only [hKU] at CU CG CP
  clear hL h hg htv htb HR hz hnx hN1 hn1 hKU n0
  cases tb with
  | true =>
    obtain ⟨rfl, rfl⟩ : L = R ∧ 9 = q := by
      have h9 := HR1.out
      rw [if_pos rfl] at h9
      cases h9
      exact ⟨rfl, rfl⟩
    clear HR1 CF CP
    go_enter Tryz.func125, Tryz.ntmps125
    go_wp2_with fail
    refine (CU _).mono ?_
    rintro e w1 ⟨rfl, hw1⟩
    obtain rfl := hw1
    go_wp2_with fail
    refine (CG _ (Below.refl _ _)).mono ?_
    rintro e w2 ⟨rfl, hw2⟩
    obtain rfl := hw2
    clear CG CU
    go_wp2_with fail
    exact bodyPost_ret (v := .tuple #[.slice (some ⟨b, o, none⟩) n c, .int .i64 9]) (by simp [results, Tryz.results125, go_sem]) rfl ⟨_, _, _, rfl, HLN.out.1, HLN.out.2, Below.refl _ _⟩
  | false =>
    have HQ : Hid (freshR N1 L u inboxT 1 = (R, q)) := by have h9 := HR1.out; rw [if_neg (by decide)] at h9; exact h9
    clear HR1
    go_enter Tryz.func125, Tryz.ntmps125
    go_wp2_with fail
    refine (CU _).mono ?_
    rintro e w1 ⟨rfl, hw1⟩
    obtain rfl := hw1
    go_wp2_with fail
    refine (CG _ (Below.refl _ _)).mono ?_
    rintro e w2 ⟨rfl, hw2⟩
    obtain rfl := hw2
    go_wp2_with fail
    refine (CU _).mono ?_
    rintro e w3 ⟨rfl, hw3⟩
    obtain rfl := hw3
    clear CG CU
    go_wp2_with fail
    refine (CP _ (Below.refl _ _)).mono ?_
    rintro e w4 ⟨g, cap, rfl, k1, k2, k3, hb4⟩
    have CF1 := CF g cap w4 k1 k2 k3 (HLN.out.2.below hb4) HQ.out
    have B4 : Hid (Below w3.heap.size w3 w4) := hb4
    clear CF CP k1 k2 k3 hb4
    go_wp2_with fail
    refine CF1.mono ?_
    rintro e w5 ⟨a5, n5, c5, rfl, k1, k2, hb5⟩
    have HF : Hid (LenC R n5 c5 ∧ Src w5 a5 (cellsP R) ∧ Below w3.heap.size w3 w5) := ⟨k1, k2, B4.out.trans (hb5.mono B4.out.size)⟩
    clear CF1 k1 k2 hb5
    go_wp2_with fail
    exact bodyPost_ret (v := .tuple #[.slice a5 n5 c5, .int .i64 q]) (by simp [results, Tryz.results125, go_sem]) rfl ⟨_, _, _, rfl, HF.out⟩
set_option maxHeartbeats 2000000 in
theorem l07KnownS (a : Option Addr) (n c : Nat) (L : List PM) (hL : L.length = n) (hg : GoodL L) (u f : ByteArray) (hus : u.size ≤ 1000) (hfs : f.size ≤ 1000) (w : World) (h : Src w a (cellsP L)) (q : Int) (HQ : Hid (knownR L u f = q)) :
    Calls Tryz.prog 90 #[.slice a n c, .string u, .string f] w fun e w' => e = .returned (.int .i64 q) ∧ Below w.heap.size w w' := by
  have CU := fun W => l07UserS u W (by omega)
  have CG := fun W (hW : Below w.heap.size w W) => l01GetM a n c L (userK u) W hL hg (h.below hW)
  have CM := fun W (hW : Below w.heap.size w W) => l07MetaS a n c L u f W hL hg (by omega) (by omega) (h.below hW)
  obtain ⟨tv, htv⟩ : ∃ t, (getM L (userK u)).getD e0 = t := ⟨_, rfl⟩
  obtain ⟨tb, htb⟩ : ∃ t, (getM L (userK u)).isSome = t := ⟨_, rfl⟩
  obtain ⟨mb, hmb⟩ : ∃ t, (metaM L u f).isSome = t := ⟨_, rfl⟩
  simp only [htv, htb] at CG
  simp only [hmb] at CM
  have HR1 : Hid ((if tb = false then 15 else if mb = false then 16 else 0) = q) := by
    have h9 := HQ.out
    unfold knownR at h9
    rw [htb, hmb] at h9
    exact h9
  obtain ⟨KU, hKU⟩ : ∃ t, userK u = t := ⟨_, rfl⟩
  simp only [hKU] at CU CG
  clear hL h hg htv htb HQ hmb hKU
  cases tb with
  | false =>
    obtain rfl : 15 = q := HR1.out
    clear HR1 CM
    go_enter Tryz.func90, Tryz.ntmps90
    go_wp2_with fail
    refine (CU _).mono ?_
    rintro e w1 ⟨rfl, hw1⟩
    obtain rfl := hw1
    go_wp2_with fail
    refine (CG _ (Below.refl _ _)).mono ?_
    rintro e w2 ⟨rfl, hw2⟩
    obtain rfl := hw2
    clear CG CU
    go_wp2_with fail
    go_ret
    exact ⟨rfl, Below.refl _ _⟩
  | true =>
    cases mb with
    | false =>
      obtain rfl : 16 = q := HR1.out
      clear HR1
      go_enter Tryz.func90, Tryz.ntmps90
      go_wp2_with fail
      refine (CU _).mono ?_
      rintro e w1 ⟨rfl, hw1⟩
      obtain rfl := hw1
      go_wp2_with fail
      refine (CG _ (Below.refl _ _)).mono ?_
      rintro e w2 ⟨rfl, hw2⟩
      obtain rfl := hw2
      clear CG CU
      go_wp2_with fail
      refine (CM _ (Below.refl _ _)).mono ?_
      rintro e w3 ⟨x, y, rfl, _, hb3⟩
      have B3 : Hid (Below w2.heap.size w2 w3) := hb3
      clear CM hb3
      go_wp2_with fail
      go_ret
      exact ⟨rfl, B3.out⟩
    | true =>
      obtain rfl : 0 = q := HR1.out
      clear HR1
      go_enter Tryz.func90, Tryz.ntmps90
      go_wp2_with fail
      refine (CU _).mono ?_
      rintro e w1 ⟨rfl, hw1⟩
      obtain rfl := hw1
      go_wp2_with fail
      refine (CG _ (Below.refl _ _)).mono ?_
      rintro e w2 ⟨rfl, hw2⟩
      obtain rfl := hw2
      clear CG CU
      go_wp2_with fail
      refine (CM _ (Below.refl _ _)).mono ?_
      rintro e w3 ⟨x, y, rfl, _, hb3⟩
      have B3 : Hid (Below w2.heap.size w2 w3) := hb3
      clear CM hb3
      go_wp2_with fail
      go_ret
      exact ⟨rfl, B3.out⟩
theorem GoodL.wide {L : List PM} (h : GoodL L) : GoodW L := ⟨by have := h.1; omega, h.2⟩
theorem known_cases (L : List PM) (u f : ByteArray) : knownR L u f = 15 ∨ knownR L u f = 16 ∨ knownR L u f = 0 := by
  unfold knownR
  split
  · exact .inl rfl
  · split
    · exact .inr (.inl rfl)
    · exact .inr (.inr rfl)
set_option maxHeartbeats 2000000 in
theorem l07MakeFolderC (b o n c : Nat) (L : List PM) (hL : L.length = n) (hc : n ≤ c) (hc9 : c ≤ maxLen) (hg : GoodL L) (u f : ByteArray) (hus : u.size ≤ 8) (hfs : f.size ≤ 8) (n0 : 0 ≤ nextM L) (w : World) (h : Src w (some ⟨b, o, none⟩) (cellsP L)) (R : List PM) (q : Int) (HR : Hid (mkR L u f = (R, q))) :
    Calls Tryz.prog 97 #[.slice (some ⟨b, o, none⟩) n c, .string u, .string f] w fun e w' => ∃ a2 n2 c2, e = .returned (.tuple #[.slice a2 n2 c2, .int .i64 q]) ∧ LenC R n2 c2 ∧ Src w' a2 (cellsP R) ∧ Below w.heap.size w w' := by
  have hn60 := hg.1
  rw [hL] at hn60
  have HLN : Hid (LenC L n c ∧ Src w (some ⟨b, o, none⟩) (cellsP L)) := ⟨⟨hL, hc, hc9⟩, h⟩
  have CK := l07KnownS (some ⟨b, o, none⟩) n c L hL hg u f (by omega) (by omega) w h _ rfl
  have CF := fun (W : World) (k3 : Src W (some ⟨b, o, none⟩) (cellsP L)) (hq : freshR L L u f 1 = (R, q)) => l07FreshC b o n c L hL (by omega) hc hc9 hg.wide (some ⟨b, o, none⟩) n c L hL ⟨hc, hc9⟩ u f 1 W k3 k3 (by omega) (by omega) n0 (by omega) (by omega) R q hq
  have hk := known_cases L u f
  have HR1 := HR.out
  unfold mkR at HR1
  obtain ⟨kk, hkk⟩ : ∃ t, knownR L u f = t := ⟨_, rfl⟩
  rw [hkk] at CK hk HR1
  clear hL h hg HR hkk n0
  rcases hk with rfl | rfl | rfl
  · obtain ⟨rfl, rfl⟩ : L = R ∧ 15 = q := by
      rw [if_pos rfl] at HR1
      cases HR1
      exact ⟨rfl, rfl⟩
    clear HR1 CF
    go_enter Tryz.func97, Tryz.ntmps97
    go_wp2_with fail
    refine CK.mono ?_
    rintro e w1 ⟨rfl, hb1⟩
    have B1 : Hid (Below w.heap.size w w1) := hb1
    clear hb1 CK
    go_wp2_with fail
    exact bodyPost_ret (v := .tuple #[.slice (some ⟨b, o, none⟩) n c, .int .i64 15]) (by simp [results, Tryz.results97, go_sem]) rfl ⟨_, _, _, rfl, HLN.out.1, HLN.out.2.below B1.out, B1.out⟩
  · have HQ : Hid (freshR L L u f 1 = (R, q)) := by
      rw [if_neg (by decide), if_neg (by decide)] at HR1
      exact HR1
    clear HR1
    go_enter Tryz.func97, Tryz.ntmps97
    go_wp2_with fail
    refine CK.mono ?_
    rintro e w1 ⟨rfl, hb1⟩
    have B1 : Hid (Below w.heap.size w w1) := hb1
    have CF1 := CF w1 (HLN.out.2.below hb1) HQ.out
    clear hb1 CK CF
    go_wp2_with fail
    refine CF1.mono ?_
    rintro e w5 ⟨a5, n5, c5, rfl, k1, k2, hb5⟩
    have HF : Hid (LenC R n5 c5 ∧ Src w5 a5 (cellsP R) ∧ Below w.heap.size w w5) := ⟨k1, k2, B1.out.trans (hb5.mono B1.out.size)⟩
    clear CF1 k1 k2 hb5
    go_wp2_with fail
    exact bodyPost_ret (v := .tuple #[.slice a5 n5 c5, .int .i64 q]) (by simp [results, Tryz.results97, go_sem]) rfl ⟨_, _, _, rfl, HF.out⟩
  · obtain ⟨rfl, rfl⟩ : L = R ∧ 9 = q := by
      rw [if_neg (by decide), if_pos rfl] at HR1
      cases HR1
      exact ⟨rfl, rfl⟩
    clear HR1 CF
    go_enter Tryz.func97, Tryz.ntmps97
    go_wp2_with fail
    refine CK.mono ?_
    rintro e w1 ⟨rfl, hb1⟩
    have B1 : Hid (Below w.heap.size w w1) := hb1
    clear hb1 CK
    go_wp2_with fail
    exact bodyPost_ret (v := .tuple #[.slice (some ⟨b, o, none⟩) n c, .int .i64 9]) (by simp [results, Tryz.results97, go_sem]) rfl ⟨_, _, _, rfl, HLN.out.1, HLN.out.2.below B1.out, B1.out⟩
/-- Of the first k pairs those whose keys are others. -/
def dropTo (f g : Nat → ByteArray) (key : ByteArray) (k : Nat) : List (ByteArray × ByteArray) := ((List.range k).filter fun i => (f i).toList != key.toList).map fun i => (f i, g i)
theorem dropTo_hit (f g : Nat → ByteArray) (key : ByteArray) (k : Nat) (h : ((f k).toList != key.toList) = true) : dropTo f g key (k + 1) = dropTo f g key k ++ [(f k, g k)] := by
  simp [dropTo, List.range_succ, List.filter_append, h]
theorem dropTo_miss (f g : Nat → ByteArray) (key : ByteArray) (k : Nat) (h : ((f k).toList != key.toList) = false) : dropTo f g key (k + 1) = dropTo f g key k := by
  simp [dropTo, List.range_succ, List.filter_append, h]
theorem dropTo_le (f g : Nat → ByteArray) (key : ByteArray) (k : Nat) : (dropTo f g key k).length ≤ k := by
  unfold dropTo
  rw [List.length_map]
  have := List.length_filter_le (fun i => (f i).toList != key.toList) (List.range k)
  rw [List.length_range] at this
  exact this
set_option maxHeartbeats 1000000 in
theorem l01Drop (a : Option Addr) (n c : Nat) (f g : Nat → ByteArray) (key : ByteArray) (w : World) (hn : n ≤ 4096) (h : Sp w a n f g) :
    Calls Tryz.prog 96 #[.slice a n c, .string key] w fun e w' => ∃ v, e = .returned v ∧ OwnsP w' w.heap.size v (dropTo f g key n) ∧ Below w.heap.size w w' := by
  obtain ⟨i0, hi, hz0, hz1, hz2⟩ := infoPair'
  have HH : Hid (Sp w a n f g) := h
  have HI : Hid (Tryz.prog.info? 68 = some i0) := hi
  have HZ0 : Hid (i0.zero = some (.agg #[.string ⟨#[]⟩, .string ⟨#[]⟩])) := hz0
  have HZ1 : Hid (i0.size = 2) := hz1
  have HZ2 : Hid (i0.bytes = 32) := hz2
  clear h hi hz0 hz1 hz2
  go_enter Tryz.func96, Tryz.ntmps96
  go_wp2_with fail
  go_loopw [5, 6] (fun v i wr => ∃ k : Nat, k ≤ n ∧ i = .int .i64 k ∧ Hid (OwnsP wr w.heap.size v (dropTo f g key k)) ∧ Hid (Below w.heap.size w wr)) (fun _ i _ => n - (RowKit.intOf i).toNat)
  case atStart => exact ⟨0, by omega, rfl, OwnsP.made w _ (Nat.le_refl _), (Below.refl _ _).alloc (Nat.le_refl _) _⟩
  case round =>
    obtain ⟨k, hk, rfl, ho, hb⟩ := hrel
    by_cases hlt : k < n
    · rcases HH.out.below hb.out with h1 | ⟨b, off, rfl, hc⟩
      · omega
      obtain ⟨hc1, hc2⟩ := hc k hlt
      clear hc
      cases hbg : ((f k).toList == key.toList) with
      | true =>
        have E : Hid (dropTo f g key (k + 1) = dropTo f g key k) := dropTo_miss f g key k (by rw [bne, hbg]; rfl)
        go_wp2_with fail
        exact ⟨⟨k + 1, by omega, by go_num, by rw [E.out]; exact ho, hb⟩, by simp [RowKit.intOf]; omega⟩
      | false =>
        have E : Hid (dropTo f g key (k + 1) = dropTo f g key k ++ [(f k, g k)]) := dropTo_hit f g key k (by rw [bne, hbg]; rfl)
        have hle := dropTo_le f g key k
        go_wp2_with (at_builtin; refine wpList_append_own _ rfl _ _ 23 rfl w.heap.size 68 i0 (.agg #[.string ⟨#[]⟩, .string ⟨#[]⟩]) 2 32 Tryz.underlying23 HI.out HZ0.out HZ1.out HZ2.out rfl (by decide) _ _ _ rfl (ho.out.alloc _) ⟨wr.heap.size, 0, none⟩ 1 1 [.string (f k), .string (g k)] rfl rfl (two_newP wr (f k) (g k)) (two_oneP (f k) (g k)) ?c3 ?c4 (le_alloc hb.out.size _) ?_)
        case c3 => unfold maxLen; omega
        case c4 => omega
        intro v' w1 hown hgrow _
        have HO : Hid (OwnsP w1 w.heap.size v' (dropTo f g key (k + 1))) := by
          show OwnsP w1 w.heap.size v' (dropTo f g key (k + 1))
          rw [E.out]
          exact OwnsP.one hown
        have HB1 : Hid (Below w.heap.size w w1) := (hb.out.alloc hb.out.size _).grown hgrow (le_alloc hb.out.size _) ho.out.block
        clear hown hgrow
        go_wp2_with fail
        exact ⟨⟨k + 1, by omega, by go_num, HO, HB1⟩, by simp [RowKit.intOf]; omega⟩
    · have hkn : k = n := by omega
      subst hkn
      go_wp2_with fail
      go_ret
      exact ⟨_, rfl, ho.out, hb.out⟩

theorem dropTo_is (L : List PM) (k : ByteArray) : ∀ n, n ≤ L.length → dropTo (fK L) (fV L) k n = notK k (L.take n)
  | 0, _ => by simp [dropTo, notK]
  | n + 1, h => by
    have ih := dropTo_is L k n (by omega)
    have hn : n < L.length := by omega
    rw [notK_take k L n hn, ← ih]
    by_cases e : (L.getD n p0).1 = k
    · rw [if_pos e, List.append_nil]
      exact dropTo_miss _ _ _ _ (by show ((L.getD n p0).1.toList != k.toList) = false; rw [e]; simp)
    · rw [if_neg e]
      exact dropTo_hit _ _ _ _ (by show ((L.getD n p0).1.toList != k.toList) = true; simpa using fun h9 => e (toList_inj h9))
theorem l01DropM (a : Option Addr) (n c : Nat) (L : List PM) (key : ByteArray) (w : World) (hL : L.length = n) (hn : n ≤ 4096) (h : Src w a (cellsP L)) :
    Calls Tryz.prog 96 #[.slice a n c, .string key] w fun e w' => ∃ a2 n2 c2, e = .returned (.slice a2 n2 c2) ∧ (notK key L).length = n2 ∧ Src w' a2 (cellsP (notK key L)) ∧ Below w.heap.size w w' := by
  refine (l01Drop a n c (fK L) (fV L) key w hn (sp_src h hL)).mono ?_
  rintro e w' ⟨v, rfl, ho, hb⟩
  have e1 : dropTo (fK L) (fV L) key n = notK key L := by
    rw [dropTo_is L key n (by omega), List.take_of_length_le (by omega)]
  rw [e1] at ho
  have ho2 : w'.ownsRow w.heap.size 68 2 v (notK key L).length (cellsP (notK key L)) := ho
  obtain ⟨a2, c2, rfl, hs, _⟩ := own_src ho2
  exact ⟨a2, _, c2, rfl, rfl, hs, hb⟩
theorem l01DropN (a : Option Addr) (n c : Nat) (L : List PM) (key : ByteArray) (w : World) (hL : L.length = n) (hn : n ≤ 4096) (h : Src w a (cellsP L)) :
    Calls Tryz.prog 96 #[.slice a n c, .string key] w fun e w' => ∃ a2 n2 c2, e = .returned (.slice a2 n2 c2) ∧ LenC (notK key L) n2 c2 ∧ Src w' a2 (cellsP (notK key L)) ∧ Below w.heap.size w w' := by
  refine (l01Drop a n c (fK L) (fV L) key w hn (sp_src h hL)).mono ?_
  rintro e w' ⟨v, rfl, ho, hb⟩
  have e1 : dropTo (fK L) (fV L) key n = notK key L := by
    rw [dropTo_is L key n (by omega), List.take_of_length_le (by omega)]
  rw [e1] at ho
  have ho2 : w'.ownsRow w.heap.size 68 2 v (notK key L).length (cellsP (notK key L)) := ho
  obtain ⟨a2, c2, rfl, hs, _⟩ := own_src ho2
  exact ⟨a2, _, c2, rfl, ⟨rfl, own_capx ho2⟩, hs, hb⟩
theorem under_is (L : List PM) (k : ByteArray) : ∀ n, n ≤ L.length → under (fK L) (fV L) k n = (L.take n).filter fun x => beginsB x.1 k := by
  intro n
  induction n with
  | zero => intro _; rfl
  | succ n ih =>
    intro hn
    have h1 := ih (by omega)
    have hlt : n < L.length := by omega
    rw [List.take_add_one, List.getElem?_eq_getElem hlt, List.filter_append]
    cases hb : beginsB (fK L n) k with
    | true =>
      rw [under_hit _ _ _ _ hb, h1, (at_fst hlt).1, (at_fst hlt).2]
      rw [(at_fst hlt).1] at hb
      simp [hb]
    | false =>
      rw [under_miss _ _ _ _ hb, h1]
      rw [(at_fst hlt).1] at hb
      simp [hb]
abbrev preK (u f : ByteArray) : ByteArray := (((⟨#[109, 47]⟩ ++ u) ++ ⟨#[47]⟩) ++ f) ++ ⟨#[47]⟩
theorem preK_data (u f : ByteArray) : (preK u f).data.toList = 109 :: 47 :: (u.data.toList ++ 47 :: (f.data.toList ++ [47])) := by
  simp [ByteArray.data_append]
theorem preK_size (u f : ByteArray) : (preK u f).size = u.size + f.size + 4 := by
  rw [ByteArray.size_append, ByteArray.size_append, ByteArray.size_append, ByteArray.size_append]
  show 2 + u.size + 1 + f.size + 1 = _
  omega
set_option maxHeartbeats 1000000 in
theorem l07MailsS (u f : ByteArray) (w : World) (hu : u.size ≤ 1000) (hf : f.size ≤ 1000) : Calls Tryz.prog 135 #[.string u, .string f] w fun e w' => e = .returned (.string (preK u f)) ∧ w' = w := by
  go_enter Tryz.func135, Tryz.ntmps135
  go_wp2_with fail
  go_ret
  exact ⟨rfl, rfl⟩
/-- What is left where the first mails are gone. -/
def lessTo (L U : List PM) (j : Nat) : List PM := L.filter fun p => (U.take j).all fun x => decide (p.1 ≠ x.1)
theorem less_step (L U : List PM) (j : Nat) (hj : j < U.length) : notK (U.getD j p0).1 (lessTo L U j) = lessTo L U (j + 1) := by
  unfold lessTo notK
  rw [List.filter_filter, List.take_add_one, List.getD_eq_getElem?_getD, List.getElem?_eq_getElem hj]
  refine List.filter_congr fun p _ => ?_
  simp only [Option.toList_some, Option.getD_some, List.all_append, List.all_cons, List.all_nil, Bool.and_true]
  rw [Bool.and_comm]
def emptyR (L : List PM) (u f : ByteArray) : List PM := L.filter fun p => !beginsB p.1 (preK u f)
theorem less_end (L : List PM) (k : ByteArray) : lessTo L (L.filter fun x => beginsB x.1 k) (L.filter fun x => beginsB x.1 k).length = L.filter fun p => !beginsB p.1 k := by
  unfold lessTo
  rw [List.take_of_length_le (Nat.le_refl _)]
  refine List.filter_congr fun p hp => ?_
  rw [Bool.eq_iff_iff, List.all_eq_true]
  constructor
  · intro h
    cases hb : beginsB p.1 k with
    | false => rfl
    | true => exact absurd rfl (of_decide_eq_true (h p (List.mem_filter.2 ⟨hp, hb⟩)))
  · intro h x hx
    refine decide_eq_true fun e => ?_
    have hb := (List.mem_filter.1 hx).2
    rw [← e] at hb
    rw [hb] at h
    cases h
theorem less_len (L U : List PM) (j : Nat) : (lessTo L U j).length ≤ L.length := List.length_filter_le _ _
set_option maxHeartbeats 2000000 in
theorem l07EmptyS (a : Option Addr) (n c : Nat) (L : List PM) (hL : L.length = n) (hg : GoodL L) (u f : ByteArray) (hus : u.size ≤ 1000) (hfs : f.size ≤ 1000) (w : World) (h : Src w a (cellsP L)) :
    Calls Tryz.prog 108 #[.slice a n c, .string u, .string f] w fun e w' => ∃ a2 n2 c2, e = .returned (.slice a2 n2 c2) ∧ (emptyR L u f).length = n2 ∧ Src w' a2 (cellsP (emptyR L u f)) ∧ Below w.heap.size w w' := by
  have hn60 := hg.1
  rw [hL] at hn60
  have CM := fun W => l07MailsS u f W hus hfs
  have hpz := preK_size u f
  have CU := fun W (hW : Below w.heap.size w W) => l01Under a n c (fK L) (fV L) (preK u f) W (by omega) (by omega) (fun i hi => by
    have hi2 : i < L.length := by omega
    obtain ⟨e1, e2⟩ := at_fst hi2
    rw [e1, e2]
    have := hg.2.1 _ (List.getElem_mem hi2)
    omega) (sp_src (h.below hW) hL)
  have eU : under (fK L) (fV L) (preK u f) n = L.filter fun x => beginsB x.1 (preK u f) := by
    rw [under_is L (preK u f) n (by omega), List.take_of_length_le (by omega)]
  simp only [eU] at CU
  have HE : Hid (lessTo L (L.filter fun x => beginsB x.1 (preK u f)) (L.filter fun x => beginsB x.1 (preK u f)).length = emptyR L u f) := less_end L (preK u f)
  have hul : (L.filter fun x => beginsB x.1 (preK u f)).length ≤ L.length := List.length_filter_le _ _
  obtain ⟨U, hU⟩ : ∃ t, (L.filter fun x => beginsB x.1 (preK u f)) = t := ⟨_, rfl⟩
  simp only [hU] at CU
  rw [hU] at HE hul
  obtain ⟨m, hm⟩ : ∃ t, U.length = t := ⟨_, rfl⟩
  rw [hm] at HE hul
  have hmb : m ≤ 60 := by rw [hL] at hul; omega
  have HUM : Hid (U.length = m) := hm
  obtain ⟨KP, hKP⟩ : ∃ t, preK u f = t := ⟨_, rfl⟩
  simp only [hKP] at CM CU
  have HLN : Hid (L.length = n) := hL
  have HLL : Hid (∀ j, (lessTo L U j).length ≤ n) := fun j => by rw [← hL]; exact less_len L U j
  have H0 : Hid ((lessTo L U 0).length = n ∧ Src w a (cellsP (lessTo L U 0))) := by
    have e : lessTo L U 0 = L := by
      unfold lessTo
      rw [List.filter_eq_self]
      intro p _
      rfl
    rw [e]
    exact ⟨hL, h⟩
  obtain ⟨ER, hER⟩ : ∃ t, emptyR L u f = t := ⟨_, rfl⟩
  rw [hER] at HE ⊢
  clear hL hg h eU hU hm hKP hpz hER hul
  go_enter Tryz.func108, Tryz.ntmps108
  go_wp2_with fail
  refine (CM _).mono ?_
  rintro e w1 ⟨rfl, hw1⟩
  obtain rfl := hw1
  clear CM
  go_wp2_with fail
  refine (CU _ (Below.refl _ _)).mono ?_
  rintro e w2 ⟨v2, rfl, ho2, hb2⟩
  have ho3 : w2.ownsRow w1.heap.size 68 2 v2 U.length (cellsP U) := ho2
  rw [HUM.out] at ho3
  obtain ⟨au, cu, rfl, hsu, _⟩ := own_src ho3
  have B2 : Hid (Below w1.heap.size w1 w2) := hb2
  have HSU : Hid (Src w2 au (cellsP U)) := hsu
  clear CU ho2 ho3 hb2 hsu
  go_wp2_with fail
  go_loopw [8, 9] (fun v iv wr => ∃ (j n' : Nat) (a' : Option Addr) (c' : Nat), j ≤ m ∧ n' ≤ n ∧ v = .slice a' n' c' ∧ iv = .int .i64 (j : Int) ∧ Hid ((lessTo L U j).length = n') ∧ Hid (Src wr a' (cellsP (lessTo L U j))) ∧ Hid (Below w1.heap.size w1 wr) ∧ Hid (Below w2.heap.size w2 wr)) (fun _ i _ => m - (RowKit.intOf i).toNat)
  case atStart => exact ⟨0, n, a, c, Nat.zero_le _, Nat.le_refl _, rfl, rfl, H0.out.1, H0.out.2.below B2.out, B2.out, Below.refl _ _⟩
  case round =>
    obtain ⟨j, n', a', c', hj, hn', rfl, rfl, hl, hs, hbr, hb2r⟩ := hrel
    by_cases hlt : j < m
    · have hltj : (j : Int) < (m : Int) := by omega
      have hjl : j < U.length := by rw [HUM.out]; exact hlt
      obtain ⟨b, o, x, y, rfl, e0, e1, hx⟩ := srcP (HSU.out.below hb2r.out) hjl
      have CD := l01DropM a' n' c' (lessTo L U j) x wr hl.out (by omega) hs.out
      have hstep := less_step L U j hjl
      rw [hx.out] at hstep
      rw [hstep] at CD
      have hln := HLL.out (j + 1)
      clear hstep hx hl hs
      go_wp2_with fail
      refine CD.mono ?_
      rintro e w4 ⟨a4, n4, c4, rfl, k1, k2, hb4⟩
      have HF : Hid ((lessTo L U (j + 1)).length = n4 ∧ Src w4 a4 (cellsP (lessTo L U (j + 1))) ∧ Below w1.heap.size w1 w4 ∧ Below w2.heap.size w2 w4) := ⟨k1, k2, hbr.out.trans (hb4.mono hbr.out.size), hb2r.out.trans (hb4.mono hb2r.out.size)⟩
      have hn4 : n4 ≤ n := by omega
      have hm60 : m ≤ 60 := hmb
      clear CD k1 k2 hb4
      go_wp2_with fail
      exact ⟨⟨j + 1, n4, a4, c4, by omega, hn4, rfl, by go_num, HF.out⟩, by simp [RowKit.intOf]; omega⟩
    · obtain rfl : j = m := by omega
      have hltj : ¬ (j : Int) < (j : Int) := by omega
      have HF : Hid (ER.length = n' ∧ Src wr a' (cellsP ER) ∧ Below w1.heap.size w1 wr) := by
        have e9 := HE.out
        rw [← e9]
        exact ⟨hl.out, hs.out, hbr.out⟩
      clear hl hs
      go_wp2_with fail
      go_ret
      exact ⟨a', n', ⟨c', rfl⟩, HF.out⟩
def dropR (L : List PM) (u f : ByteArray) : List PM × Int := if knownR L u f ≠ 0 then (L, knownR L u f) else if f = inboxT then (L, 11) else (notK (folderK u f) (emptyR L u f), 0)
set_option maxHeartbeats 2000000 in
theorem l07DropFolderC (b o n c : Nat) (L : List PM) (hL : L.length = n) (hc : n ≤ c) (hc9 : c ≤ maxLen) (hg : GoodL L) (u f : ByteArray) (hus : u.size ≤ 8) (hfs : f.size ≤ 8) (n0 : 0 ≤ nextM L) (w : World) (h : Src w (some ⟨b, o, none⟩) (cellsP L)) (R : List PM) (q : Int) (HR : Hid (dropR L u f = (R, q))) :
    Calls Tryz.prog 98 #[.slice (some ⟨b, o, none⟩) n c, .string u, .string f] w fun e w' => ∃ a2 n2 c2, e = .returned (.tuple #[.slice a2 n2 c2, .int .i64 q]) ∧ LenC R n2 c2 ∧ Src w' a2 (cellsP R) ∧ Below w.heap.size w w' := by
  have hn60 := hg.1
  rw [hL] at hn60
  have HLN : Hid (LenC L n c ∧ Src w (some ⟨b, o, none⟩) (cellsP L)) := ⟨⟨hL, hc, hc9⟩, h⟩
  have CK := l07KnownS (some ⟨b, o, none⟩) n c L hL hg u f (by omega) (by omega) w h _ rfl
  have CE := fun W (hW : Below w.heap.size w W) => l07EmptyS (some ⟨b, o, none⟩) n c L hL hg u f (by omega) (by omega) W (h.below hW)
  have CF := fun W => l07FolderS u f W (by omega) (by omega)
  have hel : (emptyR L u f).length ≤ n := by rw [← hL]; exact List.length_filter_le _ _
  have CD := fun (a2 : Option Addr) (n2 c2 : Nat) (W : World) (k1 : (emptyR L u f).length = n2) (k2 : Src W a2 (cellsP (emptyR L u f))) => l01DropN a2 n2 c2 (emptyR L u f) (folderK u f) W k1 (by omega) k2
  have HR1 := HR.out
  unfold dropR at HR1
  obtain ⟨kk, hkk⟩ : ∃ t, knownR L u f = t := ⟨_, rfl⟩
  rw [hkk] at CK HR1
  obtain ⟨ER, hER⟩ : ∃ t, emptyR L u f = t := ⟨_, rfl⟩
  simp only [hER] at CE CD hel
  rw [hER] at HR1
  obtain ⟨KF, hKF⟩ : ∃ t, folderK u f = t := ⟨_, rfl⟩
  simp only [hKF] at CF CD
  rw [hKF] at HR1
  clear hL h hg HR hkk n0 hER hKF
  by_cases hk : kk = 0
  · subst hk
    rw [if_neg (by simp)] at HR1
    by_cases hi : f = inboxT
    · rw [if_pos hi] at HR1
      cases HR1
      have hib : (f.toList == [105, 110, 98, 111, 120]) = true := by rw [hi, ByteArray.toList_eq]; rfl
      clear CE CF CD hi
      go_enter Tryz.func98, Tryz.ntmps98
      go_wp2_with fail
      refine CK.mono ?_
      rintro e w1 ⟨rfl, hb1⟩
      have B1 : Hid (Below w.heap.size w w1) := hb1
      clear hb1 CK
      go_wp2_with fail
      exact bodyPost_ret (v := .tuple #[.slice (some ⟨b, o, none⟩) n c, .int .i64 11]) (by simp [results, Tryz.results98, go_sem]) rfl ⟨_, _, _, rfl, HLN.out.1, HLN.out.2.below B1.out, B1.out⟩
    · rw [if_neg hi] at HR1
      have HRQ : Hid (notK KF ER = R ∧ 0 = q) := by cases HR1; exact ⟨rfl, rfl⟩
      have hib : (f.toList == [105, 110, 98, 111, 120]) = false := by
        refine beq_eq_false_iff_ne.2 fun e => hi ?_
        refine bs_inj ?_
        rw [← ByteArray.toList_eq, e]
      clear HR1 hi
      go_enter Tryz.func98, Tryz.ntmps98
      go_wp2_with fail
      refine CK.mono ?_
      rintro e w1 ⟨rfl, hb1⟩
      have B1 : Hid (Below w.heap.size w w1) := hb1
      have CE1 := CE w1 hb1
      clear hb1 CK CE
      go_wp2_with fail
      refine CE1.mono ?_
      rintro e w2 ⟨a2, n2, c2, rfl, k1, k2, hb2⟩
      have B2 : Hid (Below w.heap.size w w2) := B1.out.trans (hb2.mono B1.out.size)
      have CD2 := CD a2 n2 c2 w2 k1 k2
      clear CE1 hb2 k1 k2 CD
      go_wp2_with fail
      refine (CF _).mono ?_
      rintro e w3 ⟨rfl, hw3⟩
      obtain rfl := hw3
      clear CF
      go_wp2_with fail
      refine CD2.mono ?_
      rintro e w4 ⟨a4, n4, c4, rfl, k1, k2, hb4⟩
      have HF : Hid (LenC R n4 c4 ∧ Src w4 a4 (cellsP R) ∧ Below w.heap.size w w4) := by
        rw [← HRQ.out.1]
        exact ⟨k1, k2, B2.out.trans (hb4.mono B2.out.size)⟩
      have HQ0 : Hid (0 = q) := HRQ.out.2
      clear CD2 k1 k2 hb4
      go_wp2_with fail
      exact bodyPost_ret (v := .tuple #[.slice a4 n4 c4, .int .i64 0]) (by simp [results, Tryz.results98, go_sem]) rfl ⟨_, _, _, by rw [HQ0.out], HF.out⟩
  · rw [if_pos hk] at HR1
    obtain ⟨rfl, rfl⟩ : L = R ∧ kk = q := by cases HR1; exact ⟨rfl, rfl⟩
    have hki : (kk != 0) = true := by simpa using hk
    clear CE CF CD
    go_enter Tryz.func98, Tryz.ntmps98
    go_wp2_with fail
    refine CK.mono ?_
    rintro e w1 ⟨rfl, hb1⟩
    have B1 : Hid (Below w.heap.size w w1) := hb1
    clear hb1 CK
    go_wp2_with fail
    exact bodyPost_ret (v := .tuple #[.slice (some ⟨b, o, none⟩) n c, .int .i64 kk]) (by simp [results, Tryz.results98, go_sem]) rfl ⟨_, _, _, rfl, HLN.out.1, HLN.out.2.below B1.out, B1.out⟩
end Go.Proofs.YthgbclipknfmjaaGreatDoor
