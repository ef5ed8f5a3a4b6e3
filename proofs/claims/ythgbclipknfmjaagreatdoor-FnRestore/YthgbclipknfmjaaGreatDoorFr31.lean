/-
  Rsi Rsf in one. By an AI agent.
-/
import Derived.Test.YthgbclipknfmjaaGreatDoorFr30
namespace Go.Proofs.YthgbclipknfmjaaGreatDoor
open Go.ChangeShapes Go.WideShapes Go.ChangeAt Go.RowKit Go.Deep Go.Lib
set_option linter.unusedVariables false
set_option linter.unusedSimpArgs false
set_option maxRecDepth 100000

theorem desk_box {w : World} {M B : Nat} {D : DK} (h : DeskAt w M D) (hk : KindAt w B 28) (hB : B ≠ M) (hB1 : B ≠ M + 1) (i : Nat) (v : Value) : DeskAt (w.setCell ⟨B, i, none⟩ v) M D := by
  obtain ⟨k1, ⟨cl, k2⟩, k3, k4⟩ := h
  have hk' : ∃ c f, w.heap[B]? = some (.cells c 28 f) := hk
  exact ⟨k1.other _ (by show M + 1 ≠ B; omega) _, ⟨cl, k2.setCell _ _ (by show M ≠ B; omega)⟩, own_setOther k3 (own_notkind (g := B) (e' := 28) k3 hk' (by decide)) _, fun x hx => own_setOther (k4.1 x hx) (own_notkind (g := B) (e' := 28) (k4.1 x hx) hk' (by decide)) _, k4.2⟩
theorem own_box {w : World} {base s n B : Nat} {v : Value} {xs : List Value} (h : w.ownsRow base 37 s v n xs) (hk : KindAt w B 28) (i : Nat) (u : Value) : (w.setCell ⟨B, i, none⟩ u).ownsRow base 37 s v n xs := by
  have hk' : ∃ c f, w.heap[B]? = some (.cells c 28 f) := hk
  exact own_setOther h (own_notkind (g := B) (e' := 28) h hk' (by decide)) _
set_option maxHeartbeats 1000000 in
theorem fullI (w : World) (M : Nat) (a : Option Addr) (n c : Nat) (nx : Int) (u : ByteArray) (S : SM) (k0 : Nat) (hS : StAt w M a n c nx u S k0) (hu : u.size ≤ 1000) (hn0 : 0 ≤ nx) (hn1 : nx ≤ 10000) (hF : ∀ f ∈ S.fs, FitF f) (hk : k0 ≤ 1000) (hg : Gl w) (h8 : 8 ≤ M) (Y : List PM) (hY : UpL Y) (hP : (deskP nx u S).Perm Y) (ny : Nat) (hny : Y.length = ny) (hl : ny ≤ 4000) (b : Bool) (hb : decide ((60 : Int) < (ny : Int)) = b) :
    Calls Tryz.prog 87 #[.pointer (some ⟨M + 1, 0, none⟩)] w fun e w' => e = .returned (.bool b) ∧ Below w.heap.size w w' := by
  have C1 := pairsI w M a n c nx u S k0 hS hu hn0 hn1 hF hk hg h8 Y hY hP ny hny hl
  have HB : Hid (decide ((60 : Int) < (ny : Int)) = b) := hb
  clear hS hF hY hP hny hb hg
  go_enter Tryz.func87, Tryz.ntmps87
  go_wp2_with fail
  refine C1.mono ?_
  rintro e w1 ⟨g, cap, rfl, ho, hb1⟩
  have B1 : Hid (Below w.heap.size w w1) := hb1
  clear ho hb1 C1
  go_wp2_with fail
  go_ret
  exact ⟨by rw [← HB.out]; rfl, B1.out⟩
theorem StAt.more {w : World} {M : Nat} {a : Option Addr} {n c : Nat} {nx : Int} {u : ByteArray} {S : SM} {k l : Nat} (h : StAt w M a n c nx u S k) (hk : k ≤ l) : StAt w M a n c nx u S l := by
  obtain ⟨va, X, h1, h2, h3, h4, h5⟩ := h
  exact ⟨va, X, h1, h2, h3, fun f hf => by have := h4 f hf; omega, by omega⟩
/-- What a restored folder leaves on the desk, told row by row. -/
def RestPost (q : Int) (w' : World) (M : Nat) (a : Option Addr) (n c : Nat) (nx' : Int) (u : ByteArray) (S' : SM) (k : Nat) (X : List FX) (v : Value) : Prop :=
  q = 0 → ∃ va X', DeskAt w' M ⟨a, n, c, va, S'.aside, nx', u, S'.word, X'⟩ ∧ View u X' S'.fs ∧ (S'.fs.map (·.name)).Nodup ∧ (∀ f ∈ S'.fs, 1 ≤ f.next ∧ f.next ≤ 999 ∧ f.mails.length ≤ k) ∧ S'.aside.length ≤ k ∧ ∀ z ∈ X', ∀ y, z.v.ownBlock = some y → (∃ z0 ∈ X, z0.v.ownBlock = some y) ∨ v.ownBlock = some y
theorem RestPost.bad {q : Int} {w' : World} {M : Nat} {a : Option Addr} {n c : Nat} {nx' : Int} {u : ByteArray} {S' : SM} {k : Nat} {X : List FX} {v : Value} (h : q ≠ 0) : RestPost q w' M a n c nx' u S' k X v := fun h9 => absurd h9 h
set_option maxHeartbeats 8000000 in
theorem restoreI (w : World) (M : Nat) (a : Option Addr) (n c : Nat) (nx : Int) (u : ByteArray) (S : SM) (k : Nat) (va : Value) (X : List FX) (hD : DeskAt w M ⟨a, n, c, va, S.aside, nx, u, S.word, X⟩) (hV : View u X S.fs) (hN : (S.fs.map (·.name)).Nodup) (hf : ∀ f ∈ S.fs, 1 ≤ f.next ∧ f.next ≤ 999 ∧ f.mails.length ≤ k) (hk : S.aside.length ≤ k) (hkk : k ≤ 1000)
    (g : FM) (nm : ByteArray) (gn gv : Int) (ax : Option Addr) (ml cx : Nat) (Ms : List MMl) (hgm : g = ⟨nm, g.val, gn, Ms⟩) (hml : Ms.length = ml) (hgb : 1 ≤ gn ∧ gn ≤ 999 ∧ ml ≤ k) (hrow : w.ownsRow (M + 2) 37 3 (.slice ax ml cx) ml (cellsMl Ms)) (hap : ∀ z ∈ X, ∀ y, z.v.ownBlock = some y → Value.ownBlock (.slice ax ml cx) ≠ some y)
    (N : List PM) (hl : Lies N nx u S) (hN6 : N.length ≤ 60) (hus : (47 : UInt8) ∉ u.data.toList) (hu : u.size ≤ 1000) (hgs : (47 : UInt8) ∉ nm.data.toList) (hgz : nm.size ≤ 1000) (hM : (Ms.map (mailP u nm)).Pairwise (fun a b => a.1 ≠ b.1)) (hfit : ∀ f ∈ S.fs, FitF f) (hgf : ∀ m ∈ Ms, 0 ≤ m.1 ∧ m.1 < 1000 ∧ 0 ≤ m.2.1 ∧ m.2.1 ≤ 3 ∧ m.2.2.size ≤ 1000) (n0 : 0 ≤ nx) (n1 : nx ≤ 10000) (hG : Gl w) (h8 : 8 ≤ M) (q nx' : Int) (S' : SM) (HQ : Hid (rsM nx u S g = (q, nx', S'))) :
    Calls Tryz.prog 103 #[.pointer (some ⟨M + 1, 0, none⟩), .agg #[.string nm, .int .i64 gv, .int .i64 gn, .slice ax ml cx]] w fun e w' => e = .returned (.int .i64 q) ∧ StAt w' M a n c nx' u S' k ∧ Below M w w' ∧ Keep M w w' ∧ RestPost q w' M a n c nx' u S' k X (.slice ax ml cx) := by
  have hM1 : M + 1 < w.heap.size := World.block_lt_of_cell? _ _ (hD.1 0 _ rfl).1
  have h1 := lies_fresh (next := gn) (f := nm) hl hus hgs
  have h2 := lies_mails h1 hus hgs hM
  obtain ⟨Y1, hY1⟩ : ∃ Y, insL (folderK u nm) (metaT nx gn) (insL vK (bs (itoa (nx + 1))) (emptyR N u nm)) = Y := ⟨_, rfl⟩
  have l1 : Y1.length ≤ 62 := by
    have u1 : UpL (emptyR N u nm) := hl.up.sublist List.filter_sublist
    have a1 := (ins_len (k := vK) (v := bs (itoa (nx + 1))) u1).1
    have a2 := (ins_len (k := folderK u nm) (v := metaT nx gn) (ins_up (k := vK) (v := bs (itoa (nx + 1))) u1)).1
    have a3 : (emptyR N u nm).length ≤ N.length := List.length_filter_le _ _
    rw [← hY1]
    omega
  rw [hY1] at h1 h2
  have l2 := insAll_len (Ms.map (mailP u nm)) h1.up
  rw [List.length_map, hml] at l2
  obtain ⟨Y2, hY2⟩ : ∃ Y, insAll (Ms.map (mailP u nm)) Y1 = Y := ⟨_, rfl⟩
  rw [hY2] at h2 l2
  obtain ⟨S1, hS1⟩ : ∃ T : SM, ⟨S.aside, S.word, putF ⟨nm, nx, gn, []⟩ S.fs⟩ = T := ⟨_, rfl⟩
  obtain ⟨S2, hS2⟩ : ∃ T : SM, ⟨S.aside, S.word, putF ⟨nm, nx, gn, Ms⟩ S.fs⟩ = T := ⟨_, rfl⟩
  rw [hS1] at h1
  rw [hS2] at h2
  obtain ⟨y1, hy1⟩ : ∃ t, Y1.length = t := ⟨_, rfl⟩
  obtain ⟨y2, hy2⟩ : ∃ t, Y2.length = t := ⟨_, rfl⟩
  obtain ⟨t2, ht2⟩ : ∃ t, sumF S2.fs = t := ⟨_, rfl⟩
  have ht9 : t2 ≤ 2000 := by
    have h9 := lies_count h2 hus
    rw [ht2] at h9
    have h8 : countM Y2 u ≤ Y2.length := List.length_filter_le _ _
    omega
  have HQ1 : Hid ((if 9999 < nx then (6, nx, S) else if 60 < y1 then (7, nx + 1, S1) else if 6 < t2 then (12, nx + 1, S2) else if 60 < y2 then (7, nx + 1, S2) else (0, nx + 1, S2)) = (q, nx', S')) := by
    have h9 := HQ.out
    unfold rsM at h9
    have e1 : S1F nx S g = S1 := by rw [← hS1, hgm]
    have e2 : S2F nx S g = S2 := by rw [← hS2, hgm]
    rw [e1, e2, ← h1.pm.length_eq, ← h2.pm.length_eq, hy1, hy2, ht2] at h9
    exact h9
  rw [hy1] at l1
  rw [hy1, hy2] at l2
  have hfs1 : ∀ f ∈ S1.fs, FitF f := fun f hf9 => by
    rw [← hS1] at hf9
    rcases putF_mem hf9 with hf9 | rfl
    · exact hfit f hf9
    · exact ⟨n0, n1, by show 0 ≤ gn; omega, by show gn ≤ 10000; omega, hgz, fun m hm => by cases hm⟩
  have hfs2 : ∀ f ∈ S2.fs, FitF f := fun f hf9 => by
    rw [← hS2] at hf9
    rcases putF_mem hf9 with hf9 | rfl
    · exact hfit f hf9
    · exact ⟨n0, n1, by show 0 ≤ gn; omega, by show gn ≤ 10000; omega, hgz, hgf⟩
  obtain ⟨w1, hw1⟩ : ∃ W, w.alloc (.cells #[.string nm, .int .i64 gv, .int .i64 gn, .slice none 0 0] 28) = W := ⟨_, rfl⟩
  have A1 : Below w.heap.size w w1 := by rw [← hw1]; exact (Below.refl _ _).alloc (Nat.le_refl _) _
  have X1 : Box w1 w.heap.size [.string nm, .int .i64 gv, .int .i64 gn, .slice none 0 0] := by rw [← hw1]; exact Box.new rfl
  have K1 : KindAt w1 w.heap.size 28 := by
    rw [← hw1]
    exact ⟨_, _, Array.getElem?_push_size⟩
  have D1 := hD.later A1
  have CF := freshY nm gv gn none 0 0 [] rfl w1 M a n c va S.aside nx u S.word X S.fs D1 hV hN hu hgz n0 n1 (World.ownsRow_nil _ _ _ _) (fun z _ _ y _ h9 => by cases h9)
  have HX1 : Hid (Box w1 w.heap.size [.string nm, .int .i64 gv, .int .i64 gn, .slice none 0 0] ∧ KindAt w1 w.heap.size 28 ∧ w1.ownsRow (M + 2) 37 3 (.slice ax ml cx) ml (cellsMl Ms) ∧ Below M w w1 ∧ Keep M w w1) := ⟨X1, K1, own_below hrow A1, A1.mono (by omega), Keep.of_below A1⟩
  have HST : Hid (View u X S.fs ∧ (S.fs.map (·.name)).Nodup ∧ (∀ f ∈ S.fs, 1 ≤ f.next ∧ f.next ≤ 999 ∧ f.mails.length ≤ k) ∧ S.aside.length ≤ k) := ⟨hV, hN, hf, hk⟩
  have HAP : Hid (∀ z ∈ X, ∀ y, z.v.ownBlock = some y → Value.ownBlock (.slice ax ml cx) ≠ some y) := hap
  have HG : Hid (Gl w) := hG
  have CFU1 : Hid (∀ W, ¬ 9999 < nx → Below M w W → StAt W M a n c (nx + 1) u S1 k → Calls Tryz.prog 87 #[.pointer (some ⟨M + 1, 0, none⟩)] W fun e w' => e = .returned (.bool (decide ((60 : Int) < (y1 : Int)))) ∧ Below W.heap.size W w') := fun W hx hW hst => by
    exact fullI W M a n c (nx + 1) u S1 k hst hu (by omega) (by omega) hfs1 hkk (HG.out.below h8 hW) h8 Y1 h1.up h1.pm.symm y1 hy1 (by omega) _ rfl
  have CFU2 : Hid (∀ W, ¬ 9999 < nx → Below M w W → StAt W M a n c (nx + 1) u S2 k → Calls Tryz.prog 87 #[.pointer (some ⟨M + 1, 0, none⟩)] W fun e w' => e = .returned (.bool (decide ((60 : Int) < (y2 : Int)))) ∧ Below W.heap.size W w') := fun W hx hW hst => by
    exact fullI W M a n c (nx + 1) u S2 k hst hu (by omega) (by omega) hfs2 hkk (HG.out.below h8 hW) h8 Y2 h2.up h2.pm.symm y2 hy2 (by omega) _ rfl
  have HS12 : Hid ((⟨S.aside, S.word, putF ⟨nm, nx, gn, []⟩ S.fs⟩ : SM) = S1 ∧ (⟨S.aside, S.word, putF ⟨nm, nx, gn, Ms⟩ S.fs⟩ : SM) = S2 ∧ sumF S2.fs = t2 ∧ Ms.length = ml) := ⟨hS1, hS2, ht2, hml⟩
  obtain ⟨x10, _⟩ := X1 0 _ rfl
  obtain ⟨x11, _⟩ := X1 1 _ rfl
  obtain ⟨x12, _⟩ := X1 2 _ rfl
  obtain ⟨x13, _⟩ := X1 3 _ rfl
  clear hD hV hN hf hk hrow hap hl hus hgs hM hfit hgf hG HQ h1 h2 hY1 hY2 hS1 hS2 hy1 hy2 ht2 hfs1 hfs2 A1 X1 K1 D1 hgm hml HG
  go_enter Tryz.func103, Tryz.ntmps103
  go_wp2_with fail
  refine CF.mono ?_
  rintro e w2 ⟨hb2, ho2, hx2, hk2, ⟨h9, rfl, hd2⟩ | ⟨h9, rfl, clock, hd2⟩⟩
  · have HF : Hid (StAt w2 M a n c nx u S k ∧ Below M w w2 ∧ Keep M w w2) := ⟨⟨va, X, hd2, HST.out⟩, HX1.out.2.2.2.1.trans hb2, HX1.out.2.2.2.2.trans HX1.out.2.2.2.1.size hk2.2⟩
    have hq := HQ1.out
    rw [if_pos h9] at hq
    cases hq
    clear CF hd2 hb2 ho2 hx2 hk2 HQ1 CFU1 CFU2
    go_wp2_with fail
    go_ret
    exact ⟨rfl, HF.out.1, HF.out.2.1, HF.out.2.2, RestPost.bad (by decide)⟩
  have hv2 : View u (setX ⟨folderK u nm, 0, nm, nx, gn, .slice none 0 0, []⟩ clock X) (putF ⟨nm, nx, gn, []⟩ S.fs) := HST.out.1.put (y := ⟨folderK u nm, 0, nm, nx, gn, .slice none 0 0, []⟩) rfl clock
  have hap2 : ∀ z ∈ setX ⟨folderK u nm, 0, nm, nx, gn, .slice none 0 0, []⟩ clock X, ∀ y, z.v.ownBlock = some y → Value.ownBlock (.slice ax ml cx) ≠ some y := fun z hz y hy => by
    rcases setX_mem hz with hz | ⟨hz, _, _⟩
    · exact HAP.out z hz y hy
    · rw [hz] at hy
      cases hy
  have HXM : Hid (∀ z ∈ setX ⟨folderK u nm, 0, nm, nx, gn, .slice none 0 0, []⟩ clock X, ∀ y, z.v.ownBlock = some y → ∃ z0 ∈ X, z0.v.ownBlock = some y) := fun z hz y hy => by
    rcases setX_mem hz with hz | ⟨hz, _, _⟩
    · exact ⟨z, hz, hy⟩
    · rw [hz] at hy
      cases hy
  obtain ⟨X2, hX2⟩ : ∃ T, setX ⟨folderK u nm, 0, nm, nx, gn, .slice none 0 0, []⟩ clock X = T := ⟨_, rfl⟩
  rw [hX2] at HXM
  rw [hX2] at hd2 hv2 hap2
  have HQ2 : Hid ((if 60 < y1 then (7, nx + 1, S1) else if 6 < t2 then (12, nx + 1, S2) else if 60 < y2 then (7, nx + 1, S2) else (0, nx + 1, S2)) = (q, nx', S')) := by
    have hq := HQ1.out
    rw [if_neg (by omega)] at hq
    exact hq
  have hne : w.heap.size ≠ M ∧ w.heap.size ≠ M + 1 := by omega
  have B2 : Hid (Below M w w2) := HX1.out.2.2.2.1.trans hb2
  have KP2 : Hid (Keep M w w2) := HX1.out.2.2.2.2.trans HX1.out.2.2.2.1.size hk2.2
  have hst2 : StAt w2 M a n c (nx + 1) u S1 k := by
    rw [← HS12.out.1]
    exact st_putG hd2 hv2 HST.out.2.1 HST.out.2.2.1 ⟨hgb.1, hgb.2.1, Nat.zero_le _⟩ HST.out.2.2.2
  have HST2 : Hid (StAt w2 M a n c (nx + 1) u S1 k) := hst2
  have CFU := CFU1.out w2 (by omega) B2.out hst2
  have HX2 : Hid (Box w2 w.heap.size [.string nm, .int .i64 gv, .int .i64 gn, .slice none 0 0] ∧ KindAt w2 w.heap.size 28 ∧ w2.ownsRow (M + 2) 37 3 (.slice ax ml cx) ml (cellsMl Ms)) := ⟨hx2 _ _ hne.1 hne.2 HX1.out.1, hk2.1 _ _ hne.1 HX1.out.2.1, ho2 _ _ _ _ _ HX1.out.2.2.1⟩
  have HD2 : Hid (DeskAt w2 M ⟨a, n, c, va, S.aside, nx + 1, u, S.word, X2⟩ ∧ View u X2 (putF ⟨nm, nx, gn, []⟩ S.fs) ∧ ∀ z ∈ X2, ∀ y, z.v.ownBlock = some y → Value.ownBlock (.slice ax ml cx) ≠ some y) := ⟨hd2, hv2, hap2⟩
  have hM2 : M + 2 ≤ w2.heap.size := by
    have h9 : M + 1 < w2.heap.size := World.block_lt_of_cell? _ _ (hd2.1 0 _ rfl).1
    omega
  clear CF hd2 hb2 ho2 hx2 hk2 HQ1 CFU1 hv2 hap2 hX2 hst2 hw1 HAP
  go_wp2_with fail
  refine CFU.mono ?_
  rintro e w3 ⟨rfl, hb3⟩
  have B3 : Hid (Below M w w3) := B2.out.trans (hb3.mono (by omega))
  have KP3 : Hid (Keep M w w3) := KP2.out.next B2.out.size hb3
  have HST3 : Hid (StAt w3 M a n c (nx + 1) u S1 k) := HST2.out.later hb3
  have HX3 : Hid (Box w3 w.heap.size [.string nm, .int .i64 gv, .int .i64 gn, .slice none 0 0] ∧ KindAt w3 w.heap.size 28 ∧ w3.ownsRow (M + 2) 37 3 (.slice ax ml cx) ml (cellsMl Ms)) := ⟨HX2.out.1.below hb3, kind_below HX2.out.2.1 hb3, own_below HX2.out.2.2 hb3⟩
  have HD3 : Hid (DeskAt w3 M ⟨a, n, c, va, S.aside, nx + 1, u, S.word, X2⟩) := HD2.out.1.later hb3
  have hM3 : M + 2 ≤ w3.heap.size := by have := hb3.size; omega
  clear CFU hb3 HST2 HX2
  by_cases hb1 : 60 < y1
  · have hb1i : (60 : Int) < (y1 : Int) := by omega
    have hq := HQ2.out
    rw [if_pos hb1] at hq
    cases hq
    go_wp2_with fail
    go_ret
    exact ⟨rfl, HST3.out, B3.out, KP3.out, RestPost.bad (by decide)⟩
  have hb1i : ¬ (60 : Int) < (y1 : Int) := by omega
  have HQ3 : Hid ((if 6 < t2 then (12, nx + 1, S2) else if 60 < y2 then (7, nx + 1, S2) else (0, nx + 1, S2)) = (q, nx', S')) := by
    have hq := HQ2.out
    rw [if_neg hb1] at hq
    exact hq
  clear HQ2 HST3
  have hlk : lookF nm (putF ⟨nm, nx, gn, []⟩ S.fs) = some ⟨nm, nx, gn, []⟩ := by rw [lookF_put, if_pos rfl]
  obtain ⟨ay, cy, hat, _, _⟩ := at_some HD3.out HD2.out.2.1 hlk
  have CT := atI nm w3 M ⟨a, n, c, va, S.aside, nx + 1, u, S.word, X2⟩ (by omega) (by show u.size ≤ 1048576; omega) HD3.out
  have CT2 : Calls Tryz.prog 38 #[.pointer (some ⟨M + 1, 0, none⟩), .string nm] w3 fun e w' => e = .returned (.agg #[.string nm, .int .i64 nx, .int .i64 gn, .slice ay 0 cy]) ∧ Below w3.heap.size w3 w' := by
    have h9 : atX (lookX (folderK u nm) X2) = .agg #[.string nm, .int .i64 nx, .int .i64 gn, .slice ay 0 cy] := hat
    rw [← h9]
    exact CT
  obtain ⟨x30, _⟩ := HX3.out.1 0 _ rfl
  clear CT hat hlk
  go_wp2_with fail
  refine CT2.mono ?_
  rintro e w4 ⟨rfl, hb4⟩
  have B4 : Hid (Below M w w4) := B3.out.trans (hb4.mono (by omega))
  have KP4 : Keep M w w4 := KP3.out.next B3.out.size hb4
  have X4 : Box w4 w.heap.size [.string nm, .int .i64 gv, .int .i64 gn, .slice none 0 0] := HX3.out.1.below hb4
  have K4 := kind_below HX3.out.2.1 hb4
  have O4 := own_below HX3.out.2.2 hb4
  have D4 := HD3.out.later hb4
  obtain ⟨p0, pf0⟩ := (X4) 0 _ rfl
  obtain ⟨p1, pf1⟩ := ((X4).set 0 (.string nm)) 1 _ rfl
  obtain ⟨p2, pf2⟩ := (((X4).set 0 (.string nm)).set 1 (.int .i64 nx)) 2 _ rfl
  obtain ⟨p3, pf3⟩ := ((((X4).set 0 (.string nm)).set 1 (.int .i64 nx)).set 2 (.int .i64 gn)) 3 _ rfl
  have X5 := ((((X4).set 0 (.string nm)).set 1 (.int .i64 nx)).set 2 (.int .i64 gn)).set 3 (.slice ay 0 cy)
  obtain ⟨p9, pf9⟩ := X5 3 _ rfl
  obtain ⟨r0, _⟩ := X5 0 _ rfl
  obtain ⟨r1, _⟩ := X5 1 _ rfl
  obtain ⟨r2, _⟩ := X5 2 _ rfl
  obtain ⟨r3, _⟩ := X5 3 _ rfl
  have X6 := X5.set 3 (.slice ax ml cx)
  obtain ⟨q0, _⟩ := X6 0 _ rfl
  obtain ⟨q1, _⟩ := X6 1 _ rfl
  obtain ⟨q2, _⟩ := X6 2 _ rfl
  obtain ⟨q3, _⟩ := X6 3 _ rfl
  have D5 : DeskAt (((((w4.setCell ⟨w.heap.size, 0, none⟩ (.string nm)).setCell ⟨w.heap.size, 1, none⟩ (.int .i64 nx)).setCell ⟨w.heap.size, 2, none⟩ (.int .i64 gn)).setCell ⟨w.heap.size, 3, none⟩ (.slice ay 0 cy)).setCell ⟨w.heap.size, 3, none⟩ (.slice ax ml cx)) M ⟨a, n, c, va, S.aside, nx + 1, u, S.word, X2⟩ := desk_box (desk_box (desk_box (desk_box (desk_box (D4) (K4) hne.1 hne.2 0 (.string nm)) (kind_set (K4) _ _) hne.1 hne.2 1 (.int .i64 nx)) (kind_set (kind_set (K4) _ _) _ _) hne.1 hne.2 2 (.int .i64 gn)) (kind_set (kind_set (kind_set (K4) _ _) _ _) _ _) hne.1 hne.2 3 (.slice ay 0 cy)) (kind_set (kind_set (kind_set (kind_set (K4) _ _) _ _) _ _) _ _) hne.1 hne.2 3 (.slice ax ml cx)
  have O5 : (((((w4.setCell ⟨w.heap.size, 0, none⟩ (.string nm)).setCell ⟨w.heap.size, 1, none⟩ (.int .i64 nx)).setCell ⟨w.heap.size, 2, none⟩ (.int .i64 gn)).setCell ⟨w.heap.size, 3, none⟩ (.slice ay 0 cy)).setCell ⟨w.heap.size, 3, none⟩ (.slice ax ml cx)).ownsRow (M + 2) 37 3 (.slice ax ml cx) ml (cellsMl Ms) := own_box (own_box (own_box (own_box (own_box (O4) (K4) 0 (.string nm)) (kind_set (K4) _ _) 1 (.int .i64 nx)) (kind_set (kind_set (K4) _ _) _ _) 2 (.int .i64 gn)) (kind_set (kind_set (kind_set (K4) _ _) _ _) _ _) 3 (.slice ay 0 cy)) (kind_set (kind_set (kind_set (kind_set (K4) _ _) _ _) _ _) _ _) 3 (.slice ax ml cx)
  have B5 : Hid (Below M w (((((w4.setCell ⟨w.heap.size, 0, none⟩ (.string nm)).setCell ⟨w.heap.size, 1, none⟩ (.int .i64 nx)).setCell ⟨w.heap.size, 2, none⟩ (.int .i64 gn)).setCell ⟨w.heap.size, 3, none⟩ (.slice ay 0 cy)).setCell ⟨w.heap.size, 3, none⟩ (.slice ax ml cx))) := B4.out.trans (((((((Below.refl M w4)).setCell (by show M ≤ w.heap.size; omega) _).setCell (by show M ≤ w.heap.size; omega) _).setCell (by show M ≤ w.heap.size; omega) _).setCell (by show M ≤ w.heap.size; omega) _).setCell (by show M ≤ w.heap.size; omega) _)
  have KP5 : Hid (Keep M w (((((w4.setCell ⟨w.heap.size, 0, none⟩ (.string nm)).setCell ⟨w.heap.size, 1, none⟩ (.int .i64 nx)).setCell ⟨w.heap.size, 2, none⟩ (.int .i64 gn)).setCell ⟨w.heap.size, 3, none⟩ (.slice ay 0 cy)).setCell ⟨w.heap.size, 3, none⟩ (.slice ax ml cx))) := (((((KP4).setCell _ (by show w.heap.size ≤ w.heap.size; omega) _).setCell _ (by show w.heap.size ≤ w.heap.size; omega) _).setCell _ (by show w.heap.size ≤ w.heap.size; omega) _).setCell _ (by show w.heap.size ≤ w.heap.size; omega) _).setCell _ (by show w.heap.size ≤ w.heap.size; omega) _
  have hKN : (X2.map (·.k)).Nodup := by
    rw [HD2.out.2.1.keys]
    exact nodup_keys (putF_names HST.out.2.1)
  have CP := putX ⟨folderK u nm, 0, nm, nx, gn, .slice ax ml cx, Ms⟩ nm nx gn ax ml cx (((((w4.setCell ⟨w.heap.size, 0, none⟩ (.string nm)).setCell ⟨w.heap.size, 1, none⟩ (.int .i64 nx)).setCell ⟨w.heap.size, 2, none⟩ (.int .i64 gn)).setCell ⟨w.heap.size, 3, none⟩ (.slice ay 0 cy)).setCell ⟨w.heap.size, 3, none⟩ (.slice ax ml cx)) M ⟨a, n, c, va, S.aside, nx + 1, u, S.word, X2⟩ rfl (by omega) (by show u.size ≤ 1048576; omega) D5.head (fun clock => rows_set D5.2.2.2 (by show World.ownsRow _ _ _ _ _ Ms.length _; rw [HS12.out.2.2.2]; exact O5) hKN (fun x hx _ y hy => HD2.out.2.2 x hx y hy) clock)
  clear X5 X6 CT2 D5 O5 D4 K4 O4 X4 hb4 hKN HX3 KP4
  go_wp2_with fail
  refine CP.mono ?_
  rintro e w6 ⟨rfl, ⟨clock2, hd6⟩, hb6, _, _, _, hkp6⟩
  have hv6 : View u (setX ⟨folderK u nm, 0, nm, nx, gn, .slice ax ml cx, Ms⟩ clock2 X2) S2.fs := by
    have h9 := HD2.out.2.1.put (y := ⟨folderK u nm, 0, nm, nx, gn, .slice ax ml cx, Ms⟩) rfl clock2
    have e9 : (putF ⟨nm, nx, gn, Ms⟩ (putF ⟨nm, nx, gn, []⟩ S.fs)) = S2.fs := by rw [put_put, ← HS12.out.2.1]
    rw [← e9]
    exact h9
  have B6 : Hid (Below M w w6) := B5.out.trans hb6
  have KP6 : Hid (Keep M w w6) := KP5.out.trans B5.out.size hkp6
  have hst6 : StAt w6 M a n c (nx + 1) u S2 k := by
    have e9 := HS12.out.2.1
    have e8 : S2.fs = putF ⟨nm, nx, gn, Ms⟩ S.fs := by rw [← e9]
    rw [← e9]
    rw [e8] at hv6
    exact st_putG hd6 hv6 HST.out.2.1 HST.out.2.2.1 ⟨hgb.1, hgb.2.1, by show Ms.length ≤ k; rw [HS12.out.2.2.2]; exact hgb.2.2⟩ HST.out.2.2.2
  have HST6 : Hid (StAt w6 M a n c (nx + 1) u S2 k) := hst6
  have HRP6 : Hid (RestPost 0 w6 M a n c (nx + 1) u S2 k X (.slice ax ml cx)) := fun _ => by
    have e9 := HS12.out.2.1
    refine ⟨va, _, by rw [← e9]; exact hd6, hv6, ?_, ?_, by rw [← e9]; exact HST.out.2.2.2, fun z hz y hy => ?_⟩
    · rw [← e9]
      exact putF_names HST.out.2.1
    · rw [← e9]
      intro f9 hf9
      rcases putF_mem hf9 with hf9 | rfl
      · exact HST.out.2.2.1 f9 hf9
      · exact ⟨hgb.1, hgb.2.1, by show Ms.length ≤ k; rw [HS12.out.2.2.2]; exact hgb.2.2⟩
    · rcases setX_mem hz with hz | ⟨hz, _, _⟩
      · exact .inl (HXM.out z hz y hy)
      · rw [hz] at hy
        exact .inr hy
  have CM := mailsI w6 M _ hd6 t2 ((sum_view hv6).trans HS12.out.2.2.1) (by omega)
  have hM6 : M + 2 ≤ w6.heap.size := by
    have h8 : M + 1 < w6.heap.size := World.block_lt_of_cell? _ _ (hd6.1 0 _ rfl).1
    omega
  clear CP hd6 hb6 hkp6 hv6 hst6 p0 p1 p2 p3 p9 r0 r1 r2 r3 q0 q1 q2 q3 pf0 pf1 pf2 pf3 pf9 x30
  go_wp2_with fail
  refine CM.mono ?_
  rintro e w7 ⟨rfl, hb7⟩
  have B7 : Hid (Below M w w7) := B6.out.trans (hb7.mono (by omega))
  have KP7 : Hid (Keep M w w7) := KP6.out.next B6.out.size hb7
  have HST7 : Hid (StAt w7 M a n c (nx + 1) u S2 k) := HST6.out.later hb7
  have HRP7 : Hid (RestPost 0 w7 M a n c (nx + 1) u S2 k X (.slice ax ml cx)) := fun _ => by
    obtain ⟨va9, X9, t1, t2⟩ := HRP6.out rfl
    exact ⟨va9, X9, t1.later hb7, t2⟩
  have hM7 : M + 2 ≤ w7.heap.size := by have := hb7.size; omega
  clear CM hb7 HST6
  by_cases ht6 : 6 < t2
  · have ht6i : (6 : Int) < (t2 : Int) := by omega
    have hq := HQ3.out
    rw [if_pos ht6] at hq
    cases hq
    go_wp2_with fail
    go_ret
    exact ⟨rfl, HST7.out, B7.out, KP7.out, RestPost.bad (by decide)⟩
  have ht6i : ¬ (6 : Int) < (t2 : Int) := by omega
  have HQ4 : Hid ((if 60 < y2 then (7, nx + 1, S2) else (0, nx + 1, S2)) = (q, nx', S')) := by
    have hq := HQ3.out
    rw [if_neg ht6] at hq
    exact hq
  have CFV := CFU2.out w7 (by omega) B7.out HST7.out
  clear HQ3 CFU2
  go_wp2_with fail
  refine CFV.mono ?_
  rintro e w8 ⟨rfl, hb8⟩
  have HF : Hid (StAt w8 M a n c (nx + 1) u S2 k ∧ Below M w w8 ∧ Keep M w w8) := ⟨HST7.out.later hb8, B7.out.trans (hb8.mono (by omega)), KP7.out.next B7.out.size hb8⟩
  have HRP8 : Hid (RestPost 0 w8 M a n c (nx + 1) u S2 k X (.slice ax ml cx)) := fun _ => by
    obtain ⟨va9, X9, t1, t2⟩ := HRP7.out rfl
    exact ⟨va9, X9, t1.later hb8, t2⟩
  clear CFV hb8
  by_cases hb2 : 60 < y2
  · have hb2i : (60 : Int) < (y2 : Int) := by omega
    have hq := HQ4.out
    rw [if_pos hb2] at hq
    cases hq
    go_wp2_with fail
    go_ret
    exact ⟨rfl, HF.out.1, HF.out.2.1, HF.out.2.2, RestPost.bad (by decide)⟩
  have hb2i : ¬ (60 : Int) < (y2 : Int) := by omega
  have hq := HQ4.out
  rw [if_neg hb2] at hq
  cases hq
  go_wp2_with fail
  go_ret
  exact ⟨rfl, HF.out.1, HF.out.2.1, HF.out.2.2, HRP8.out⟩
def raskM (N L : List PM) (Ns : List ByteArray) : Int := if 4096 < L.length then 2 else if askM N Ns ≠ 0 then askM N Ns else if storeB L = false then 1 else 0
theorem rask_zero {N L : List PM} {Ns : List ByteArray} (h : raskM N L Ns = 0) : askM N Ns = 0 ∧ storeB L = true := by
  unfold raskM at h
  split at h
  · cases h
  · split at h
    · rename_i h1
      exact absurd h h1
    · rename_i h1
      split at h
      · cases h
      · rename_i h2
        exact ⟨by simpa using h1, by simpa using h2⟩
theorem own_lt {w : World} {base e s n y : Nat} {v : Value} {xs : List Value} (h : w.ownsRow base e s v n xs) (hy : v.ownBlock = some y) : y < w.heap.size := by
  obtain ⟨c1, f1, k1⟩ := Lib.ownsRow_kind h y hy
  exact (Array.getElem?_eq_some_iff.1 k1).1
theorem own_base {w : World} {base e s n y : Nat} {v : Value} {xs : List Value} (h : w.ownsRow base e s v n xs) (hy : v.ownBlock = some y) : base ≤ y := by
  obtain ⟨_, ⟨rfl, _⟩ | ⟨g, cap, cur, rfl, hb, _⟩⟩ := h
  · cases hy
  · cases hy; exact hb
set_option maxHeartbeats 2000000 in
theorem restoreFaultI (a : Option Addr) (n c : Nat) (N : List PM) (a2 : Option Addr) (n2 c2 : Nat) (L : List PM) (b : Option Addr) (m d : Nat) (Ns : List ByteArray) (w : World) (hN : N.length = n) (hn : n ≤ 1048576) (hs : ∀ x ∈ N, x.1.size ≤ 1048576 ∧ x.2.size ≤ 1048576) (h : Src w a (cellsP N)) (hL : L.length = n2) (hn2 : n2 ≤ 1048576) (hs2 : ∀ x ∈ L, x.1.size ≤ 1048576 ∧ x.2.size ≤ 1048576) (h2 : Src w a2 (cellsP L)) (hNs : Ns.length = m) (hm : m ≤ 100) (hz : ∀ s ∈ Ns, s.size ≤ 1048576) (hb : Src w b (cellsS Ns)) (hG : Gl w) (h8 : 8 ≤ w.heap.size) (Q : Int) (HQ : Hid (raskM N L Ns = Q)) :
    Calls Tryz.prog 54 #[.slice a n c, .slice a2 n2 c2, .slice b m d] w fun e w' => e = .returned (.int .i64 Q) ∧ Below w.heap.size w w' := by
  obtain ⟨k, hk⟩ : ∃ t, askM N Ns = t := ⟨_, rfl⟩
  have CA := mailFaultI a n c N b m d Ns w hN hn hs h hNs hm hz hb hG h8 k hk
  obtain ⟨sb, hsb⟩ : ∃ t, storeB L = t := ⟨_, rfl⟩
  have CM := fun W (hW : Below w.heap.size w W) => implMailStoreOK a2 n2 c2 L W hL hn2 hs2 (h2.below hW) (hG.below h8 hW) (by have := hW.size; omega) sb ((impl_store L).trans hsb)
  have HQ1 : Hid ((if 4096 < n2 then 2 else if k ≠ 0 then k else if sb = false then 1 else 0) = Q) := by
    have h9 := HQ.out
    unfold raskM at h9
    rw [hL, hk, hsb] at h9
    exact h9
  clear hN hs h hL hs2 h2 hNs hz hb hG HQ hk hsb
  by_cases h4 : 4096 < n2
  · have h4i : (4096 : Int) < (n2 : Int) := by omega
    have HZ : Hid (2 = Q) := by have h9 := HQ1.out; rw [if_pos h4] at h9; exact h9
    clear HQ1 CM CA
    go_enter Tryz.func54, Tryz.ntmps54
    go_wp2_with fail
    go_ret
    exact ⟨ret_int HZ.out, Below.refl _ _⟩
  have h4i : ¬ (4096 : Int) < (n2 : Int) := by omega
  have HQ2 : Hid ((if k ≠ 0 then k else if sb = false then 1 else 0) = Q) := by have h9 := HQ1.out; rw [if_neg h4] at h9; exact h9
  clear HQ1
  by_cases hk0 : k = 0
  · subst hk0
    have HQ3 : Hid ((if sb = false then 1 else 0) = Q) := by have h9 := HQ2.out; rw [if_neg (by simp)] at h9; exact h9
    clear HQ2
    go_enter Tryz.func54, Tryz.ntmps54
    go_wp2_with fail
    refine CA.mono ?_
    rintro e w1 ⟨rfl, hb1⟩
    have B1 : Hid (Below w.heap.size w w1) := hb1
    have CM1 := CM w1 hb1
    clear hb1 CA CM
    go_wp2_with fail
    refine CM1.mono ?_
    rintro e w2 ⟨rfl, hb2⟩
    have B2 : Hid (Below w.heap.size w w2) := B1.out.trans (hb2.mono B1.out.size)
    clear hb2 CM1
    cases sb with
    | false =>
      have HZ : Hid (1 = Q) := HQ3.out
      go_wp2_with fail
      go_ret
      exact ⟨ret_int HZ.out, B2.out⟩
    | true =>
      have HZ : Hid (0 = Q) := HQ3.out
      go_wp2_with fail
      go_ret
      exact ⟨ret_int HZ.out, B2.out⟩
  · have hki : (k != 0) = true := by simpa using hk0
    have HZ : Hid (k = Q) := by have h9 := HQ2.out; rw [if_pos hk0] at h9; exact h9
    clear HQ2 CM
    go_enter Tryz.func54, Tryz.ntmps54
    go_wp2_with fail
    refine CA.mono ?_
    rintro e w1 ⟨rfl, hb1⟩
    have B1 : Hid (Below w.heap.size w w1) := hb1
    clear hb1 CA
    go_wp2_with fail
    go_ret
    exact ⟨ret_int HZ.out, B1.out⟩
def rfO (nx : Int) (u : ByteArray) (S : SM) : Option FM → Int × Int × SM
  | some g => rsM nx u S g
  | none => (16, nx, S)
theorem rfO_some (nx : Int) (u : ByteArray) (S : SM) (g : FM) : rfO nx u S (some g) = rsM nx u S g := rfl
theorem rfO_none (nx : Int) (u : ByteArray) (S : SM) : rfO nx u S none = (16, nx, S) := rfl
def rfM (nx : Int) (u : ByteArray) (S : SM) (f : ByteArray) (T : SM) : Int × Int × SM := if S.word.toList = [] then (15, nx, S) else rfO nx u S (lookF f T.fs)
theorem rf_fits {N L : List PM} {u f : ByteArray} {S T S' : SM} {q nx' : Int} (h : storeB N = true) (h2 : storeB L = true) (hsu : shortB u = true) (hsf : shortB f = true) (hS : takeAll (nextM N) u S0 N = some S) (hT : takeAll (nextM L) u S0 L = some T) (hQ : rfM (nextM N) u S f T = (q, nx', S')) : OpFits N u q nx' S' (rsR N L u f) := by
  have hus := word_slash hsu
  have hfs := word_slash hsf
  obtain ⟨hg, nx0, hnm, n1, n2, _, _, _⟩ := store_facts h
  rw [hnm] at n1 n2
  obtain ⟨hwi, hwd⟩ := word_iff h hus hS
  unfold rfM at hQ
  unfold rsR
  by_cases hw : S.word.toList = []
  · rw [if_pos hw] at hQ
    cases hQ
    rw [hwi.1 hw, if_pos (show (none : Option ByteArray).isSome = false from rfl)]
    exact ⟨fun _ => rfl, fun h9 => by cases h9⟩
  rw [if_neg hw] at hQ
  have hs : (getM N (userK u)).isSome = true := by
    cases hv : getM N (userK u) with
    | none => exact absurd (hwi.2 hv) hw
    | some v => rfl
  rw [hs, if_neg (by decide), old_look hT]
  cases hl : lookF f T.fs with
  | none =>
    rw [hl, rfO_none] at hQ
    cases hQ
    exact ⟨fun _ => rfl, fun h9 => by cases h9⟩
  | some g =>
    rw [hl, rfO_some] at hQ
    obtain ⟨hgm, hgn⟩ := lookF_mem hl
    have hr := rs_fits (lies_of h hus hS hw) (by omega) n2 hus hfs hgn (mails_apart (tf := f) h2 hT hl) hQ
    show OpFits N u q nx' S' (rsG N u f g)
    refine ⟨hr.1, fun e => ?_⟩
    obtain ⟨r1, r2, r3, r4⟩ := hr.2 e
    obtain ⟨e1, e2, e3, e4, e5, e6⟩ := store_fit h2 hT g hgm
    have hnx : ¬ 9999 < nextM N := fun h9 => by
      unfold rsM at hQ
      rw [if_pos h9] at hQ
      cases hQ
      exact absurd e (by decide)
    have hS' : S' = S2F (nextM N) S g := by
      unfold rsM at hQ
      rw [if_neg hnx] at hQ
      split at hQ
      · cases hQ; exact absurd e (by decide)
      · split at hQ
        · cases hQ; exact absurd e (by decide)
        · split at hQ
          · cases hQ; exact absurd e (by decide)
          · cases hQ; rfl
    refine ⟨by omega, by omega, fun x hx => ?_, (rsG N u f g).1, r4.up, r4.pm.symm, by omega, ?_⟩
    · rw [hS'] at hx
      rcases putF_mem hx with hx | rfl
      · exact store_fit h hS x hx
      · exact ⟨by show 0 ≤ nextM N; omega, n2, e3, e4, e5, e6⟩
    · unfold fitsR
      rw [if_neg (by omega)]
      exact Prod.ext rfl r1
set_option maxHeartbeats 4000000 in
theorem restoreFolderI (w : World) (M : Nat) (a : Option Addr) (n c : Nat) (nx : Int) (u : ByteArray) (S : SM) (k : Nat) (va : Value) (X : List FX) (hD : DeskAt w M ⟨a, n, c, va, S.aside, nx, u, S.word, X⟩) (hV : View u X S.fs) (hN : (S.fs.map (·.name)).Nodup) (hf : ∀ f ∈ S.fs, 1 ≤ f.next ∧ f.next ≤ 999 ∧ f.mails.length ≤ k) (hk : S.aside.length ≤ k) (hkk : k ≤ 1000)
    (O : Nat) (a2 : Option Addr) (n2 c2 : Nat) (nx2 : Int) (T : SM) (vb : Value) (Z : List FX) (hE : DeskAt w O ⟨a2, n2, c2, vb, T.aside, nx2, u, T.word, Z⟩) (hW : View u Z T.fs) (hft : ∀ f ∈ T.fs, 1 ≤ f.next ∧ f.next ≤ 999 ∧ f.mails.length ≤ k) (hMO : M ≤ O) (hlt : ∀ z ∈ X, ∀ y, z.v.ownBlock = some y → y < O)
    (f : ByteArray) (hfz : f.size ≤ 1000) (N : List PM) (hl : S.word.toList ≠ [] → Lies N nx u S) (hN6 : N.length ≤ 60) (hus : (47 : UInt8) ∉ u.data.toList) (hu : u.size ≤ 1000) (hfs : (47 : UInt8) ∉ f.data.toList) (hM : ∀ g, lookF f T.fs = some g → (g.mails.map (mailP u f)).Pairwise (fun a b => a.1 ≠ b.1)) (hfit : ∀ f ∈ S.fs, FitF f) (hgit : ∀ f ∈ T.fs, FitF f) (n0 : 0 ≤ nx) (n1 : nx ≤ 10000) (hG : Gl w) (h8 : 8 ≤ M) (q nx' : Int) (S' : SM) (HQ : Hid (rfM nx u S f T = (q, nx', S'))) :
    Calls Tryz.prog 55 #[.pointer (some ⟨M + 1, 0, none⟩), .pointer (some ⟨O + 1, 0, none⟩), .string f] w fun e w' => e = .returned (.int .i64 q) ∧ StAt w' M a n c nx' u S' k ∧ Below M w w' := by
  have hM1 : M + 1 < w.heap.size := World.block_lt_of_cell? _ _ (hD.1 0 _ rfl).1
  have hST : StAt w M a n c nx u S k := ⟨va, X, hD, hV, hN, hf, hk⟩
  have HST : Hid (StAt w M a n c nx u S k) := hST
  have hq9 := HQ.out
  unfold rfM at hq9
  obtain ⟨lq, hlq⟩ : ∃ x, lackM S.word S.fs [] = x := ⟨_, rfl⟩
  have CL := lacksI w M a n c nx u S k hST hu none 0 0 [] rfl (by omega) (fun s hs => by cases hs) (.inl rfl) lq hlq
  by_cases hw : S.word.toList = []
  · rw [if_pos hw] at hq9
    cases hq9
    obtain rfl : 15 = lq := by rw [← hlq]; unfold lackM; rw [if_pos hw]
    clear hD hV hN hf hk hE hW hft hlt hl hus hfs hM hfit hgit hG HQ hST hlq
    go_enter Tryz.func55, Tryz.ntmps55
    go_wp2_with fail
    refine CL.mono ?_
    rintro e w1 ⟨rfl, hb1⟩
    have HF : Hid (StAt w1 M a n c nx u S k ∧ Below M w w1) := ⟨HST.out.later hb1, hb1.mono (by omega)⟩
    clear CL hb1
    go_wp2_with fail
    go_ret
    exact ⟨rfl, HF.out.1, HF.out.2⟩
  rw [if_neg hw] at hq9
  obtain rfl : 0 = lq := by rw [← hlq]; unfold lackM; rw [if_neg hw]; rfl
  obtain ⟨tb, htb⟩ : ∃ t, (lookF f T.fs).isSome = t := ⟨_, rfl⟩
  have CH := fun W (hb : Below w.heap.size w W) => hasI f W O ⟨a2, n2, c2, vb, T.aside, nx2, u, T.word, Z⟩ (by omega) (by show u.size ≤ 1048576; omega) (hE.later hb) tb (hW.some f tb htb)
  cases tb with
  | false =>
    have hln : lookF f T.fs = none := by
      cases hv : lookF f T.fs with
      | none => rfl
      | some z => rw [hv] at htb; cases htb
    rw [hln, rfO_none] at hq9
    cases hq9
    clear hD hV hN hf hk hE hW hft hlt hl hus hfs hM hfit hgit hG HQ hST hlq htb hln hw
    go_enter Tryz.func55, Tryz.ntmps55
    go_wp2_with fail
    refine CL.mono ?_
    rintro e w1 ⟨rfl, hb1⟩
    have B1 : Hid (Below w.heap.size w w1) := hb1
    have CH1 := CH w1 hb1
    clear CL hb1 CH
    go_wp2_with fail
    refine CH1.mono ?_
    rintro e w2 ⟨rfl, hb2⟩
    have B2 : Below w.heap.size w w2 := B1.out.trans (hb2.mono B1.out.size)
    have HF : Hid (StAt w2 M a n c nx u S k ∧ Below M w w2) := ⟨HST.out.later B2, B2.mono (by omega)⟩
    clear CH1 hb2 B2
    go_wp2_with fail
    go_ret
    exact ⟨rfl, HF.out.1, HF.out.2⟩
  | true =>
  obtain ⟨g, hlg⟩ := Option.isSome_iff_exists.1 htb
  rw [hlg, rfO_some] at hq9
  obtain ⟨hgm, hgn⟩ := lookF_mem hlg
  obtain ⟨ax, cx, hat, hrow, _⟩ := at_some hE hW hlg
  have CT := fun W (hb : Below w.heap.size w W) => atI f W O ⟨a2, n2, c2, vb, T.aside, nx2, u, T.word, Z⟩ (by omega) (by show u.size ≤ 1048576; omega) (hE.later hb)
  have hat2 : atX (lookX (folderK u f) Z) = .agg #[.string g.name, .int .i64 g.val, .int .i64 g.next, .slice ax g.mails.length cx] := hat
  have CT2 : Hid (∀ W, Below w.heap.size w W → Calls Tryz.prog 38 #[.pointer (some ⟨O + 1, 0, none⟩), .string f] W fun e w' => e = .returned (.agg #[.string g.name, .int .i64 g.val, .int .i64 g.next, .slice ax g.mails.length cx]) ∧ Below W.heap.size W w') := fun W hb => by
    rw [← hat2]
    exact CT W hb
  obtain ⟨e1, e2, e3, e4, e5, e6⟩ := hgit g hgm
  have hgb := hft g hgm
  have CR : Hid (∀ W, Below w.heap.size w W → Calls Tryz.prog 103 #[.pointer (some ⟨M + 1, 0, none⟩), .agg #[.string g.name, .int .i64 g.val, .int .i64 g.next, .slice ax g.mails.length cx]] W fun e w' => e = .returned (.int .i64 q) ∧ StAt w' M a n c nx' u S' k ∧ Below M W w') := fun W hb => by
    refine (restoreI W M a n c nx u S k va X (hD.later hb) hV hN hf hk hkk g g.name g.next g.val ax g.mails.length cx g.mails rfl rfl hgb (own_mono (own_below hrow hb) (by omega)) (fun z hz y hy h9 => ?_) N (hl hw) hN6 hus hu (by rw [hgn]; exact hfs) e5 (by rw [hgn]; exact hM g hlg) hfit e6 n0 n1 (hG.below (by omega) hb) h8 q nx' S' hq9).mono ?_
    · have k1 := hlt z hz y hy
      have k2 := own_base hrow h9
      omega
    · rintro e w' ⟨z1, z2, z3, _⟩
      exact ⟨z1, z2, z3⟩
  obtain ⟨nm, hnm⟩ : ∃ t, g.name = t := ⟨_, rfl⟩
  obtain ⟨gv, hgv⟩ : ∃ t, g.val = t := ⟨_, rfl⟩
  obtain ⟨gx, hgx⟩ : ∃ t, g.next = t := ⟨_, rfl⟩
  obtain ⟨ml, hml⟩ : ∃ t, g.mails.length = t := ⟨_, rfl⟩
  rw [hnm, hgv, hgx, hml] at CT2 CR
  clear hD hV hN hf hk hE hW hft hlt hl hus hfs hM hfit hgit hG HQ hST hlq htb hw hlg hgm hgn hat hrow CT hat2 e1 e2 e3 e4 e5 e6 hgb hq9 hnm hgv hgx hml
  go_enter Tryz.func55, Tryz.ntmps55
  go_wp2_with fail
  refine CL.mono ?_
  rintro e w1 ⟨rfl, hb1⟩
  have B1 : Hid (Below w.heap.size w w1) := hb1
  have CH1 := CH w1 hb1
  clear CL hb1 CH
  go_wp2_with fail
  refine CH1.mono ?_
  rintro e w2 ⟨rfl, hb2⟩
  have B2 : Hid (Below w.heap.size w w2) := B1.out.trans (hb2.mono B1.out.size)
  have CT3 := CT2.out w2 B2.out
  clear CH1 hb2 CT2
  go_wp2_with fail
  refine CT3.mono ?_
  rintro e w3 ⟨rfl, hb3⟩
  have B3 : Hid (Below w.heap.size w w3) := B2.out.trans (hb3.mono B2.out.size)
  have CR3 := CR.out w3 B3.out
  clear CT3 hb3 CR
  go_wp2_with fail
  refine CR3.mono ?_
  rintro e w4 ⟨rfl, hst4, hb4⟩
  have HF : Hid (StAt w4 M a n c nx' u S' k ∧ Below M w w4) := ⟨hst4, (B3.out.mono (by omega)).trans hb4⟩
  clear CR3 hst4 hb4
  go_wp2_with fail
  go_ret
  exact ⟨rfl, HF.out.1, HF.out.2⟩
end Go.Proofs.YthgbclipknfmjaaGreatDoor
