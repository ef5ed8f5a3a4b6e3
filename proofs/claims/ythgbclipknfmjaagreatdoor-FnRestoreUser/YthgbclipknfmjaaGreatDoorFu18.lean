/-
  Fol Usr Fae Exs Rns in one. By an AI agent.
-/
import Derived.Test.YthgbclipknfmjaaGreatDoorFu16
import Derived.Test.YthgbclipknfmjaaGreatDoorFu17
import Derived.Test.YthgbclipknfmjaaGreatDoorFu14
import Derived.Test.YthgbclipknfmjaaGreatDoorFu15
namespace Go.Proofs.YthgbclipknfmjaaGreatDoor
open Go.ChangeShapes Go.WideShapes Go.ChangeAt Go.RowKit Go.Deep Go.Lib
set_option linter.unusedVariables false
set_option linter.unusedSimpArgs false
set_option maxRecDepth 100000

/-- A folder as an answer tells it. -/
abbrev z4 : ByteArray × Int × Int × List MMl := (⟨#[]⟩, 0, 0, [])
def faG (o : Option FM) : ByteArray × Int × Int × List MMl := match o with
  | some g => (g.name, g.val, g.next, g.mails)
  | none => z4
def faO (o : Option SM) (f : ByteArray) : ByteArray × Int × Int × List MMl := match o with
  | some S => faG (lookF f S.fs)
  | none => z4
def faM (L : List PM) (u f : ByteArray) : (ByteArray × Int × Int × List MMl) × Int := if askM L [u, f] = 0 then (if knownR L u f = 0 then (faO (takeAll (nextM L) u S0 L) f, 0) else (z4, knownR L u f)) else (z4, askM L [u, f])
theorem fa_ask {L : List PM} {u f : ByteArray} {q : Int} (h : askM L [u, f] = q) (hq : q ≠ 0) : faM L u f = ((⟨#[]⟩, 0, 0, []), q) := by
  unfold faM
  rw [h, if_neg hq]
theorem fa_desk {L : List PM} {u f : ByteArray} {S : SM} (h : askM L [u, f] = 0) (hS : takeAll (nextM L) u S0 L = some S) : faM L u f = (faG (lookF f S.fs), knownR L u f) := by
  obtain ⟨hst, hsu, hsf⟩ := ask_zero2 h
  have hus := word_slash hsu
  have hfs := word_slash hsf
  unfold faM
  rw [h, if_pos rfl]
  by_cases hk : knownR L u f = 0
  · rw [hk, if_pos rfl, hS]
    rfl
  · rw [if_neg hk]
    have hn : lookF f S.fs = none := by
      obtain ⟨hwi, _⟩ := word_iff hst hus hS
      obtain ⟨hli, _⟩ := look_iff hst hus hS hfs
      cases hu : getM L (userK u) with
      | none => rw [no_folders hst hus hS hu]; rfl
      | some v =>
        cases hl : lookF f S.fs with
        | none => rfl
        | some g =>
          exfalso
          refine hk ?_
          unfold knownR
          rw [hu, ← hli, hl]
          rfl
    rw [hn]
    rfl
theorem fit_ms {g : FM} (h : FitF g) : FitMs g.mails := h.2.2.2.2.2
theorem at_pack {w : World} {M : Nat} {a : Option Addr} {n c : Nat} {nx : Int} {u : ByteArray} {S : SM} {k0 : Nat} (hS : StAt w M a n c nx u S k0) (f : ByteArray) : ∃ va X, DeskAt w M ⟨a, n, c, va, S.aside, nx, u, S.word, X⟩ ∧ ∃ nm v1 v2 a' n' c' R, atX (lookX (folderK u f) X) = .agg #[.string nm, .int .i64 v1, .int .i64 v2, .slice a' n' c'] ∧ R.length = n' ∧ w.ownsRow (M + 2) 37 3 (.slice a' n' c') n' (cellsMl R) ∧ faG (lookF f S.fs) = (nm, v1, v2, R) := by
  obtain ⟨va, X, hD, hV, _⟩ := hS
  refine ⟨va, X, hD, ?_⟩
  have hl := hV.look f
  have hrows := hD.2.2.2
  cases hx : lookX (folderK u f) X with
  | none =>
    rw [hx] at hl
    have hl2 : lookF f S.fs = none := hl.symm
    rw [hl2]
    exact ⟨_, _, _, none, 0, 0, [], rfl, rfl, World.ownsRow_nil _ _ _ _, rfl⟩
  | some x =>
    rw [hx] at hl
    have hl2 : lookF f S.fs = some (fmX x) := hl.symm
    rw [hl2]
    have ho := hrows.1 x (look_mem hx)
    obtain ⟨a', c', hv, _, _⟩ := own_src ho
    rw [hv] at ho
    exact ⟨x.name, x.val, x.next, a', x.mails.length, c', x.mails, by show valX x = _; unfold valX; rw [hv], rfl, ho, rfl⟩
set_option maxHeartbeats 2000000 in
theorem l07AtS (a : Option Addr) (n c : Nat) (L : List PM) (hL : L.length = n) (hg : GoodL L) (u f : ByteArray) (hus : u.size ≤ 1000) (hfs : f.size ≤ 1000) (Ms : List MMl) (hM : FitMs Ms) (hU : (L.filter fun x => beginsB x.1 (preK u f)) = Ms.map (mailP u f)) (va nx : Int) (hm : metaM L u f = some (va, nx)) (w : World) (h : Src w a (cellsP L)) :
    Calls Tryz.prog 137 #[.slice a n c, .string u, .string f] w fun e w' => ∃ a' c', e = .returned (.agg #[.string f, .int .i64 va, .int .i64 nx, .slice a' Ms.length c']) ∧ w'.ownsRow w.heap.size 37 3 (.slice a' Ms.length c') Ms.length (cellsMl Ms) ∧ Below w.heap.size w w' := by
  have AL : Hid (Below w.heap.size w (w.alloc (.cells #[.string ⟨#[]⟩, .int .i64 0, .int .i64 0, .slice none 0 0] 28))) := (Below.refl _ _).alloc (Nat.le_refl _) _
  have CM := l07MetaS a n c L u f (w.alloc (.cells #[.string ⟨#[]⟩, .int .i64 0, .int .i64 0, .slice none 0 0] 28)) hL hg (by omega) (by omega) (h.below AL.out)
  have CO := fun W (hW : Below w.heap.size w W) => l07OfS a n c L hL hg u f hus hfs Ms hM hU W (h.below hW)
  have HM : Hid (metaM L u f = some (va, nx)) := hm
  obtain ⟨tb, htb⟩ : ∃ t, (metaM L u f).isSome = t := ⟨_, rfl⟩
  rw [htb] at CM
  clear hL hg hM hU hm h htb
  go_enter Tryz.func137, Tryz.ntmps137
  go_wp2_with fail
  refine CM.mono ?_
  rintro e w1 ⟨x1, y1, rfl, hp, hb1⟩
  obtain ⟨e1, e2⟩ := hp _ HM.out
  have e1' : x1 = va := e1
  have e2' : y1 = nx := e2
  subst e1' e2'
  have B1 : Hid (Below w.heap.size w w1) := AL.out.trans (hb1.mono AL.out.size)
  have X1 : Hid (Box w1 w.heap.size [.string ⟨#[]⟩, .int .i64 0, .int .i64 0, .slice none 0 0]) := Box.below (Box.new rfl) hb1
  have Z1 : Hid (w.heap.size < w1.heap.size) := by
    have h9 := hb1.size
    have h8 : (w.alloc (.cells #[.string ⟨#[]⟩, .int .i64 0, .int .i64 0, .slice none 0 0] 28)).heap.size = w.heap.size + 1 := by simp
    show w.heap.size < w1.heap.size
    omega
  have CO1 := CO w1 B1.out
  clear hb1 hp e1 e2 CM CO HM
  go_wp2_with fail
  refine CO1.mono ?_
  rintro e w2 ⟨v2, rfl, ho2, hb2⟩
  obtain ⟨a2, c2, rfl, _, _⟩ := own_src ho2
  have B2 : Hid (Below w.heap.size w w2) := B1.out.trans (hb2.mono B1.out.size)
  have X2 : Hid (Box w2 w.heap.size [.string ⟨#[]⟩, .int .i64 0, .int .i64 0, .slice none 0 0]) := Box.below X1.out hb2
  have O2 : Hid (w2.ownsRow w1.heap.size 37 3 (.slice a2 Ms.length c2) Ms.length (cellsMl Ms)) := ho2
  clear ho2 hb2 CO1
  obtain ⟨p0, pf0⟩ := (X2.out) 0 _ rfl
  obtain ⟨p1, pf1⟩ := ((X2.out).set 0 (.string f)) 1 _ rfl
  obtain ⟨p2, pf2⟩ := (((X2.out).set 0 (.string f)).set 1 (.int .i64 x1)) 2 _ rfl
  obtain ⟨p3, pf3⟩ := ((((X2.out).set 0 (.string f)).set 1 (.int .i64 x1)).set 2 (.int .i64 y1)) 3 _ rfl
  have X8 := ((((X2.out).set 0 (.string f)).set 1 (.int .i64 x1)).set 2 (.int .i64 y1)).set 3 (.slice a2 Ms.length c2)
  obtain ⟨r0, _⟩ := X8 0 _ rfl
  obtain ⟨r1, _⟩ := X8 1 _ rfl
  obtain ⟨r2, _⟩ := X8 2 _ rfl
  obtain ⟨r3, _⟩ := X8 3 _ rfl
  clear X8
  have BE : Hid (Below w.heap.size w ((((w2.setCell ⟨w.heap.size, 0, none⟩ (.string f)).setCell ⟨w.heap.size, 1, none⟩ (.int .i64 x1)).setCell ⟨w.heap.size, 2, none⟩ (.int .i64 y1)).setCell ⟨w.heap.size, 3, none⟩ (.slice a2 Ms.length c2))) := (((B2.out.setCell (Nat.le_refl _) _).setCell (Nat.le_refl _) _).setCell (Nat.le_refl _) _).setCell (Nat.le_refl _) _
  have OE : Hid (((((w2.setCell ⟨w.heap.size, 0, none⟩ (.string f)).setCell ⟨w.heap.size, 1, none⟩ (.int .i64 x1)).setCell ⟨w.heap.size, 2, none⟩ (.int .i64 y1)).setCell ⟨w.heap.size, 3, none⟩ (.slice a2 Ms.length c2)).ownsRow w.heap.size 37 3 (.slice a2 Ms.length c2) Ms.length (cellsMl Ms)) := own_mono (own_setLow (own_setLow (own_setLow (own_setLow (O2.out) Z1.out _) Z1.out _) Z1.out _) Z1.out _) B1.out.size
  go_wp2_with fail
  exact bodyPost_ret (v := .agg #[.string f, .int .i64 x1, .int .i64 y1, .slice a2 Ms.length c2]) (by simp [results, Tryz.results137, go_sem, r0, r1, r2, r3]) rfl ⟨_, _, rfl, OE.out, BE.out⟩

theorem ask_ok {L : List PM} {Ns : List ByteArray} (h : storeB L = true) (hs : Ns.all shortB = true) : askM L Ns = 0 := by
  have h1 := (store_facts h).1.1
  have hz : Ns.all smallT = true := by
    rw [List.all_eq_true] at hs ⊢
    intro x hx
    have := short_size' (hs x hx)
    unfold smallT
    simp
    omega
  unfold askM
  rw [if_neg (by rw [hz]; exact fun h9 => h9.elim (fun h8 => by omega) (fun h8 => by cases h8)), if_neg (by rw [h]; decide), if_neg (by rw [hs]; decide)]
/-- What the pairs of a list that a desk tells are. -/
theorem desk_mem {Y : List PM} {nx : Int} {u : ByteArray} {S : SM} (pm : (deskP nx u S).Perm Y) {p : PM} (hp : p ∈ Y) : p = (vK, bs (itoa nx)) ∨ p = (userK u, S.word) ∨ p ∈ notK vK S.aside ∨ ∃ g ∈ S.fs, p = (folderK u g.name, metaT g.val g.next) ∨ ∃ m ∈ g.mails, p = mailP u g.name m := by
  rw [← pm.mem_iff] at hp
  unfold deskP at hp
  rw [List.mem_cons, List.mem_cons, List.mem_append] at hp
  rcases hp with hp | hp | hp | hp
  · exact .inl hp
  · exact .inr (.inl hp)
  · exact .inr (.inr (.inl hp))
  · obtain ⟨g, hg, h⟩ := flat_mem hp
    unfold fPairs at h
    rcases List.mem_cons.1 h with h | h
    · exact .inr (.inr (.inr ⟨g, hg, .inl h⟩))
    · obtain ⟨m, hm, e⟩ := List.mem_map.1 h
      exact .inr (.inr (.inr ⟨g, hg, .inr ⟨m, hm, e.symm⟩⟩))
theorem desk_user {Y : List PM} {nx : Int} {u : ByteArray} {S : SM} (up : UpL Y) (pm : (deskP nx u S).Perm Y) : getM Y (userK u) = some S.word := by
  refine (getM_mem up).2 ?_
  rw [← pm.mem_iff]
  unfold deskP
  exact List.mem_cons_of_mem _ List.mem_cons_self
theorem desk_folder {Y : List PM} {nx : Int} {u : ByteArray} {S : SM} (up : UpL Y) (pm : (deskP nx u S).Perm Y) {g : FM} (hg : g ∈ S.fs) (h : GoodF nx g) : metaM Y u g.name = some (g.val, g.next) := by
  obtain ⟨g1, g2, g3, g4, g5, g6, g7⟩ := h
  refine (meta_iff up).2 ⟨metaT g.val g.next, ?_, meta_is ⟨g2, g3, g5, g6⟩⟩
  rw [← pm.mem_iff]
  unfold deskP flatF
  exact List.mem_cons_of_mem _ (List.mem_cons_of_mem _ (List.mem_append_right _ (List.mem_flatMap.2 ⟨g, hg, List.mem_cons_self⟩)))
/-- A folder is told as its desk has it. -/
theorem fa_told {Y : List PM} {nx : Int} {u : ByteArray} {S : SM} {g : FM} (hst : storeB Y = true) (hF : FitS nx u S) (up : UpL Y) (pm : (deskP nx u S).Perm Y) (hw : S.word.toList ≠ []) (hl : lookF g.name S.fs = some g) : ∃ Ms, faM Y u g.name = ((g.name, g.val, g.next, Ms), 0) ∧ (Y.filter fun x => beginsB x.1 (preK u g.name)) = Ms.map (mailP u g.name) := by
  have hsu := hF.us
  have hus := word_slash hsu
  have hgm := (lookF_mem hl).1
  have hsg := (hF.fs g hgm).1
  have hgs := word_slash hsg
  obtain ⟨S2, hS2, _, _⟩ := take_all hst hus
  have hk : knownR Y u g.name = 0 := by
    unfold knownR
    rw [desk_user up pm, desk_folder up pm hgm (hF.fs g hgm)]
    rfl
  obtain ⟨hw2, g2, hl2⟩ := known_zero hst hus hgs hS2 hk
  have hm := look_meta hst hS2 hl2
  rw [desk_folder up pm hgm (hF.fs g hgm)] at hm
  injection hm with hm
  injection hm with hm1 hm2
  refine ⟨g2.mails, ?_, fol_mails hst hus hgs hS2 hw2 hl2⟩
  unfold faM
  rw [ask_ok hst (by simp [hsu, hsg]), if_pos rfl, hk, if_pos rfl, hS2]
  show (faG (lookF g.name S2.fs), (0 : Int)) = _
  rw [hl2]
  show ((g2.name, g2.val, g2.next, g2.mails), (0 : Int)) = _
  rw [(lookF_mem hl2).2, ← hm1, ← hm2]
/-- The uids rise. -/
def Rise (Ms : List MMl) : Prop := Ms.Pairwise fun a b => a.1 < b.1
theorem blp (p a b : List UInt8) : Op.bytesLess (p ++ a) (p ++ b) = Op.bytesLess a b := by
  induction p with
  | nil => rfl
  | cons x p ih =>
    show Op.bytesLess (x :: (p ++ a)) (x :: (p ++ b)) = _
    unfold Op.bytesLess
    simp [ih]
    cases a <;> cases b <;> simp [Op.bytesLess]
theorem bl3 {A B C A' B' C' : UInt8} (h : A < A' ∨ (A = A' ∧ (B < B' ∨ (B = B' ∧ C < C')))) : Op.bytesLess [A, B, C] [A', B', C'] = true := by
  rcases h with h | ⟨rfl, h | ⟨rfl, h⟩⟩ <;> simp [Op.bytesLess, h]
theorem d3_lt {x y : Nat} (h : x < y) (hy : y < 1000) : Op.bytesLess (d3 x) (d3 y) = true := by
  obtain ⟨a, b, c, ha, hb, hc, rfl⟩ := split3 x (by omega)
  obtain ⟨a', b', c', ha', hb', hc', rfl⟩ := split3 y hy
  unfold d3
  rw [dec4 a b c ha hb hc, dec4 a' b' c' ha' hb' hc']
  have key : ∀ {u v : Nat}, u < 10 → v < 10 → (UInt8.ofNat (48 + u) < UInt8.ofNat (48 + v) ↔ u < v) := fun {u v} hu hv => by
    rw [UInt8.lt_iff_toNat_lt]
    simp
    omega
  have keq : ∀ {u v : Nat}, u < 10 → v < 10 → (UInt8.ofNat (48 + u) = UInt8.ofNat (48 + v) ↔ u = v) := fun {u v} hu hv => by
    constructor
    · intro e
      have := congrArg UInt8.toNat e
      simp at this
      omega
    · rintro rfl
      rfl
  show Op.bytesLess [UInt8.ofNat (48 + a), UInt8.ofNat (48 + b), UInt8.ofNat (48 + c)] [UInt8.ofNat (48 + a'), UInt8.ofNat (48 + b'), UInt8.ofNat (48 + c')] = true
  refine bl3 ?_
  rw [key ha ha', key hb hb', key hc hc', keq ha ha', keq hb hb']
  omega
theorem key_lt {u f : ByteArray} {x y : Int} (h0 : 0 ≤ x) (h1 : x < y) (h2 : y < 1000) : ltK (mailK u f x) (mailK u f y) := by
  unfold ltK
  rw [ByteArray.toList_eq, ByteArray.toList_eq, mailK_data', mailK_data']
  have e : ∀ d : List UInt8, 109 :: 47 :: (u.data.toList ++ 47 :: (f.data.toList ++ 47 :: d)) = (109 :: 47 :: (u.data.toList ++ 47 :: (f.data.toList ++ [47]))) ++ d := fun d => by simp
  rw [e (d3 x.toNat), e (d3 y.toNat), blp]
  exact d3_lt (by omega) (by omega)
theorem mailP_inj {u f : ByteArray} {m m2 : MMl} (h : 0 ≤ m.1 ∧ m.1 < 1000 ∧ 0 ≤ m.2.1 ∧ m.2.1 ≤ 3) (h2 : 0 ≤ m2.1 ∧ m2.1 < 1000 ∧ 0 ≤ m2.2.1 ∧ m2.2.1 ≤ 3) (e : mailP u f m = mailP u f m2) : m = m2 := by
  have hk := congrArg (fun x : PM => x.1.data.toList) e
  have hv : mailV m = mailV m2 := congrArg Prod.snd e
  unfold mailP at hk
  simp only [mailK_data'] at hk
  have hd : d3 m.1.toNat = d3 m2.1.toNat := by
    have h9 := (List.cons.inj (List.cons.inj hk).2).2
    have h8 := List.append_cancel_left h9
    have h7 := (List.cons.inj h8).2
    have h6 := List.append_cancel_left h7
    exact (List.cons.inj h6).2
  have h1 := d3_inj (by omega) (by omega) hd
  have hdig : ∀ n : Int, 0 ≤ n → n ≤ 3 → ∃ c : UInt8, itoa n = [c] ∧ (c.toNat : Int) = 48 + n := fun n a b => by
    have : n = 0 ∨ n = 1 ∨ n = 2 ∨ n = 3 := by omega
    rcases this with rfl | rfl | rfl | rfl
    · exact ⟨48, by kernel_rfl, by decide⟩
    · exact ⟨49, by kernel_rfl, by decide⟩
    · exact ⟨50, by kernel_rfl, by decide⟩
    · exact ⟨51, by kernel_rfl, by decide⟩
  obtain ⟨c1, q1, z1⟩ := hdig m.2.1 h.2.2.1 h.2.2.2
  obtain ⟨c2, q2, z2⟩ := hdig m2.2.1 h2.2.2.1 h2.2.2.2
  unfold mailV at hv
  rw [q1, q2] at hv
  have hv2 := congrArg (fun x : ByteArray => x.data.toList) hv
  have hv3 : c1 :: m.2.2.data.toList = c2 :: m2.2.2.data.toList := by simpa [bs, ByteArray.data_append] using hv2
  have e1 := (List.cons.inj hv3).1
  have e2 := bs_inj (List.cons.inj hv3).2
  obtain ⟨a, b, t⟩ := m
  obtain ⟨a2, b2, t2⟩ := m2
  dsimp only at *
  subst e2
  rw [e1] at z1
  obtain rfl : a = a2 := by omega
  obtain rfl : b = b2 := by omega
  rfl
theorem rise_keys {u f : ByteArray} {Ms : List MMl} (h : Rise Ms) (hb : ∀ m ∈ Ms, 0 ≤ m.1 ∧ m.1 < 1000) : UpL (Ms.map (mailP u f)) := by
  unfold UpL
  rw [List.pairwise_map]
  exact h.imp_of_mem fun {a b} ha hb9 h9 => key_lt (hb a ha).1 h9 (hb b hb9).2
theorem keys_rise {u f : ByteArray} {Ms : List MMl} (h : UpL (Ms.map (mailP u f))) (hb : ∀ m ∈ Ms, 0 ≤ m.1 ∧ m.1 < 1000) : Rise Ms := by
  unfold UpL at h
  rw [List.pairwise_map] at h
  refine h.imp_of_mem fun {a b} ha hb9 h9 => ?_
  rcases Int.lt_trichotomy a.1 b.1 with h8 | h8 | h8
  · exact h8
  · have h7 : ltK (mailK u f a.1) (mailK u f b.1) := h9
    rw [h8] at h7
    exact absurd h7 (ltK_irrefl _)
  · have h7 : ltK (mailK u f a.1) (mailK u f b.1) := h9
    have h6 := key_lt (u := u) (f := f) (hb b hb9).1 h8 (hb a ha).2
    have h5 : ltK (mailK u f a.1) (mailK u f a.1) := bl_trans _ _ _ h7 h6
    exact absurd h5 (ltK_irrefl _)
theorem up_nodup {L : List PM} (h : UpL L) : L.Nodup := h.imp fun {a b} h9 e => by rw [e] at h9; exact ltK_irrefl _ h9
theorem up_same {A B : List PM} (hA : UpL A) (hB : UpL B) (h : ∀ p, p ∈ A ↔ p ∈ B) : A = B := by
  have hp : A.Perm B := (List.perm_ext_iff_of_nodup (up_nodup hA) (up_nodup hB)).2 h
  refine sorted_eq hB hp (hA.imp fun {a b} h9 => ?_)
  cases hc : Op.bytesLess b.1.data.toList a.1.data.toList with
  | false => rfl
  | true =>
    have h8 : ltK b.1 a.1 := by unfold ltK; rw [ByteArray.toList_eq, ByteArray.toList_eq]; exact hc
    exact absurd (bl_trans _ _ _ h9 h8 : ltK a.1 a.1) (ltK_irrefl _)
theorem map_inj {u f : ByteArray} {A B : List MMl} (hA : ∀ m ∈ A, 0 ≤ m.1 ∧ m.1 < 1000 ∧ 0 ≤ m.2.1 ∧ m.2.1 ≤ 3) (hB : ∀ m ∈ B, 0 ≤ m.1 ∧ m.1 < 1000 ∧ 0 ≤ m.2.1 ∧ m.2.1 ≤ 3) (h : A.map (mailP u f) = B.map (mailP u f)) : A = B := by
  induction A generalizing B with
  | nil =>
    cases B with
    | nil => rfl
    | cons b B => cases h
  | cons a A ih =>
    cases B with
    | nil => cases h
    | cons b B =>
      obtain ⟨h1, h2⟩ := List.cons.inj h
      rw [mailP_inj (hA a List.mem_cons_self) (hB b List.mem_cons_self) h1, ih (fun m hm => hA m (List.mem_cons_of_mem _ hm)) (fun m hm => hB m (List.mem_cons_of_mem _ hm)) h2]
theorem rise_store {L : List PM} {u : ByteArray} {S : SM} {g : FM} (h : storeB L = true) (hus : (47 : UInt8) ∉ u.data.toList) (hS : takeAll (nextM L) u S0 L = some S) (hw : S.word.toList ≠ []) (hg : g ∈ S.fs) : Rise g.mails := by
  have hF := store_fits h hus hS hw
  have h1 := fol_mails h hus (word_slash (hF.fs g hg).1) hS hw (look_self (names_of hS) hg)
  have h2 : UpL (g.mails.map (mailP u g.name)) := by rw [← h1]; exact (store_facts h).1.2.2.sublist List.filter_sublist
  exact keys_rise h2 fun m hm => by
    have := (hF.fs g hg).2.2.2.2.2
    obtain ⟨g6, g7⟩ := this
    have := g7 m hm
    omega
/-- A folder is told as its desk has it, mail by mail. -/
theorem fa_exact {N Y : List PM} {nx : Int} {u : ByteArray} {S S' : SM} {g : FM} (h : storeB N = true) (hS : takeAll (nextM N) u S0 N = some S) (ha : S'.aside = S.aside) (hst : storeB Y = true) (hF : FitS nx u S') (hnd : (S'.fs.map (·.name)).Nodup) (up : UpL Y) (pm : (deskP nx u S').Perm Y) (hw : S'.word.toList ≠ []) (hg : g ∈ S'.fs) (hr : Rise g.mails) : faM Y u g.name = ((g.name, g.val, g.next, g.mails), 0) := by
  have hus := word_slash hF.us
  obtain ⟨g1, g2, g3, g4, g5, g6, g7⟩ := hF.fs g hg
  have hgs := word_slash g1
  have hl := look_self hnd hg
  have hbnd : ∀ m ∈ g.mails, 0 ≤ m.1 ∧ m.1 < 1000 ∧ 0 ≤ m.2.1 ∧ m.2.1 ≤ 3 := fun m hm => by have := g7 m hm; omega
  obtain ⟨Ms, hfa, hMs⟩ := fa_told hst hF up pm hw hl
  have hup : UpL (Ms.map (mailP u g.name)) := by rw [← hMs]; exact up.sublist List.filter_sublist
  have hsame : ∀ p, p ∈ Ms.map (mailP u g.name) ↔ p ∈ g.mails.map (mailP u g.name) := fun p => by
    rw [← hMs, List.mem_filter]
    constructor
    · rintro ⟨hp, hb⟩
      obtain ⟨r, hr9⟩ := begins_pre.1 hb
      rcases desk_mem pm hp with h8 | h8 | h8 | ⟨g', hg', h8 | ⟨m2, hm2, h8⟩⟩
      · rw [h8] at hr9
        cases hr9
      · rw [h8] at hr9
        simp only [userK_data] at hr9
        cases hr9
      · rw [ha] at h8
        obtain ⟨k1, k2⟩ := (aside_is hS _ (notK_sub h8).2).1 h8
        have h9 := away_owner k2
        have h6 : beginsB p.1 (mailsK u) = true := begins_iff.2 ⟨g.name.data.toList ++ 47 :: r, by rw [hr9, mailsK_data]; simp⟩
        rw [mail_is h hus k1, h6] at h9
        cases h9
      · rw [h8] at hr9
        simp only [folderK_data] at hr9
        cases hr9
      · rw [h8] at hr9
        have hr8 : (mailK u g'.name m2.1).data.toList = 109 :: 47 :: (u.data.toList ++ 47 :: (g.name.data.toList ++ 47 :: r)) := hr9
        rw [mailK_data'] at hr8
        have h7 := List.append_cancel_left (List.cons.inj (List.cons.inj hr8).2).2
        have h6 := (List.cons.inj h7).2
        have hn : g'.name = g.name := bs_inj (seg_inj (word_slash (hF.fs g' hg').1) hgs h6).1
        obtain rfl := same_name hnd hg' hg hn
        rw [h8]
        exact List.mem_map.2 ⟨m2, hm2, rfl⟩
    · intro hp
      obtain ⟨m, hm, rfl⟩ := List.mem_map.1 hp
      refine ⟨?_, begins_mail u g.name m⟩
      rw [← pm.mem_iff]
      unfold deskP flatF
      exact List.mem_cons_of_mem _ (List.mem_cons_of_mem _ (List.mem_append_right _ (List.mem_flatMap.2 ⟨g, hg, List.mem_cons_of_mem _ (List.mem_map.2 ⟨m, hm, rfl⟩)⟩)))
  have heq := up_same hup (rise_keys hr (fun m hm => ⟨(hbnd m hm).1, (hbnd m hm).2.1⟩)) hsame
  have hMb : ∀ m ∈ Ms, 0 ≤ m.1 ∧ m.1 < 1000 ∧ 0 ≤ m.2.1 ∧ m.2.1 ≤ 3 := by
    obtain ⟨S2, hS2, _, _⟩ := take_all hst hus
    have hk : knownR Y u g.name = 0 := by
      unfold knownR
      rw [desk_user up pm, desk_folder up pm hg (hF.fs g hg)]
      rfl
    obtain ⟨hw2, g9, hl2⟩ := known_zero hst hus hgs hS2 hk
    have hM2 : Ms = g9.mails := by
      unfold faM at hfa
      rw [ask_ok hst (by simp [hF.us, g1]), if_pos rfl, hk, if_pos rfl, hS2] at hfa
      have hfa2 : ((faG (lookF g.name S2.fs), (0 : Int)) : (ByteArray × Int × Int × List MMl) × Int) = ((g.name, g.val, g.next, Ms), 0) := hfa
      rw [hl2] at hfa2
      have h8 : (g9.name, g9.val, g9.next, g9.mails) = (g.name, g.val, g.next, Ms) := congrArg Prod.fst hfa2
      injection h8 with _ h8
      injection h8 with _ h8
      injection h8 with _ h8
      exact h8.symm
    rw [hM2]
    intro m hm
    obtain ⟨_, _, _, _, _, e6⟩ := store_fit hst hS2 g9 (lookF_mem hl2).1
    obtain ⟨m1, m2, m3, m4, _⟩ := e6 m hm
    exact ⟨m1, m2, m3, m4⟩
  rw [map_inj hMb hbnd heq] at hfa
  exact hfa
def LenD (n c : Nat) (R : List PM) (n2 c2 : Nat) : Prop := R.length = n2 ∧ (n ≤ c ∧ c ≤ maxLen → n2 ≤ c2 ∧ c2 ≤ maxLen)
theorem l01DropR (a : Option Addr) (n c : Nat) (L : List PM) (key : ByteArray) (w : World) (hL : L.length = n) (hn : n ≤ 4096) (h : Src w a (cellsP L)) (R : List PM) (m : Nat) (hR : notK key L = R) (hm : R.length = m) :
    Calls Tryz.prog 96 #[.slice a n c, .string key] w fun e w' => ∃ a2 c2, e = .returned (.slice a2 m c2) ∧ w'.ownsRow w.heap.size 68 2 (.slice a2 m c2) m (cellsP R) ∧ Below w.heap.size w w' := by
  refine (l01Drop a n c (fK L) (fV L) key w hn (sp_src h hL)).mono ?_
  rintro e w' ⟨v, rfl, ho, hb⟩
  have e1 : dropTo (fK L) (fV L) key n = R := by
    rw [dropTo_is L key n (by omega), List.take_of_length_le (by omega), hR]
  rw [e1] at ho
  have ho2 : w'.ownsRow w.heap.size 68 2 v m (cellsP R) := by rw [← hm]; exact ho
  obtain ⟨a2, c2, rfl, _, _⟩ := own_src ho2
  exact ⟨a2, c2, rfl, ho2, hb⟩
theorem src_oneI {w : World} {x : Int} {B ty : Nat} (hB : B = w.heap.size) : Src (w.alloc (.cells #[.int .i64 x] ty)) (some ⟨B, 0, none⟩) (cellsI [x]) := by
  have hb : Box (w.alloc (.cells #[.int .i64 x] ty)) B [.int .i64 x] := Box.new hB
  refine .inr ⟨B, 0, rfl, fun j hj => ?_⟩
  have hj4 : j < 1 := hj
  rw [Nat.zero_add]
  match j, hj4 with
  | 0, _ => exact (hb 0 _ rfl).1
set_option maxHeartbeats 8000000 in
theorem l07ExpungeC (b o n c : Nat) (L : List PM) (hL : L.length = n) (hg : GoodL L) (hst : storeB L = true) (u f : ByteArray) (hsu : shortB u = true) (hsf : shortB f = true) (w : World) (h : Src w (some ⟨b, o, none⟩) (cellsP L)) (R : List PM) (G : List Int) (q : Int) (HR : Hid (exR L u f = (R, G, q))) :
    Calls Tryz.prog 52 #[.slice (some ⟨b, o, none⟩) n c, .string u, .string f] w fun e w' => ∃ a2 n2 c2 v, e = .returned (.tuple #[.slice a2 n2 c2, v, .int .i64 q]) ∧ LenD n c R n2 c2 ∧ Src w' a2 (cellsP R) ∧ w'.ownsRow w.heap.size 3 1 v G.length (cellsI G) ∧ Below w.heap.size w w' := by
  have hn60 := hg.1
  rw [hL] at hn60
  have hus := word_slash hsu
  have hfs := word_slash hsf
  have zu := short_size' hsu
  have zf := short_size' hsf
  have HLN : Hid (L.length = n ∧ Src w (some ⟨b, o, none⟩) (cellsP L)) := ⟨hL, h⟩
  have CK := l07KnownS (some ⟨b, o, none⟩) n c L hL hg u f (by omega) (by omega) w h _ rfl
  have HR1 := HR.out
  unfold exR at HR1
  obtain ⟨k1, hk1⟩ : ∃ z, knownR L u f = z := ⟨_, rfl⟩
  rw [hk1] at CK HR1
  by_cases e1 : k1 = 0
  case neg =>
    rw [if_pos e1] at HR1
    have hki : (k1 != 0) = true := by simpa using e1
    have HF : Hid (∀ W, Below w.heap.size w W → ∃ a2 n2 c2 v, Ending.returned (Value.tuple #[.slice (some ⟨b, o, none⟩) n c, .slice (some ⟨W.heap.size, 0, none⟩) 0 0, .int .i64 k1]) = Ending.returned (.tuple #[.slice a2 n2 c2, v, .int .i64 q]) ∧ LenD n c R n2 c2 ∧ Src (W.alloc (.cells #[] 3)) a2 (cellsP R) ∧ (W.alloc (.cells #[] 3)).ownsRow w.heap.size 3 1 v G.length (cellsI G) ∧ Below w.heap.size w (W.alloc (.cells #[] 3))) := fun W hW => by
      cases HR1
      exact ⟨_, _, _, _, rfl, ⟨HLN.out.1, fun h9 => h9⟩, HLN.out.2.below (hW.alloc hW.size _), own_empty rfl hW.size, hW.alloc hW.size _⟩
    clear hL h hg HR HR1 hk1 hst hsu hsf hus hfs
    go_enter Tryz.func52, Tryz.ntmps52
    go_wp2_with fail
    refine CK.mono ?_
    rintro e w1 ⟨rfl, hb1⟩
    have HF1 := HF.out w1 hb1
    have HG : Hid (∃ a2 n2 c2 v, Ending.returned (Value.tuple #[.slice (some ⟨b, o, none⟩) n c, .slice (some ⟨w1.heap.size, 0, none⟩) 0 0, .int .i64 k1]) = Ending.returned (.tuple #[.slice a2 n2 c2, v, .int .i64 q]) ∧ LenD n c R n2 c2 ∧ Src (w1.alloc (.cells #[] 3)) a2 (cellsP R) ∧ (w1.alloc (.cells #[] 3)).ownsRow w.heap.size 3 1 v G.length (cellsI G) ∧ Below w.heap.size w (w1.alloc (.cells #[] 3))) := HF1
    clear hb1 CK HF HF1
    go_wp2_with fail
    exact bodyPost_ret (v := .tuple #[.slice (some ⟨b, o, none⟩) n c, .slice (some ⟨w1.heap.size, 0, none⟩) 0 0, .int .i64 k1]) (by simp [results, Tryz.results52, go_sem]) rfl HG.out
  subst e1
  rw [if_neg (by decide)] at HR1
  obtain ⟨S, hS, _, _⟩ := take_all hst hus
  obtain ⟨hw, g, hl⟩ := known_zero hst hus hfs hS hk1
  have hrn := rnF_is hS hl
  unfold exY at HR1
  rw [hrn] at HR1
  have hfit := store_fit hst hS g (lookF_mem hl).1
  have CO := fun W (hW : Below w.heap.size w W) => l07OfS (some ⟨b, o, none⟩) n c L hL hg u f (by omega) (by omega) g.mails (fit_ms hfit) (fol_mails hst hus hfs hS hw hl) W (h.below hW)
  have hml60 : g.mails.length ≤ 60 := by
    have h9 := (store_sub hst hS g (lookF_mem hl).1).length_le
    rw [List.length_map] at h9
    omega
  have hbw : b < w.heap.size := by
    rcases h with h9 | ⟨b9, o9, e9, h9⟩
    · have h8 := cellsP_length L
      rw [h9] at h8
      have h7 := List.length_pos_of_mem (v_mem hst)
      simp at h8
      omega
    · cases e9
      have h7 := List.length_pos_of_mem (v_mem hst)
      have h6 := h9 0 (by rw [cellsP_length]; omega)
      exact World.block_lt_of_cell? _ _ h6
  obtain ⟨Ms, hMs⟩ : ∃ t, g.mails = t := ⟨_, rfl⟩
  have HFM : Hid (FitMs Ms) := by rw [← hMs]; exact fit_ms hfit
  obtain ⟨ml, hml⟩ : ∃ t, Ms.length = t := ⟨_, rfl⟩
  simp only [hMs, hml] at CO
  rw [hMs] at HR1 hml60
  rw [hml] at hml60 HR1
  have HML : Hid (Ms.length = ml) := hml
  have HRQ : Hid (exTo L u f Ms ml = R ∧ goI Ms = G ∧ 0 = q) := by cases HR1; exact ⟨rfl, rfl, rfl⟩
  clear hL h hg HR HR1 hk1 hst hsu hsf hus hfs hS hw hl hrn hfit hMs hml
  go_enter Tryz.func52, Tryz.ntmps52
  go_wp2_with fail
  refine CK.mono ?_
  rintro e w1 ⟨rfl, hb1⟩
  obtain ⟨w2, hw2⟩ : ∃ W, w1.alloc (.cells #[] 3) = W := ⟨_, rfl⟩
  have A2 : Below w1.heap.size w1 w2 := by rw [← hw2]; exact (Below.refl _ _).alloc (Nat.le_refl _) _
  have B2 : Hid (Below w.heap.size w w2) := hb1.trans (A2.mono hb1.size)
  have O2 : Hid (w2.ownsRow w.heap.size 3 1 (.slice (some ⟨w1.heap.size, 0, none⟩) 0 0) 0 (cellsI [])) := by
    show World.ownsRow _ _ _ _ _ _ _
    rw [← hw2]
    exact own_empty rfl hb1.size
  have CO2 := CO w2 B2.out
  clear hb1 CK CO A2
  go_wp2_with fail
  refine CO2.mono ?_
  rintro e w3 ⟨v3, rfl, ho3, hb3⟩
  obtain ⟨am, cm, rfl, _, _⟩ := own_src ho3
  have B3 : Hid (Below w.heap.size w w3) := B2.out.trans (hb3.mono B2.out.size)
  have O3 : Hid (w3.ownsRow w.heap.size 3 1 (.slice (some ⟨w1.heap.size, 0, none⟩) 0 0) 0 (cellsI []) ∧ w3.ownsRow w.heap.size 37 3 (.slice am ml cm) ml (cellsMl Ms)) := ⟨own_below O2.out hb3, own_mono ho3 B2.out.size⟩
  clear hb3 ho3 CO2 O2 hw2
  go_wp2_with fail
  go_loopw [10, 11, 13] (fun gv v iv wr => ∃ (j n' g' : Nat) (av : Option Addr) (vc : Nat) (a' : Option Addr) (c' : Nat), j ≤ ml ∧ n' ≤ n ∧ g' ≤ ml ∧ gv = .slice av g' vc ∧ v = .slice a' n' c' ∧ iv = .int .i64 (j : Int) ∧ Hid ((goI (Ms.take j)).length = g' ∧ (exTo L u f Ms j).length = n') ∧ Hid (wr.ownsRow w.heap.size 3 1 (.slice av g' vc) g' (cellsI (goI (Ms.take j)))) ∧ Hid (wr.ownsRow w.heap.size 37 3 (.slice am ml cm) ml (cellsMl Ms)) ∧ Hid (((a' = some ⟨b, o, none⟩ ∧ (n' = n ∧ c' = c) ∧ exTo L u f Ms j = L) ∨ wr.ownsRow w.heap.size 68 2 (.slice a' n' c') n' (cellsP (exTo L u f Ms j)))) ∧ Hid (Below w.heap.size w wr)) (fun _ _ i _ => ml - (RowKit.intOf i).toNat)
  case atStart => exact ⟨0, n, 0, _, _, _, _, by omega, Nat.le_refl _, by omega, rfl, rfl, rfl, ⟨rfl, by rw [ex_zero]; exact HLN.out.1⟩, O3.out.1, O3.out.2, .inl ⟨rfl, ⟨rfl, rfl⟩, ex_zero _ _ _ _⟩, B3.out⟩
  case round =>
    obtain ⟨j, n', g', av, vc, a', c', hj, hn', hg', rfl, rfl, rfl, hlen, hog, hom, hout, hbr⟩ := hrel
    by_cases hlt : j < ml
    · have hlti : (j : Int) < (ml : Int) := by omega
      have hjM : j < Ms.length := by rw [HML.out]; exact hlt
      have hsm : Src wr am (cellsMl Ms) := by
        obtain ⟨a9, c9, e9, s9, _⟩ := own_src hom.out
        cases e9
        exact s9
      obtain ⟨bm, om, x0, x1, x2, rfl, m0, m1, m2, hx⟩ := srcMl hsm hjM
      obtain ⟨y0, y1, y2, y3, y4⟩ := HFM.out (Ms.getD j ml0) (mem_getD' Ms ml0 j hjM)
      rw [hx.out] at y0 y1 y2 y3 y4
      dsimp only at y0 y1 y2 y3 y4
      obtain ⟨un, hun⟩ : ∃ un : Nat, (un : Int) = x0 := ⟨x0.toNat, by omega⟩
      subst hun
      have hu9 : un < 1000 := by omega
      have hx9 := hx.out
      clear hx hsm
      have hfl : x1 = 0 ∨ x1 = 1 ∨ x1 = 2 ∨ x1 = 3 := by omega
      clear y2 y3
      rcases hfl with rfl | rfl | rfl | rfl
      · have hd : delB (Ms.getD j ml0) = false := by rw [hx9]; rfl
        obtain ⟨k1, k2⟩ := ex_miss (L := L) (u := u) (f := f) hjM hd
        have HF : Hid (((goI (Ms.take (j + 1))).length = g' ∧ (exTo L u f Ms (j + 1)).length = n') ∧ wr.ownsRow w.heap.size 3 1 (.slice av g' vc) g' (cellsI (goI (Ms.take (j + 1)))) ∧ (((a' = some ⟨b, o, none⟩ ∧ (n' = n ∧ c' = c) ∧ exTo L u f Ms (j + 1) = L) ∨ wr.ownsRow w.heap.size 68 2 (.slice a' n' c') n' (cellsP (exTo L u f Ms (j + 1)))))) := by
          show _ ∧ _ ∧ _
          rw [← k1, k2]
          exact ⟨hlen.out, hog.out, hout.out⟩
        clear hd k1 k2 hx9 hlen hog hout
        go_wp2_with fail
        exact ⟨⟨j + 1, n', g', _, _, _, _, by omega, hn', hg', rfl, rfl, by go_num, HF.out.1, HF.out.2.1, hom.out, HF.out.2.2, hbr.out⟩, by simp [RowKit.intOf]; omega⟩
      · have hd : delB (Ms.getD j ml0) = false := by rw [hx9]; rfl
        obtain ⟨k1, k2⟩ := ex_miss (L := L) (u := u) (f := f) hjM hd
        have HF : Hid (((goI (Ms.take (j + 1))).length = g' ∧ (exTo L u f Ms (j + 1)).length = n') ∧ wr.ownsRow w.heap.size 3 1 (.slice av g' vc) g' (cellsI (goI (Ms.take (j + 1)))) ∧ (((a' = some ⟨b, o, none⟩ ∧ (n' = n ∧ c' = c) ∧ exTo L u f Ms (j + 1) = L) ∨ wr.ownsRow w.heap.size 68 2 (.slice a' n' c') n' (cellsP (exTo L u f Ms (j + 1)))))) := by
          show _ ∧ _ ∧ _
          rw [← k1, k2]
          exact ⟨hlen.out, hog.out, hout.out⟩
        clear hd k1 k2 hx9 hlen hog hout
        go_wp2_with fail
        exact ⟨⟨j + 1, n', g', _, _, _, _, by omega, hn', hg', rfl, rfl, by go_num, HF.out.1, HF.out.2.1, hom.out, HF.out.2.2, hbr.out⟩, by simp [RowKit.intOf]; omega⟩
      · have hd : delB (Ms.getD j ml0) = true := by rw [hx9]; rfl
        obtain ⟨k1, k2⟩ := ex_hit (L := L) (u := u) (f := f) hjM hd
        rw [hx9] at k1 k2
        dsimp only at k1 k2
        have hel := ex_len L u f Ms (j + 1)
        rw [HLN.out.1] at hel
        have hgl := go_len Ms (j + 1)
        rw [HML.out] at hgl
        obtain ⟨R9, hR9⟩ : ∃ t, exTo L u f Ms (j + 1) = t := ⟨_, rfl⟩
        obtain ⟨n9, hn9⟩ : ∃ t, R9.length = t := ⟨_, rfl⟩
        have HN9 : Hid ((exTo L u f Ms (j + 1)).length = n9 ∧ exTo L u f Ms (j + 1) = R9) := ⟨by rw [hR9]; exact hn9, hR9⟩
        rw [hR9, hn9] at hel
        have CM := fun W => l07MailS u f un hu9 (by omega) (by omega) W
        have CD : Hid (∀ W, Below w.heap.size w W → (((a' = some ⟨b, o, none⟩ ∧ (n' = n ∧ c' = c) ∧ exTo L u f Ms j = L) ∨ W.ownsRow w.heap.size 68 2 (.slice a' n' c') n' (cellsP (exTo L u f Ms j)))) → Calls Tryz.prog 96 #[.slice a' n' c', .string (mailK u f (un : Int))] W fun e w' => ∃ a2 c2, e = .returned (.slice a2 n9 c2) ∧ w'.ownsRow W.heap.size 68 2 (.slice a2 n9 c2) n9 (cellsP R9) ∧ Below W.heap.size W w') := fun W hW ho => by
          refine l01DropR a' n' c' (exTo L u f Ms j) (mailK u f (un : Int)) W hlen.out.2 (by omega) ?_ R9 n9 (by rw [k1, hR9]) hn9
          rcases ho with ⟨e1, e2, e3⟩ | ho
          · rw [e3, e1]
            exact HLN.out.2.below hW
          · obtain ⟨a9, c9, e9, s9, _⟩ := own_src ho
            cases e9
            exact s9
        have HU : Hid (cellsI (goI (Ms.take j)) ++ cellsI [(un : Int)] = cellsI (goI (Ms.take (j + 1)))) := by
          show _ = _
          rw [k2, cellsI_append]
        have HG9 : Hid ((goI (Ms.take (j + 1))).length = g' + 1) := by
          show _ = _
          rw [k2, List.length_append, hlen.out.1]
          rfl
        have hg9 : g' + 1 ≤ ml := by have h9 := HG9.out; omega
        obtain ⟨MK, hMK⟩ : ∃ t, mailK u f (un : Int) = t := ⟨_, rfl⟩
        simp only [hMK] at CM
        rw [hMK] at CD
        have HX9 : Hid (Ms.getD j ml0 = ((un : Int), 2, x2)) := hx9
        clear hd k1 k2 hx9 hlen hR9 hn9 hMK hgl
        go_wp2_with (at_builtin; refine wpList_append_src _ rfl _ _ 31 rfl w.heap.size 3 (.int .i64 0) 1 8 Tryz.underlying31 infoI rfl (by decide) (by decide) (.slice av g' vc) g' (cellsI (goI (Ms.take j))) rfl (hog.out.alloc _) (some ⟨wr.heap.size, 0, none⟩) 1 1 (cellsI [(un : Int)]) rfl rfl (src_oneI rfl) (cellsI_one _) (by omega) (by have := hbr.out.size; simp; omega) ?_)
        intro v' w4 hown hgrow
        obtain ⟨a4, d4, rfl, _, _⟩ := own_src hown
        have B4 : Hid (Below w.heap.size w w4) := (hbr.out.alloc hbr.out.size _).grown hgrow (le_alloc hbr.out.size _) (fun g e => (hog.out.lt g e).1)
        have O4 : Hid (w4.ownsRow w.heap.size 3 1 (.slice a4 (g' + 1) d4) (g' + 1) (cellsI (goI (Ms.take (j + 1))))) := own_congr hown HU.out
        have hgo := hog.out.alloc (.cells #[.int .i64 (un : Int)] 3)
        have M4 : Hid (w4.ownsRow w.heap.size 37 3 (.slice (some ⟨bm, om, none⟩) ml cm) ml (cellsMl Ms)) := own_grown (hom.out.alloc _) hgrow (fun k e e2 => own_ne (hom.out.alloc (.cells #[.int .i64 (un : Int)] 3)) hgo (by decide) k e e2)
        have T4 : Hid (((a' = some ⟨b, o, none⟩ ∧ (n' = n ∧ c' = c) ∧ exTo L u f Ms j = L) ∨ w4.ownsRow w.heap.size 68 2 (.slice a' n' c') n' (cellsP (exTo L u f Ms j)))) := by
          rcases hout.out with h9 | h9
          · exact .inl h9
          · exact .inr (own_grown (h9.alloc _) hgrow (fun k e e2 => own_ne (h9.alloc (.cells #[.int .i64 (un : Int)] 3)) hgo (by decide) k e e2))
        have m04 : w4.cell? ⟨bm, om + j * 3, none⟩ = some (.int .i64 (un : Int)) := by
          obtain ⟨a9, c9, e9, s9, _⟩ := own_src M4.out
          cases e9
          rcases s9 with s9 | ⟨b8, o8, e8, s8⟩
          · have h7 := cellsMl_length Ms
            rw [s9] at h7
            simp at h7
            omega
          · cases e8
            have h6 := s8 (j * 3) (by rw [cellsMl_length]; omega)
            rw [h6]
            have h5 := (cellsMl_get Ms j hjM).1
            rw [HX9.out] at h5
            rw [List.getD_eq_getElem?_getD, h5]
            rfl
        clear hown hgrow hgo hog hom hout m0 m1 m2
        go_wp2_with fail
        refine (CM _).mono ?_
        rintro e w5 ⟨rfl, hb5⟩
        have B5 : Hid (Below w.heap.size w w5) := B4.out.trans (hb5.mono B4.out.size)
        have T5 : Hid (((a' = some ⟨b, o, none⟩ ∧ (n' = n ∧ c' = c) ∧ exTo L u f Ms j = L) ∨ w5.ownsRow w.heap.size 68 2 (.slice a' n' c') n' (cellsP (exTo L u f Ms j)))) := by
          rcases T4.out with h9 | h9
          · exact .inl h9
          · exact .inr (own_below h9 hb5)
        have O5 : Hid (w5.ownsRow w.heap.size 3 1 (.slice a4 (g' + 1) d4) (g' + 1) (cellsI (goI (Ms.take (j + 1)))) ∧ w5.ownsRow w.heap.size 37 3 (.slice (some ⟨bm, om, none⟩) ml cm) ml (cellsMl Ms)) := ⟨own_below O4.out hb5, own_below M4.out hb5⟩
        have CD5 := CD.out w5 B5.out T5.out
        clear hb5 CM CD O4 M4 T4 T5
        go_wp2_with fail
        refine CD5.mono ?_
        rintro e w6 ⟨a6, c6, rfl, ho6, hb6⟩
        have B6 : Hid (Below w.heap.size w w6) := B5.out.trans (hb6.mono B5.out.size)
        have O6 : Hid (w6.ownsRow w.heap.size 3 1 (.slice a4 (g' + 1) d4) (g' + 1) (cellsI (goI (Ms.take (j + 1)))) ∧ w6.ownsRow w.heap.size 37 3 (.slice (some ⟨bm, om, none⟩) ml cm) ml (cellsMl Ms) ∧ w6.ownsRow w.heap.size 68 2 (.slice a6 n9 c6) n9 (cellsP (exTo L u f Ms (j + 1)))) := ⟨own_below O5.out.1 hb6, own_below O5.out.2 hb6, by rw [HN9.out.2]; exact own_mono ho6 B5.out.size⟩
        clear hb6 ho6 CD5 O5
        go_wp2_with fail
        exact ⟨⟨j + 1, n9, g' + 1, _, _, _, _, by omega, hel, hg9, rfl, rfl, by go_num, ⟨HG9.out, HN9.out.1⟩, O6.out.1, O6.out.2.1, .inr O6.out.2.2, B6.out⟩, by simp [RowKit.intOf]; omega⟩
      · have hd : delB (Ms.getD j ml0) = true := by rw [hx9]; rfl
        obtain ⟨k1, k2⟩ := ex_hit (L := L) (u := u) (f := f) hjM hd
        rw [hx9] at k1 k2
        dsimp only at k1 k2
        have hel := ex_len L u f Ms (j + 1)
        rw [HLN.out.1] at hel
        have hgl := go_len Ms (j + 1)
        rw [HML.out] at hgl
        obtain ⟨R9, hR9⟩ : ∃ t, exTo L u f Ms (j + 1) = t := ⟨_, rfl⟩
        obtain ⟨n9, hn9⟩ : ∃ t, R9.length = t := ⟨_, rfl⟩
        have HN9 : Hid ((exTo L u f Ms (j + 1)).length = n9 ∧ exTo L u f Ms (j + 1) = R9) := ⟨by rw [hR9]; exact hn9, hR9⟩
        rw [hR9, hn9] at hel
        have CM := fun W => l07MailS u f un hu9 (by omega) (by omega) W
        have CD : Hid (∀ W, Below w.heap.size w W → (((a' = some ⟨b, o, none⟩ ∧ (n' = n ∧ c' = c) ∧ exTo L u f Ms j = L) ∨ W.ownsRow w.heap.size 68 2 (.slice a' n' c') n' (cellsP (exTo L u f Ms j)))) → Calls Tryz.prog 96 #[.slice a' n' c', .string (mailK u f (un : Int))] W fun e w' => ∃ a2 c2, e = .returned (.slice a2 n9 c2) ∧ w'.ownsRow W.heap.size 68 2 (.slice a2 n9 c2) n9 (cellsP R9) ∧ Below W.heap.size W w') := fun W hW ho => by
          refine l01DropR a' n' c' (exTo L u f Ms j) (mailK u f (un : Int)) W hlen.out.2 (by omega) ?_ R9 n9 (by rw [k1, hR9]) hn9
          rcases ho with ⟨e1, e2, e3⟩ | ho
          · rw [e3, e1]
            exact HLN.out.2.below hW
          · obtain ⟨a9, c9, e9, s9, _⟩ := own_src ho
            cases e9
            exact s9
        have HU : Hid (cellsI (goI (Ms.take j)) ++ cellsI [(un : Int)] = cellsI (goI (Ms.take (j + 1)))) := by
          show _ = _
          rw [k2, cellsI_append]
        have HG9 : Hid ((goI (Ms.take (j + 1))).length = g' + 1) := by
          show _ = _
          rw [k2, List.length_append, hlen.out.1]
          rfl
        have hg9 : g' + 1 ≤ ml := by have h9 := HG9.out; omega
        obtain ⟨MK, hMK⟩ : ∃ t, mailK u f (un : Int) = t := ⟨_, rfl⟩
        simp only [hMK] at CM
        rw [hMK] at CD
        have HX9 : Hid (Ms.getD j ml0 = ((un : Int), 3, x2)) := hx9
        clear hd k1 k2 hx9 hlen hR9 hn9 hMK hgl
        go_wp2_with (at_builtin; refine wpList_append_src _ rfl _ _ 31 rfl w.heap.size 3 (.int .i64 0) 1 8 Tryz.underlying31 infoI rfl (by decide) (by decide) (.slice av g' vc) g' (cellsI (goI (Ms.take j))) rfl (hog.out.alloc _) (some ⟨wr.heap.size, 0, none⟩) 1 1 (cellsI [(un : Int)]) rfl rfl (src_oneI rfl) (cellsI_one _) (by omega) (by have := hbr.out.size; simp; omega) ?_)
        intro v' w4 hown hgrow
        obtain ⟨a4, d4, rfl, _, _⟩ := own_src hown
        have B4 : Hid (Below w.heap.size w w4) := (hbr.out.alloc hbr.out.size _).grown hgrow (le_alloc hbr.out.size _) (fun g e => (hog.out.lt g e).1)
        have O4 : Hid (w4.ownsRow w.heap.size 3 1 (.slice a4 (g' + 1) d4) (g' + 1) (cellsI (goI (Ms.take (j + 1))))) := own_congr hown HU.out
        have hgo := hog.out.alloc (.cells #[.int .i64 (un : Int)] 3)
        have M4 : Hid (w4.ownsRow w.heap.size 37 3 (.slice (some ⟨bm, om, none⟩) ml cm) ml (cellsMl Ms)) := own_grown (hom.out.alloc _) hgrow (fun k e e2 => own_ne (hom.out.alloc (.cells #[.int .i64 (un : Int)] 3)) hgo (by decide) k e e2)
        have T4 : Hid (((a' = some ⟨b, o, none⟩ ∧ (n' = n ∧ c' = c) ∧ exTo L u f Ms j = L) ∨ w4.ownsRow w.heap.size 68 2 (.slice a' n' c') n' (cellsP (exTo L u f Ms j)))) := by
          rcases hout.out with h9 | h9
          · exact .inl h9
          · exact .inr (own_grown (h9.alloc _) hgrow (fun k e e2 => own_ne (h9.alloc (.cells #[.int .i64 (un : Int)] 3)) hgo (by decide) k e e2))
        have m04 : w4.cell? ⟨bm, om + j * 3, none⟩ = some (.int .i64 (un : Int)) := by
          obtain ⟨a9, c9, e9, s9, _⟩ := own_src M4.out
          cases e9
          rcases s9 with s9 | ⟨b8, o8, e8, s8⟩
          · have h7 := cellsMl_length Ms
            rw [s9] at h7
            simp at h7
            omega
          · cases e8
            have h6 := s8 (j * 3) (by rw [cellsMl_length]; omega)
            rw [h6]
            have h5 := (cellsMl_get Ms j hjM).1
            rw [HX9.out] at h5
            rw [List.getD_eq_getElem?_getD, h5]
            rfl
        clear hown hgrow hgo hog hom hout m0 m1 m2
        go_wp2_with fail
        refine (CM _).mono ?_
        rintro e w5 ⟨rfl, hb5⟩
        have B5 : Hid (Below w.heap.size w w5) := B4.out.trans (hb5.mono B4.out.size)
        have T5 : Hid (((a' = some ⟨b, o, none⟩ ∧ (n' = n ∧ c' = c) ∧ exTo L u f Ms j = L) ∨ w5.ownsRow w.heap.size 68 2 (.slice a' n' c') n' (cellsP (exTo L u f Ms j)))) := by
          rcases T4.out with h9 | h9
          · exact .inl h9
          · exact .inr (own_below h9 hb5)
        have O5 : Hid (w5.ownsRow w.heap.size 3 1 (.slice a4 (g' + 1) d4) (g' + 1) (cellsI (goI (Ms.take (j + 1)))) ∧ w5.ownsRow w.heap.size 37 3 (.slice (some ⟨bm, om, none⟩) ml cm) ml (cellsMl Ms)) := ⟨own_below O4.out hb5, own_below M4.out hb5⟩
        have CD5 := CD.out w5 B5.out T5.out
        clear hb5 CM CD O4 M4 T4 T5
        go_wp2_with fail
        refine CD5.mono ?_
        rintro e w6 ⟨a6, c6, rfl, ho6, hb6⟩
        have B6 : Hid (Below w.heap.size w w6) := B5.out.trans (hb6.mono B5.out.size)
        have O6 : Hid (w6.ownsRow w.heap.size 3 1 (.slice a4 (g' + 1) d4) (g' + 1) (cellsI (goI (Ms.take (j + 1)))) ∧ w6.ownsRow w.heap.size 37 3 (.slice (some ⟨bm, om, none⟩) ml cm) ml (cellsMl Ms) ∧ w6.ownsRow w.heap.size 68 2 (.slice a6 n9 c6) n9 (cellsP (exTo L u f Ms (j + 1)))) := ⟨own_below O5.out.1 hb6, own_below O5.out.2 hb6, by rw [HN9.out.2]; exact own_mono ho6 B5.out.size⟩
        clear hb6 ho6 CD5 O5
        go_wp2_with fail
        exact ⟨⟨j + 1, n9, g' + 1, _, _, _, _, by omega, hel, hg9, rfl, rfl, by go_num, ⟨HG9.out, HN9.out.1⟩, O6.out.1, O6.out.2.1, .inr O6.out.2.2, B6.out⟩, by simp [RowKit.intOf]; omega⟩
    · obtain rfl : j = ml := by omega
      have hlti : ¬ (j : Int) < (j : Int) := by omega
      have HF : Hid (LenD n c R n' c' ∧ Src wr a' (cellsP R) ∧ wr.ownsRow w.heap.size 3 1 (.slice av g' vc) G.length (cellsI G) ∧ Below w.heap.size w wr) := by
        have e8 : Ms.take j = Ms := List.take_of_length_le (by rw [HML.out]; exact Nat.le_refl _)
        have h8 := hlen.out
        have h7 := hog.out
        rw [e8, HRQ.out.2.1] at h7
        rw [e8, HRQ.out.2.1] at h8
        rw [HRQ.out.1] at h8
        refine ⟨⟨h8.2, ?_⟩, ?_, by rw [h8.1]; exact h7, hbr.out⟩
        · rcases hout.out with ⟨f1, f2, f3⟩ | ho
          · rw [f2.1, f2.2]
            exact fun h9 => h9
          · exact fun _ => own_capx ho
        rcases hout.out with ⟨f1, f2, f3⟩ | ho
        · rw [HRQ.out.1] at f3
          rw [f3, f1]
          exact HLN.out.2.below hbr.out
        · rw [HRQ.out.1] at ho
          obtain ⟨a9, c9, e9, s9, _⟩ := own_src ho
          cases e9
          exact s9
      have HQ0 : Hid (0 = q) := HRQ.out.2.2
      clear hlen hog hom hout
      go_wp2_with fail
      exact bodyPost_ret (v := .tuple #[.slice a' n' c', .slice av g' vc, .int .i64 0]) (by simp [results, Tryz.results52, go_sem]) rfl ⟨_, _, _, _, by rw [HQ0.out], HF.out⟩
theorem l01DropO (a : Option Addr) (n c : Nat) (L : List PM) (key : ByteArray) (w : World) (hL : L.length = n) (hn : n ≤ 4096) (h : Src w a (cellsP L)) (m : Nat) (hm : (notK key L).length = m) (h1 : 1 ≤ m) :
    Calls Tryz.prog 96 #[.slice a n c, .string key] w fun e w' => ∃ g cap, e = .returned (.slice (some ⟨g, 0, none⟩) m cap) ∧ m ≤ cap ∧ cap ≤ maxLen ∧ Src w' (some ⟨g, 0, none⟩) (cellsP (notK key L)) ∧ Below w.heap.size w w' := by
  refine (l01Drop a n c (fK L) (fV L) key w hn (sp_src h hL)).mono ?_
  rintro e w' ⟨v, rfl, ho, hb⟩
  have e1 : dropTo (fK L) (fV L) key n = notK key L := by
    rw [dropTo_is L key n (by omega), List.take_of_length_le (by omega)]
  rw [e1] at ho
  have ho2 : w'.ownsRow w.heap.size 68 2 v m (cellsP (notK key L)) := by rw [← hm]; exact ho
  obtain ⟨g, cap, rfl, h2, h3⟩ := own_someP ho2 h1
  exact ⟨g, cap, rfl, h2, (own_capx ho2).2, h3, hb⟩
theorem fresh_ok {N W R : List PM} {u f : ByteArray} {nx : Int} (hu : UpL N) (h : freshR N W u f nx = (R, 0)) : R.length ≤ 60 ∧ UpL R := by
  unfold freshR at h
  split at h
  · cases h
  · unfold fitsR at h
    split at h
    · cases h
    · rename_i h9
      cases h
      exact ⟨by omega, ins_up (ins_up hu)⟩
theorem map_getD {u tf : ByteArray} (Ms : List MMl) (j : Nat) (hj : j < Ms.length) : (Ms.map (mailP u tf)).getD j p0 = mailP u tf (Ms.getD j ml0) := by
  rw [List.getD_eq_getElem?_getD, List.getD_eq_getElem?_getD, List.getElem?_map, List.getElem?_eq_getElem hj]
  rfl
theorem drop_good {L : List PM} {u f : ByteArray} (h : storeB L = true) : GoodW (rnN L u f) ∧ 1 ≤ (rnN L u f).length := by
  have hg := (store_facts h).1
  have hm : (vK, bs (itoa (nextM L))) ∈ rnN L u f := by
    show _ ∈ notK (folderK u f) (emptyR L u f)
    rw [drop_eq]
    exact List.mem_filter.2 ⟨v_mem h, pass_v u f _⟩
  refine ⟨?_, List.length_pos_of_mem hm⟩
  show GoodW (notK (folderK u f) (emptyR L u f))
  rw [drop_eq]
  have := List.length_filter_le (passB u f) L
  have := hg.1
  exact ⟨by omega, fun x hx => hg.2.1 x (List.mem_filter.1 hx).1, hg.2.2.sublist List.filter_sublist⟩
set_option maxHeartbeats 8000000 in
theorem l07RenameC (b o n c : Nat) (L : List PM) (hL : L.length = n) (hc : n ≤ c) (hc9 : c ≤ maxLen) (hg : GoodL L) (hst : storeB L = true) (u f tf : ByteArray) (hsu : shortB u = true) (hsf : shortB f = true) (hstf : shortB tf = true) (n0 : 0 ≤ nextM L) (w : World) (h : Src w (some ⟨b, o, none⟩) (cellsP L)) (R : List PM) (q : Int) (HR : Hid (rnR L u f tf = (R, q))) :
    Calls Tryz.prog 99 #[.slice (some ⟨b, o, none⟩) n c, .string u, .string f, .string tf] w fun e w' => ∃ a2 n2 c2, e = .returned (.tuple #[.slice a2 n2 c2, .int .i64 q]) ∧ LenC R n2 c2 ∧ Src w' a2 (cellsP R) ∧ Below w.heap.size w w' := by
  have hn60 := hg.1
  rw [hL] at hn60
  have hus := word_slash hsu
  have hfs := word_slash hsf
  have zu := short_size' hsu
  have zf := short_size' hsf
  have zt := short_size' hstf
  have HLN : Hid (LenC L n c ∧ Src w (some ⟨b, o, none⟩) (cellsP L)) := ⟨⟨hL, hc, hc9⟩, h⟩
  have HBAD : Hid (∀ (W : World) (z : Int), Below w.heap.size w W → (L, z) = (R, q) → ∃ a2 n2 c2, Ending.returned (Value.tuple #[.slice (some ⟨b, o, none⟩) n c, .int .i64 z]) = Ending.returned (.tuple #[.slice a2 n2 c2, .int .i64 q]) ∧ LenC R n2 c2 ∧ Src W a2 (cellsP R) ∧ Below w.heap.size w W) := fun W z hW he => by
    cases he
    exact ⟨_, _, _, rfl, HLN.out.1, HLN.out.2.below hW, hW⟩
  have CK := l07KnownS (some ⟨b, o, none⟩) n c L hL hg u f (by omega) (by omega) w h _ rfl
  have CK2 := fun W (hW : Below w.heap.size w W) => l07KnownS (some ⟨b, o, none⟩) n c L hL hg u tf (by omega) (by omega) W (h.below hW) _ rfl
  have HR1 := HR.out
  unfold rnR at HR1
  obtain ⟨k1, hk1⟩ : ∃ z, knownR L u f = z := ⟨_, rfl⟩
  obtain ⟨k2, hk2⟩ : ∃ z, knownR L u tf = z := ⟨_, rfl⟩
  rw [hk1] at CK HR1
  simp only [hk2] at CK2
  rw [hk2] at HR1
  by_cases e1 : k1 = 0
  case neg =>
    rw [if_pos e1] at HR1
    have HFH : Hid (∀ W, Below w.heap.size w W → ∃ a2 n2 c2, Ending.returned (Value.tuple #[.slice (some ⟨b, o, none⟩) n c, .int .i64 k1]) = Ending.returned (.tuple #[.slice a2 n2 c2, .int .i64 q]) ∧ LenC R n2 c2 ∧ Src W a2 (cellsP R) ∧ Below w.heap.size w W) := fun W hW => HBAD.out W k1 hW HR1
    have hki : (k1 != 0) = true := by simpa using e1
    clear hL h hg HR HR1 hk1 hk2 CK2 HBAD hst hsu hsf hstf hus hfs n0
    go_enter Tryz.func99, Tryz.ntmps99
    go_wp2_with fail
    refine CK.mono ?_
    rintro e w1 ⟨rfl, hb1⟩
    have B1 : Hid (Below w.heap.size w w1) := hb1
    clear hb1 CK
    have HG : Hid (∃ a2 n2 c2, Ending.returned (Value.tuple #[.slice (some ⟨b, o, none⟩) n c, .int .i64 k1]) = Ending.returned (.tuple #[.slice a2 n2 c2, .int .i64 q]) ∧ LenC R n2 c2 ∧ Src w1 a2 (cellsP R) ∧ Below w.heap.size w w1) := HFH.out w1 B1.out
    clear HFH
    go_wp2_with fail
    exact bodyPost_ret (v := .tuple #[.slice (some ⟨b, o, none⟩) n c, .int .i64 k1]) (by simp [results, Tryz.results99, go_sem]) rfl HG.out
  subst e1
  rw [if_neg (by decide)] at HR1
  by_cases hi : f = inboxT
  case pos =>
    rw [if_pos hi] at HR1
    have hib : (f.toList == [105, 110, 98, 111, 120]) = true := by rw [hi, ByteArray.toList_eq]; rfl
    have HFH : Hid (∀ W, Below w.heap.size w W → ∃ a2 n2 c2, Ending.returned (Value.tuple #[.slice (some ⟨b, o, none⟩) n c, .int .i64 11]) = Ending.returned (.tuple #[.slice a2 n2 c2, .int .i64 q]) ∧ LenC R n2 c2 ∧ Src W a2 (cellsP R) ∧ Below w.heap.size w W) := fun W hW => HBAD.out W 11 hW HR1
    clear hL h hg HR HR1 hk1 hk2 CK2 HBAD hst hsu hsf hstf hus hfs n0 hi
    go_enter Tryz.func99, Tryz.ntmps99
    go_wp2_with fail
    refine CK.mono ?_
    rintro e w1 ⟨rfl, hb1⟩
    have B1 : Hid (Below w.heap.size w w1) := hb1
    clear hb1 CK
    have HG : Hid (∃ a2 n2 c2, Ending.returned (Value.tuple #[.slice (some ⟨b, o, none⟩) n c, .int .i64 11]) = Ending.returned (.tuple #[.slice a2 n2 c2, .int .i64 q]) ∧ LenC R n2 c2 ∧ Src w1 a2 (cellsP R) ∧ Below w.heap.size w w1) := HFH.out w1 B1.out
    clear HFH
    go_wp2_with fail
    exact bodyPost_ret (v := .tuple #[.slice (some ⟨b, o, none⟩) n c, .int .i64 11]) (by simp [results, Tryz.results99, go_sem]) rfl HG.out
  rw [if_neg hi] at HR1
  have hib : (f.toList == [105, 110, 98, 111, 120]) = false := by
    refine beq_eq_false_iff_ne.2 fun e => hi ?_
    refine bs_inj ?_
    rw [← ByteArray.toList_eq, e]
  by_cases e2 : k2 = 0
  case pos =>
    subst e2
    rw [if_pos rfl] at HR1
    have HFH : Hid (∀ W, Below w.heap.size w W → ∃ a2 n2 c2, Ending.returned (Value.tuple #[.slice (some ⟨b, o, none⟩) n c, .int .i64 9]) = Ending.returned (.tuple #[.slice a2 n2 c2, .int .i64 q]) ∧ LenC R n2 c2 ∧ Src W a2 (cellsP R) ∧ Below w.heap.size w W) := fun W hW => HBAD.out W 9 hW HR1
    clear hL h hg HR HR1 hk1 hk2 HBAD hst hsu hsf hstf hus hfs n0 hi
    go_enter Tryz.func99, Tryz.ntmps99
    go_wp2_with fail
    refine CK.mono ?_
    rintro e w1 ⟨rfl, hb1⟩
    have B1 : Hid (Below w.heap.size w w1) := hb1
    clear hb1 CK
    have CK3 := CK2 w1 B1.out
    clear CK2
    go_wp2_with fail
    refine CK3.mono ?_
    rintro e w2 ⟨rfl, hb2⟩
    have B2 : Hid (Below w.heap.size w w2) := B1.out.trans (hb2.mono B1.out.size)
    clear hb2 CK3
    have HG : Hid (∃ a2 n2 c2, Ending.returned (Value.tuple #[.slice (some ⟨b, o, none⟩) n c, .int .i64 9]) = Ending.returned (.tuple #[.slice a2 n2 c2, .int .i64 q]) ∧ LenC R n2 c2 ∧ Src w2 a2 (cellsP R) ∧ Below w.heap.size w w2) := HFH.out w2 B2.out
    clear HFH
    go_wp2_with fail
    exact bodyPost_ret (v := .tuple #[.slice (some ⟨b, o, none⟩) n c, .int .i64 9]) (by simp [results, Tryz.results99, go_sem]) rfl HG.out
  rw [if_neg e2] at HR1
  have hk2i : (k2 == 0) = false := by simpa using e2
  obtain ⟨S, hS, _, _⟩ := take_all hst hus
  obtain ⟨hw, g, hl⟩ := known_zero hst hus hfs hS hk1
  rw [rnF_is hS hl] at HR1
  have hfit := store_fit hst hS g (lookF_mem hl).1
  have CT := fun W (hW : Below w.heap.size w W) => l07AtS (some ⟨b, o, none⟩) n c L hL hg u f (by omega) (by omega) g.mails (fit_ms hfit) (fol_mails hst hus hfs hS hw hl) g.val g.next (look_meta hst hS hl) W (h.below hW)
  have hml60 : g.mails.length ≤ 60 := by
    have h2 := (store_sub hst hS g (lookF_mem hl).1).length_le
    rw [List.length_map] at h2
    omega
  have CE := fun W (hW : Below w.heap.size w W) => l07EmptyS (some ⟨b, o, none⟩) n c L hL hg u f (by omega) (by omega) W (h.below hW)
  have CF := fun W => l07FolderS u f W (by omega) (by omega)
  have hel : (emptyR L u f).length ≤ n := by rw [← hL]; exact List.length_filter_le _ _
  obtain ⟨hgw, h1N⟩ := drop_good (u := u) (f := f) hst
  have hnn := next_drop (u := u) (f := f) hst
  have hn0 : 0 ≤ nextM (rnN L u f) := by rw [hnn]; exact n0
  obtain ⟨R1, q1, hR1⟩ : ∃ R1 q1, freshR (rnN L u f) L u tf g.next = (R1, q1) := ⟨_, _, rfl⟩
  rw [hR1] at HR1
  obtain ⟨m, hm⟩ : ∃ m, (rnN L u f).length = m := ⟨_, rfl⟩
  have hm64 : m ≤ 64 := by rw [← hm]; exact hgw.1
  have h1m : 1 ≤ m := by rw [← hm]; exact h1N
  have CD := fun (a2 : Option Addr) (n2 c2 : Nat) (W : World) (j1 : (emptyR L u f).length = n2) (j2 : Src W a2 (cellsP (emptyR L u f))) => l01DropO a2 n2 c2 (emptyR L u f) (folderK u f) W j1 (by omega) j2 m hm h1m
  have CR := fun (g2 cap : Nat) (W : World) (hW : Below w.heap.size w W) (j1 : m ≤ cap) (j2 : cap ≤ maxLen) (j3 : Src W (some ⟨g2, 0, none⟩) (cellsP (rnN L u f))) => l07FreshX g2 0 m cap (rnN L u f) hm hm64 j1 j2 hgw (some ⟨b, o, none⟩) n c L hL u tf g.next W j3 (h.below hW) (by omega) (by omega) hn0 hfit.2.2.1 hfit.2.2.2.1 R1 q1 hR1
  have HRU : Hid (q1 = 0 → R1.length ≤ 60 ∧ UpL R1) := fun e => by
    subst e
    exact fresh_ok hgw.2.2 hR1
  obtain ⟨ER, hER⟩ : ∃ t, emptyR L u f = t := ⟨_, rfl⟩
  have CD2 : Hid (∀ (a2 : Option Addr) (n2 c2 : Nat) (W : World), ER.length = n2 → Src W a2 (cellsP ER) → Calls Tryz.prog 96 #[.slice a2 n2 c2, .string (folderK u f)] W fun e w' => ∃ g cap, e = .returned (.slice (some ⟨g, 0, none⟩) m cap) ∧ m ≤ cap ∧ cap ≤ maxLen ∧ Src w' (some ⟨g, 0, none⟩) (cellsP (rnN L u f)) ∧ Below W.heap.size W w') := fun a2 n2 c2 W j1 j2 => CD a2 n2 c2 W (by rw [hER]; exact j1) (by rw [hER]; exact j2)
  simp only [hER] at CE
  obtain ⟨NN, hNN⟩ : ∃ t, rnN L u f = t := ⟨_, rfl⟩
  rw [hNN] at CD2
  simp only [hNN] at CR
  obtain ⟨KF, hKF⟩ : ∃ t, folderK u f = t := ⟨_, rfl⟩
  rw [hKF] at CD2
  simp only [hKF] at CF
  obtain ⟨gv, hgv⟩ : ∃ t, g.val = t := ⟨_, rfl⟩
  obtain ⟨gn, hgn⟩ : ∃ t, g.next = t := ⟨_, rfl⟩
  obtain ⟨Ms, hMs⟩ : ∃ t, g.mails = t := ⟨_, rfl⟩
  have HFM : Hid (FitMs Ms) := by rw [← hMs]; exact fit_ms hfit
  obtain ⟨ml, hml⟩ : ∃ t, Ms.length = t := ⟨_, rfl⟩
  simp only [hgv, hgn, hMs, hml] at CT
  simp only [hgn] at CR
  rw [hMs] at HR1 hml60
  rw [hml] at hml60
  obtain ⟨X, hX⟩ : ∃ t, Ms.map (mailP u tf) = t := ⟨_, rfl⟩
  rw [hX] at HR1
  have HX : Hid (Ms.map (mailP u tf) = X) := hX
  have HML : Hid (Ms.length = ml) := hml
  have HRT : Hid (rnT L X (R1, q1) = (R, q)) := HR1
  clear hL h hg HR HR1 hk1 hk2 hst hsu hsf hstf hus hfs n0 hi e2 hS hl hw hfit hgw hnn hn0 hR1 hm CD hER hNN hKF hgv hgn hMs hml hX hel h1N
  go_enter Tryz.func99, Tryz.ntmps99
  go_wp2_with fail
  refine CK.mono ?_
  rintro e w1 ⟨rfl, hb1⟩
  have B1 : Hid (Below w.heap.size w w1) := hb1
  clear hb1 CK
  have CK3 := CK2 w1 B1.out
  clear CK2
  go_wp2_with fail
  refine CK3.mono ?_
  rintro e w2 ⟨rfl, hb2⟩
  have B2 : Hid (Below w.heap.size w w2) := B1.out.trans (hb2.mono B1.out.size)
  clear hb2 CK3
  have CT2 := CT w2 B2.out
  clear CT
  go_wp2_with fail
  refine CT2.mono ?_
  rintro e w3 ⟨am, cm, rfl, ho3, hb3⟩
  have B3 : Hid (Below w.heap.size w w3) := B2.out.trans (hb3.mono B2.out.size)
  have hs3 : Src w3 am (cellsMl Ms) := by
    obtain ⟨a9, c9, e9, hs9, _⟩ := own_src ho3
    cases e9
    exact hs9
  obtain ⟨w4, hw4⟩ : ∃ W, w3.alloc (.cells #[.string f, .int .i64 gv, .int .i64 gn, .slice am ml cm] 28) = W := ⟨_, rfl⟩
  have A4 : Below w3.heap.size w3 w4 := by rw [← hw4]; exact (Below.refl _ _).alloc (Nat.le_refl _) _
  have B4 : Hid (Below w.heap.size w w4) := B3.out.trans (A4.mono B3.out.size)
  have X4 : Hid (Box w4 w3.heap.size [.string f, .int .i64 gv, .int .i64 gn, .slice am ml cm]) := by show Box _ _ _; rw [← hw4]; exact Box.new rfl
  have S4 : Hid (Src w4 am (cellsMl Ms)) := hs3.below A4
  have CE4 := CE w4 B4.out
  obtain ⟨x42, _⟩ := X4.out 2 _ rfl
  clear ho3 hb3 hs3 CT2 CE A4
  go_wp2_with fail
  refine CE4.mono ?_
  rintro e w5 ⟨a5, n5, c5, rfl, j1, j2, hb5⟩
  have B5 : Hid (Below w.heap.size w w5) := B4.out.trans (hb5.mono B4.out.size)
  have X5 : Hid (Box w5 w3.heap.size [.string f, .int .i64 gv, .int .i64 gn, .slice am ml cm]) := Box.below X4.out hb5
  have S5 : Hid (Src w5 am (cellsMl Ms)) := S4.out.below hb5
  have CD5 := CD2.out a5 n5 c5 w5 j1 j2
  clear CE4 hb5 j1 j2 CD2 hw4 x42
  go_wp2_with fail
  refine (CF _).mono ?_
  rintro e w6 ⟨rfl, hw6⟩
  obtain rfl := hw6
  clear CF
  go_wp2_with fail
  refine CD5.mono ?_
  rintro e w7 ⟨g7, cap7, rfl, j1, j2, j3, hb7⟩
  have B7 : Hid (Below w.heap.size w w7) := B5.out.trans (hb7.mono B5.out.size)
  have X7 : Hid (Box w7 w3.heap.size [.string f, .int .i64 gv, .int .i64 gn, .slice am ml cm]) := Box.below X5.out hb7
  have S7 : Hid (Src w7 am (cellsMl Ms)) := S5.out.below hb7
  have CR7 := CR g7 cap7 w7 B7.out j1 j2 j3
  obtain ⟨x72, _⟩ := X7.out 2 _ rfl
  clear CD5 hb7 j1 j2 j3 CR
  go_wp2_with fail
  refine CR7.mono ?_
  rintro e w8 ⟨a8, n8, c8, rfl, j1, j2, hb8, j3⟩
  have B8 : Hid (Below w.heap.size w w8) := B7.out.trans (hb8.mono B7.out.size)
  have X8 : Hid (Box w8 w3.heap.size [.string f, .int .i64 gv, .int .i64 gn, .slice am ml cm]) := Box.below X7.out hb8
  have S8 : Hid (Src w8 am (cellsMl Ms)) := S7.out.below hb8
  have HJ : Hid (R1.length = n8 ∧ Src w8 a8 (cellsP R1) ∧ FreshEnd q1 a8 n8 c8 n c) := ⟨j1, j2, j3⟩
  clear CR7 hb8 j1 j2 j3 x72
  by_cases eq1 : q1 = 0
  case neg =>
    have HRT9 := HRT.out
    unfold rnT at HRT9
    rw [if_pos eq1] at HRT9
    have HFH : Hid (∀ W, Below w.heap.size w W → ∃ a2 n2 c2, Ending.returned (Value.tuple #[.slice (some ⟨b, o, none⟩) n c, .int .i64 q1]) = Ending.returned (.tuple #[.slice a2 n2 c2, .int .i64 q]) ∧ LenC R n2 c2 ∧ Src W a2 (cellsP R) ∧ Below w.heap.size w W) := fun W hW => HBAD.out W q1 hW HRT9
    have hqi : (q1 != 0) = true := by simpa using eq1
    clear HRT9 HRT HBAD
    have HG : Hid (∃ a2 n2 c2, Ending.returned (Value.tuple #[.slice (some ⟨b, o, none⟩) n c, .int .i64 q1]) = Ending.returned (.tuple #[.slice a2 n2 c2, .int .i64 q]) ∧ LenC R n2 c2 ∧ Src w8 a2 (cellsP R) ∧ Below w.heap.size w w8) := HFH.out w8 B8.out
    clear HFH
    go_wp2_with fail
    exact bodyPost_ret (v := .tuple #[.slice (some ⟨b, o, none⟩) n c, .int .i64 q1]) (by simp [results, Tryz.results99, go_sem]) rfl HG.out
  subst eq1
  obtain ⟨⟨g8, rfl⟩, hnc, hc8⟩ := HJ.out.2.2.1 rfl
  obtain ⟨h60, hup⟩ := HRU.out rfl
  have HQ : Hid (insAll X R1 = R ∧ 0 = q) := by
    have h9 := HRT.out
    unfold rnT at h9
    rw [if_neg (by simp)] at h9
    cases h9
    exact ⟨rfl, rfl⟩
  have HUP : Hid (UpL R1) := hup
  have H8 : Hid (R1.length = n8 ∧ Src w8 (some ⟨g8, 0, none⟩) (cellsP R1)) := ⟨HJ.out.1, HJ.out.2.1⟩
  have hn8 : n8 ≤ 60 := by rw [← HJ.out.1]; exact h60
  clear HJ HRT HRU HBAD h60 hup
  go_wp2_with fail
  go_loopw [12, 14] (fun v iv wr => ∃ (j n' g' c' : Nat), j ≤ ml ∧ v = .slice (some ⟨g', 0, none⟩) n' c' ∧ iv = .int .i64 (j : Int) ∧ n' ≤ c' ∧ c' ≤ maxLen ∧ Hid ((insAll (X.take j) R1).length = n') ∧ Hid (Src wr (some ⟨g', 0, none⟩) (cellsP (insAll (X.take j) R1))) ∧ Hid (Below w.heap.size w wr) ∧ Hid (Below w8.heap.size w8 wr)) (fun _ i _ => ml - (RowKit.intOf i).toNat)
  case atStart => exact ⟨0, n8, g8, c8, by omega, rfl, rfl, hnc, hc8, H8.out.1, H8.out.2, B8.out, Below.refl _ _⟩
  case round =>
    obtain ⟨j, n', g', c', hj, rfl, rfl, hnc', hc', hlen, hsr, hbr, hb8r⟩ := hrel
    have X9 : Hid (Box wr w3.heap.size [.string f, .int .i64 gv, .int .i64 gn, .slice am ml cm]) := Box.below X8.out hb8r.out
    obtain ⟨x93, _⟩ := X9.out 3 _ rfl
    by_cases hlt : j < ml
    · have hlti : (j : Int) < (ml : Int) := by omega
      have hjM : j < Ms.length := by rw [HML.out]; exact hlt
      obtain ⟨bm, om, x0, x1, x2, rfl, m0, m1, m2, hx⟩ := srcMl (S8.out.below hb8r.out) hjM
      obtain ⟨y0, y1, y2, y3, y4⟩ := HFM.out (Ms.getD j ml0) (mem_getD' Ms ml0 j hjM)
      rw [hx.out] at y0 y1 y2 y3 y4
      dsimp only at y0 y1 y2 y3 y4
      obtain ⟨un, hun⟩ : ∃ un : Nat, (un : Int) = x0 := ⟨x0.toNat, by omega⟩
      subst hun
      have hu9 : un < 1000 := by omega
      have CM := fun W => l07MailS u tf un hu9 (by omega) (by omega) W
      have CG := fun W => digitsI x1 y2 (by omega) W
      have hxj : X.getD j p0 = (mailK u tf (un : Int), mailV ((un : Int), x1, x2)) := by
        rw [← HX.out, map_getD Ms j hjM, hx.out]
        rfl
      have hst9 := insAll_step X R1 j (by rw [← HX.out, List.length_map]; exact hjM)
      rw [hxj] at hst9
      have hil := insAll_len (X.take j) HUP.out
      have htl := List.length_take_le j X
      have hn9 : n' ≤ 200 := by
        rw [← hlen.out]
        have := H8.out.1
        omega
      have CP := fun W (hW : Below wr.heap.size wr W) => l01PutM g' 0 n' c' (insAll (X.take j) R1) (mailK u tf (un : Int)) (mailV ((un : Int), x1, x2)) W hlen.out (by omega) hnc' hc' (insAll_up _ HUP.out) (hsr.out.below hW)
      rw [← hst9] at CP
      have HMV : Hid (bs (itoa x1) ++ x2 = mailV ((un : Int), x1, x2)) := rfl
      have hzi := itoa_small x1 y2 (by omega)
      obtain ⟨MK, hMK⟩ : ∃ t, mailK u tf (un : Int) = t := ⟨_, rfl⟩
      obtain ⟨TI, hTI⟩ : ∃ t, bs (itoa x1) = t := ⟨_, rfl⟩
      obtain ⟨MV, hMV⟩ : ∃ t, mailV ((un : Int), x1, x2) = t := ⟨_, rfl⟩
      simp only [hMK] at CM CP
      simp only [hTI] at CG HMV hzi
      simp only [hMV] at CP HMV
      obtain ⟨I9, hI9⟩ : ∃ t, insAll (X.take (j + 1)) R1 = t := ⟨_, rfl⟩
      simp only [hI9] at CP
      have HI9 : Hid (insAll (X.take (j + 1)) R1 = I9) := hI9
      obtain ⟨n9, hn99⟩ : ∃ t, I9.length = t := ⟨_, rfl⟩
      simp only [hn99] at CP
      have HN9 : Hid (I9.length = n9) := hn99
      have hsz : TI.size + x2.size ≤ 2000 := by omega
      clear hst9 hxj hil htl hMK hTI hMV hI9 hn99 hx hlen hsr
      go_upto_region 16 with fail
      refine wp_region_noPanic ?_
      refine wp_region_held_drew (S := fun w' => w'.cell? ⟨w3.heap.size, 3, none⟩ = some (.slice (some ⟨bm, om, none⟩) ml cm) ∧ w'.cell? ⟨bm, om + j * 3, none⟩ = some (.int .i64 (un : Int)) ∧ w'.cell? ⟨bm, om + j * 3 + 1, none⟩ = some (.int .i64 x1) ∧ w'.cell? ⟨bm, om + j * 3 + 2, none⟩ = some (.string x2)) (by kernel_rfl) ⟨x93, m0, m1, m2⟩ (fun hHeld => ?_)
      refine tkA (i := 0) (v := .slice (some ⟨g', 0, none⟩) n' c') ?_ hHeld ?_
      · intro w9 hSw
        obtain ⟨z0, z1, z2, z3⟩ := hSw
        go_simp
      simp only [Act.put, List.setIfInBounds_toArray, List.set_cons_zero, List.set_cons_succ]
      refine tkA (i := 1) (v := .string u) ?_ hHeld ?_
      · intro w9 hSw
        obtain ⟨z0, z1, z2, z3⟩ := hSw
        go_simp
      simp only [Act.put, List.setIfInBounds_toArray, List.set_cons_zero, List.set_cons_succ]
      refine tkA (i := 2) (v := .string tf) ?_ hHeld ?_
      · intro w9 hSw
        obtain ⟨z0, z1, z2, z3⟩ := hSw
        go_simp
      simp only [Act.put, List.setIfInBounds_toArray, List.set_cons_zero, List.set_cons_succ]
      refine tkA (i := 3) (v := .pointer (some ⟨w3.heap.size, 3, none⟩)) ?_ hHeld ?_
      · intro w9 hSw
        obtain ⟨z0, z1, z2, z3⟩ := hSw
        go_simp
      simp only [Act.put, List.setIfInBounds_toArray, List.set_cons_zero, List.set_cons_succ]
      refine tkA (i := 4) (v := .slice (some ⟨bm, om, none⟩) ml cm) ?_ hHeld ?_
      · intro w9 hSw
        obtain ⟨z0, z1, z2, z3⟩ := hSw
        go_simp
      simp only [Act.put, List.setIfInBounds_toArray, List.set_cons_zero, List.set_cons_succ]
      refine tkA (i := 5) (v := .int .i64 (j : Int)) ?_ hHeld ?_
      · intro w9 hSw
        obtain ⟨z0, z1, z2, z3⟩ := hSw
        go_simp
      simp only [Act.put, List.setIfInBounds_toArray, List.set_cons_zero, List.set_cons_succ]
      refine tkA (i := 6) (v := .pointer (some ⟨bm, om + j * 3, none⟩)) ?_ hHeld ?_
      · intro w9 hSw
        obtain ⟨z0, z1, z2, z3⟩ := hSw
        go_simp
      simp only [Act.put, List.setIfInBounds_toArray, List.set_cons_zero, List.set_cons_succ]
      refine tkA (i := 7) (v := .pointer (some ⟨bm, om + j * 3, none⟩)) ?_ hHeld ?_
      · intro w9 hSw
        obtain ⟨z0, z1, z2, z3⟩ := hSw
        go_simp
      simp only [Act.put, List.setIfInBounds_toArray, List.set_cons_zero, List.set_cons_succ]
      refine tkA (i := 8) (v := .int .i64 (un : Int)) ?_ hHeld ?_
      · intro w9 hSw
        obtain ⟨z0, z1, z2, z3⟩ := hSw
        go_simp
      simp only [Act.put, List.setIfInBounds_toArray, List.set_cons_zero, List.set_cons_succ]
      refine tkA (i := 10) (v := .pointer (some ⟨w3.heap.size, 3, none⟩)) ?_ hHeld ?_
      · intro w9 hSw
        obtain ⟨z0, z1, z2, z3⟩ := hSw
        go_simp
      simp only [Act.put, List.setIfInBounds_toArray, List.set_cons_zero, List.set_cons_succ]
      refine tkA (i := 11) (v := .slice (some ⟨bm, om, none⟩) ml cm) ?_ hHeld ?_
      · intro w9 hSw
        obtain ⟨z0, z1, z2, z3⟩ := hSw
        go_simp
      simp only [Act.put, List.setIfInBounds_toArray, List.set_cons_zero, List.set_cons_succ]
      refine tkA (i := 12) (v := .int .i64 (j : Int)) ?_ hHeld ?_
      · intro w9 hSw
        obtain ⟨z0, z1, z2, z3⟩ := hSw
        go_simp
      simp only [Act.put, List.setIfInBounds_toArray, List.set_cons_zero, List.set_cons_succ]
      refine tkA (i := 13) (v := .pointer (some ⟨bm, om + j * 3, none⟩)) ?_ hHeld ?_
      · intro w9 hSw
        obtain ⟨z0, z1, z2, z3⟩ := hSw
        go_simp
      simp only [Act.put, List.setIfInBounds_toArray, List.set_cons_zero, List.set_cons_succ]
      refine tkA (i := 14) (v := .pointer (some ⟨bm, om + j * 3 + 1, none⟩)) ?_ hHeld ?_
      · intro w9 hSw
        obtain ⟨z0, z1, z2, z3⟩ := hSw
        go_simp
      simp only [Act.put, List.setIfInBounds_toArray, List.set_cons_zero, List.set_cons_succ]
      refine tkA (i := 15) (v := .int .i64 x1) ?_ hHeld ?_
      · intro w9 hSw
        obtain ⟨z0, z1, z2, z3⟩ := hSw
        go_simp
      simp only [Act.put, List.setIfInBounds_toArray, List.set_cons_zero, List.set_cons_succ]
      refine tkA (i := 17) (v := .pointer (some ⟨w3.heap.size, 3, none⟩)) ?_ hHeld ?_
      · intro w9 hSw
        obtain ⟨z0, z1, z2, z3⟩ := hSw
        go_simp
      simp only [Act.put, List.setIfInBounds_toArray, List.set_cons_zero, List.set_cons_succ]
      refine tkA (i := 18) (v := .slice (some ⟨bm, om, none⟩) ml cm) ?_ hHeld ?_
      · intro w9 hSw
        obtain ⟨z0, z1, z2, z3⟩ := hSw
        go_simp
      simp only [Act.put, List.setIfInBounds_toArray, List.set_cons_zero, List.set_cons_succ]
      refine tkA (i := 19) (v := .int .i64 (j : Int)) ?_ hHeld ?_
      · intro w9 hSw
        obtain ⟨z0, z1, z2, z3⟩ := hSw
        go_simp
      simp only [Act.put, List.setIfInBounds_toArray, List.set_cons_zero, List.set_cons_succ]
      refine tkA (i := 20) (v := .pointer (some ⟨bm, om + j * 3, none⟩)) ?_ hHeld ?_
      · intro w9 hSw
        obtain ⟨z0, z1, z2, z3⟩ := hSw
        go_simp
      simp only [Act.put, List.setIfInBounds_toArray, List.set_cons_zero, List.set_cons_succ]
      refine tkA (i := 21) (v := .pointer (some ⟨bm, om + j * 3 + 2, none⟩)) ?_ hHeld ?_
      · intro w9 hSw
        obtain ⟨z0, z1, z2, z3⟩ := hSw
        go_simp
      simp only [Act.put, List.setIfInBounds_toArray, List.set_cons_zero, List.set_cons_succ]
      refine tkA (i := 22) (v := .string x2) ?_ hHeld ?_
      · intro w9 hSw
        obtain ⟨z0, z1, z2, z3⟩ := hSw
        go_simp
      simp only [Act.put, List.setIfInBounds_toArray, List.set_cons_zero, List.set_cons_succ]
      refine wpAnyH_ready (rs := [9]) (by kernel_rfl) (by simp) ?_
      refine AllReadyH.cons rfl (fun K hK => ?_) AllReadyH.nil
      go_simp
      refine (CM _).mono ?_
      rintro e wm ⟨rfl, hbm⟩
      have BM : Hid (Below wr.heap.size wr wm) := (Below.refl _ _).drew.trans hbm
      clear hbm
      dsimp only
      refine hK _ _ ⟨cell_later BM.out x93, cell_later BM.out m0, cell_later BM.out m1, cell_later BM.out m2⟩ (fun hHeld => ?_)
      clear hK K
      refine wpAnyH_ready (rs := [16]) (by kernel_rfl) (by simp) ?_
      refine AllReadyH.cons rfl (fun K hK => ?_) AllReadyH.nil
      go_simp
      refine (CG _).mono ?_
      rintro e wd ⟨rfl, hbd⟩
      have BD : Hid (Below wr.heap.size wr wd) := BM.out.trans (hbd.mono BM.out.size)
      clear hbd
      dsimp only
      refine hK _ _ ⟨cell_later BD.out x93, cell_later BD.out m0, cell_later BD.out m1, cell_later BD.out m2⟩ (fun hHeld => ?_)
      clear hK K
      refine tkA (i := 23) (v := .string MV) ?_ hHeld ?_
      · intro w9 hSw
        obtain ⟨z0, z1, z2, z3⟩ := hSw
        have hmv := HMV.out
        go_simp
        omega
      simp only [Act.put, List.setIfInBounds_toArray, List.set_cons_zero, List.set_cons_succ]
      refine wpAnyH_ready (rs := [24]) (by kernel_rfl) (by simp) ?_
      refine AllReadyH.cons rfl (fun K hK => ?_) AllReadyH.nil
      go_simp
      have CPD := CP wd BD.out
      refine CPD.mono ?_
      rintro e wp ⟨gp, cp, rfl, j1, j2, j3, hbp⟩
      have BP : Hid (Below wr.heap.size wr wp) := BD.out.trans (hbp.mono BD.out.size)
      have HPF : Hid (n9 ≤ cp ∧ cp ≤ maxLen ∧ Src wp (some ⟨gp, 0, none⟩) (cellsP I9)) := ⟨j1, j2, j3⟩
      clear hbp j1 j2 j3 CPD
      dsimp only
      refine hK _ _ ⟨cell_later BP.out x93, cell_later BP.out m0, cell_later BP.out m1, cell_later BP.out m2⟩ (fun hHeld => ?_)
      clear hK K
      refine wpAnyH_ready (rs := [25]) (by kernel_rfl) (by simp) ?_
      refine AllReadyH.cons rfl (fun K hK => ?_) AllReadyH.nil
      go_simp
      refine hK _ _ ⟨cell_later BP.out x93, cell_later BP.out m0, cell_later BP.out m1, cell_later BP.out m2⟩ (fun hHeld => ?_)
      clear hK K
      refine wpAnyH_done (by kernel_rfl) ?_ _
      refine NoPanic.normal ?_
      clear hHeld
      have HF : Hid (Below w.heap.size w wp ∧ Below w8.heap.size w8 wp) := ⟨hbr.out.trans (BP.out.mono hbr.out.size), hb8r.out.trans (BP.out.mono hb8r.out.size)⟩
      clear BP BD BM
      go_wp2_with fail
      exact ⟨⟨j + 1, n9, gp, cp, by omega, rfl, by go_num, HPF.out.1, HPF.out.2.1, by rw [HI9.out]; exact HN9.out, by rw [HI9.out]; exact HPF.out.2.2, HF.out.1, HF.out.2⟩, by simp [RowKit.intOf]; omega⟩
    · obtain rfl : j = ml := by omega
      have hlti : ¬ (j : Int) < (j : Int) := by omega
      have HF : Hid (LenC R n' c' ∧ Src wr (some ⟨g', 0, none⟩) (cellsP R) ∧ Below w.heap.size w wr) := by
        have e9 : X.take j = X := List.take_of_length_le (by rw [← HX.out, List.length_map, HML.out]; exact Nat.le_refl _)
        have h9 := HQ.out.1
        rw [← e9] at h9
        rw [← h9]
        exact ⟨⟨hlen.out, hnc', hc'⟩, hsr.out, hbr.out⟩
      have HQ0 : Hid (0 = q) := HQ.out.2
      clear hlen hsr
      go_wp2_with fail
      exact bodyPost_ret (v := .tuple #[.slice (some ⟨g', 0, none⟩) n' c', .int .i64 0]) (by simp [results, Tryz.results99, go_sem]) rfl ⟨_, _, _, by rw [HQ0.out], HF.out⟩
end Go.Proofs.YthgbclipknfmjaaGreatDoor
