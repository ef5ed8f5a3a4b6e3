/-
  Fae Mlp Drn in one. By an AI agent.
-/
import Derived.Test.YtddnecljdecamaaGreatDoorQ33
import Derived.Test.YtddnecljdecamaaGreatDoorQ30
import Derived.Test.YtddnecljdecamaaGreatDoorQ34
import Derived.Test.YtddnecljdecamaaGreatDoorQ28
import Derived.Test.YtddnecljdecamaaGreatDoorQ36
namespace Go.Proofs.YtddnecljdecamaaGreatDoor
open Go.ChangeShapes Go.WideShapes Go.ChangeAt Go.RowKit Go.Deep Go.Lib
set_option linter.unusedVariables false
set_option linter.unusedSimpArgs false
set_option maxRecDepth 100000

/-- The uids rise. -/
def Rise (Ms : List MMl) : Prop := Ms.Pairwise fun a b => a.1 < b.1
theorem blp (p a b : List UInt8) : Op.bytesLess (p ++ a) (p ++ b) = Op.bytesLess a b := by
  induction p with
  | nil => rfl
  | cons x p ih =>
    show Op.bytesLess (x :: (p ++ a)) (x :: (p ++ b)) = _
    unfold Op.bytesLess
    simp [ih]
    cases a <;> cases b <;> simp [Op.bytesLess]
theorem bl3 {A B C A' B' C' : UInt8} (h : A < A' ∨ (A = A' ∧ (B < B' ∨ (B = B' ∧ C < C')))) : Op.bytesLess [A, B, C] [A', B', C'] = true := by
  rcases h with h | ⟨rfl, h | ⟨rfl, h⟩⟩ <;> simp [Op.bytesLess, h]
theorem d3_lt {x y : Nat} (h : x < y) (hy : y < 1000) : Op.bytesLess (d3 x) (d3 y) = true := by
  obtain ⟨a, b, c, ha, hb, hc, rfl⟩ := split3 x (by omega)
  obtain ⟨a', b', c', ha', hb', hc', rfl⟩ := split3 y hy
  unfold d3
  rw [dec4 a b c ha hb hc, dec4 a' b' c' ha' hb' hc']
  have key : ∀ {u v : Nat}, u < 10 → v < 10 → (UInt8.ofNat (48 + u) < UInt8.ofNat (48 + v) ↔ u < v) := fun {u v} hu hv => by
    rw [UInt8.lt_iff_toNat_lt]
    simp
    omega
  have keq : ∀ {u v : Nat}, u < 10 → v < 10 → (UInt8.ofNat (48 + u) = UInt8.ofNat (48 + v) ↔ u = v) := fun {u v} hu hv => by
    constructor
    · intro e
      have := congrArg UInt8.toNat e
      simp at this
      omega
    · rintro rfl
      rfl
  show Op.bytesLess [UInt8.ofNat (48 + a), UInt8.ofNat (48 + b), UInt8.ofNat (48 + c)] [UInt8.ofNat (48 + a'), UInt8.ofNat (48 + b'), UInt8.ofNat (48 + c')] = true
  refine bl3 ?_
  rw [key ha ha', key hb hb', key hc hc', keq ha ha', keq hb hb']
  omega
theorem key_lt {u f : ByteArray} {x y : Int} (h0 : 0 ≤ x) (h1 : x < y) (h2 : y < 1000) : ltK (mailK u f x) (mailK u f y) := by
  unfold ltK
  rw [ByteArray.toList_eq, ByteArray.toList_eq, mailK_data', mailK_data']
  have e : ∀ d : List UInt8, 109 :: 47 :: (u.data.toList ++ 47 :: (f.data.toList ++ 47 :: d)) = (109 :: 47 :: (u.data.toList ++ 47 :: (f.data.toList ++ [47]))) ++ d := fun d => by simp
  rw [e (d3 x.toNat), e (d3 y.toNat), blp]
  exact d3_lt (by omega) (by omega)
theorem mailP_inj {u f : ByteArray} {m m2 : MMl} (h : 0 ≤ m.1 ∧ m.1 < 1000 ∧ 0 ≤ m.2.1 ∧ m.2.1 ≤ 3) (h2 : 0 ≤ m2.1 ∧ m2.1 < 1000 ∧ 0 ≤ m2.2.1 ∧ m2.2.1 ≤ 3) (e : mailP u f m = mailP u f m2) : m = m2 := by
  have hk := congrArg (fun x : PM => x.1.data.toList) e
  have hv : mailV m = mailV m2 := congrArg Prod.snd e
  unfold mailP at hk
  simp only [mailK_data'] at hk
  have hd : d3 m.1.toNat = d3 m2.1.toNat := by
    have h9 := (List.cons.inj (List.cons.inj hk).2).2
    have h8 := List.append_cancel_left h9
    have h7 := (List.cons.inj h8).2
    have h6 := List.append_cancel_left h7
    exact (List.cons.inj h6).2
  have h1 := d3_inj (by omega) (by omega) hd
  have hdig : ∀ n : Int, 0 ≤ n → n ≤ 3 → ∃ c : UInt8, itoa n = [c] ∧ (c.toNat : Int) = 48 + n := fun n a b => by
    have : n = 0 ∨ n = 1 ∨ n = 2 ∨ n = 3 := by omega
    rcases this with rfl | rfl | rfl | rfl
    · exact ⟨48, by kernel_rfl, by decide⟩
    · exact ⟨49, by kernel_rfl, by decide⟩
    · exact ⟨50, by kernel_rfl, by decide⟩
    · exact ⟨51, by kernel_rfl, by decide⟩
  obtain ⟨c1, q1, z1⟩ := hdig m.2.1 h.2.2.1 h.2.2.2
  obtain ⟨c2, q2, z2⟩ := hdig m2.2.1 h2.2.2.1 h2.2.2.2
  unfold mailV at hv
  rw [q1, q2] at hv
  have hv2 := congrArg (fun x : ByteArray => x.data.toList) hv
  have hv3 : c1 :: m.2.2.data.toList = c2 :: m2.2.2.data.toList := by simpa [bs, ByteArray.data_append] using hv2
  have e1 := (List.cons.inj hv3).1
  have e2 := bs_inj (List.cons.inj hv3).2
  obtain ⟨a, b, t⟩ := m
  obtain ⟨a2, b2, t2⟩ := m2
  dsimp only at *
  subst e2
  rw [e1] at z1
  obtain rfl : a = a2 := by omega
  obtain rfl : b = b2 := by omega
  rfl
theorem rise_keys {u f : ByteArray} {Ms : List MMl} (h : Rise Ms) (hb : ∀ m ∈ Ms, 0 ≤ m.1 ∧ m.1 < 1000) : UpL (Ms.map (mailP u f)) := by
  unfold UpL
  rw [List.pairwise_map]
  exact h.imp_of_mem fun {a b} ha hb9 h9 => key_lt (hb a ha).1 h9 (hb b hb9).2
theorem keys_rise {u f : ByteArray} {Ms : List MMl} (h : UpL (Ms.map (mailP u f))) (hb : ∀ m ∈ Ms, 0 ≤ m.1 ∧ m.1 < 1000) : Rise Ms := by
  unfold UpL at h
  rw [List.pairwise_map] at h
  refine h.imp_of_mem fun {a b} ha hb9 h9 => ?_
  rcases Int.lt_trichotomy a.1 b.1 with h8 | h8 | h8
  · exact h8
  · have h7 : ltK (mailK u f a.1) (mailK u f b.1) := h9
    rw [h8] at h7
    exact absurd h7 (ltK_irrefl _)
  · have h7 : ltK (mailK u f a.1) (mailK u f b.1) := h9
    have h6 := key_lt (u := u) (f := f) (hb b hb9).1 h8 (hb a ha).2
    have h5 : ltK (mailK u f a.1) (mailK u f a.1) := bl_trans _ _ _ h7 h6
    exact absurd h5 (ltK_irrefl _)
theorem up_nodup {L : List PM} (h : UpL L) : L.Nodup := h.imp fun {a b} h9 e => by rw [e] at h9; exact ltK_irrefl _ h9
theorem up_same {A B : List PM} (hA : UpL A) (hB : UpL B) (h : ∀ p, p ∈ A ↔ p ∈ B) : A = B := by
  have hp : A.Perm B := (List.perm_ext_iff_of_nodup (up_nodup hA) (up_nodup hB)).2 h
  refine sorted_eq hB hp (hA.imp fun {a b} h9 => ?_)
  cases hc : Op.bytesLess b.1.data.toList a.1.data.toList with
  | false => rfl
  | true =>
    have h8 : ltK b.1 a.1 := by unfold ltK; rw [ByteArray.toList_eq, ByteArray.toList_eq]; exact hc
    exact absurd (bl_trans _ _ _ h9 h8 : ltK a.1 a.1) (ltK_irrefl _)
theorem map_inj {u f : ByteArray} {A B : List MMl} (hA : ∀ m ∈ A, 0 ≤ m.1 ∧ m.1 < 1000 ∧ 0 ≤ m.2.1 ∧ m.2.1 ≤ 3) (hB : ∀ m ∈ B, 0 ≤ m.1 ∧ m.1 < 1000 ∧ 0 ≤ m.2.1 ∧ m.2.1 ≤ 3) (h : A.map (mailP u f) = B.map (mailP u f)) : A = B := by
  induction A generalizing B with
  | nil =>
    cases B with
    | nil => rfl
    | cons b B => cases h
  | cons a A ih =>
    cases B with
    | nil => cases h
    | cons b B =>
      obtain ⟨h1, h2⟩ := List.cons.inj h
      rw [mailP_inj (hA a List.mem_cons_self) (hB b List.mem_cons_self) h1, ih (fun m hm => hA m (List.mem_cons_of_mem _ hm)) (fun m hm => hB m (List.mem_cons_of_mem _ hm)) h2]
theorem rise_store {L : List PM} {u : ByteArray} {S : SM} {g : FM} (h : storeB L = true) (hus : (47 : UInt8) ∉ u.data.toList) (hS : takeAll (nextM L) u S0 L = some S) (hw : S.word.toList ≠ []) (hg : g ∈ S.fs) : Rise g.mails := by
  have hF := store_fits h hus hS hw
  have h1 := fol_mails h hus (word_slash (hF.fs g hg).1) hS hw (look_self (names_of hS) hg)
  have h2 : UpL (g.mails.map (mailP u g.name)) := by rw [← h1]; exact (store_facts h).1.2.2.sublist List.filter_sublist
  exact keys_rise h2 fun m hm => by
    have := (hF.fs g hg).2.2.2.2.2
    obtain ⟨g6, g7⟩ := this
    have := g7 m hm
    omega
/-- A folder is told as its desk has it, mail by mail. -/
theorem fa_exact {N Y : List PM} {nx : Int} {u : ByteArray} {S S' : SM} {g : FM} (h : storeB N = true) (hS : takeAll (nextM N) u S0 N = some S) (ha : S'.aside = S.aside) (hst : storeB Y = true) (hF : FitS nx u S') (hnd : (S'.fs.map (·.name)).Nodup) (up : UpL Y) (pm : (deskP nx u S').Perm Y) (hw : S'.word.toList ≠ []) (hg : g ∈ S'.fs) (hr : Rise g.mails) : faM Y u g.name = ((g.name, g.val, g.next, g.mails), 0) := by
  have hus := word_slash hF.us
  obtain ⟨g1, g2, g3, g4, g5, g6, g7⟩ := hF.fs g hg
  have hgs := word_slash g1
  have hl := look_self hnd hg
  have hbnd : ∀ m ∈ g.mails, 0 ≤ m.1 ∧ m.1 < 1000 ∧ 0 ≤ m.2.1 ∧ m.2.1 ≤ 3 := fun m hm => by have := g7 m hm; omega
  obtain ⟨Ms, hfa, hMs⟩ := fa_told hst hF up pm hw hl
  have hup : UpL (Ms.map (mailP u g.name)) := by rw [← hMs]; exact up.sublist List.filter_sublist
  have hsame : ∀ p, p ∈ Ms.map (mailP u g.name) ↔ p ∈ g.mails.map (mailP u g.name) := fun p => by
    rw [← hMs, List.mem_filter]
    constructor
    · rintro ⟨hp, hb⟩
      obtain ⟨r, hr9⟩ := begins_pre.1 hb
      rcases desk_mem pm hp with h8 | h8 | h8 | ⟨g', hg', h8 | ⟨m2, hm2, h8⟩⟩
      · rw [h8] at hr9
        cases hr9
      · rw [h8] at hr9
        simp only [userK_data] at hr9
        cases hr9
      · rw [ha] at h8
        obtain ⟨k1, k2⟩ := (aside_is hS _ (notK_sub h8).2).1 h8
        have h9 := away_owner k2
        have h6 : beginsB p.1 (mailsK u) = true := begins_iff.2 ⟨g.name.data.toList ++ 47 :: r, by rw [hr9, mailsK_data]; simp⟩
        rw [mail_is h hus k1, h6] at h9
        cases h9
      · rw [h8] at hr9
        simp only [folderK_data] at hr9
        cases hr9
      · rw [h8] at hr9
        have hr8 : (mailK u g'.name m2.1).data.toList = 109 :: 47 :: (u.data.toList ++ 47 :: (g.name.data.toList ++ 47 :: r)) := hr9
        rw [mailK_data'] at hr8
        have h7 := List.append_cancel_left (List.cons.inj (List.cons.inj hr8).2).2
        have h6 := (List.cons.inj h7).2
        have hn : g'.name = g.name := bs_inj (seg_inj (word_slash (hF.fs g' hg').1) hgs h6).1
        obtain rfl := same_name hnd hg' hg hn
        rw [h8]
        exact List.mem_map.2 ⟨m2, hm2, rfl⟩
    · intro hp
      obtain ⟨m, hm, rfl⟩ := List.mem_map.1 hp
      refine ⟨?_, begins_mail u g.name m⟩
      rw [← pm.mem_iff]
      unfold deskP flatF
      exact List.mem_cons_of_mem _ (List.mem_cons_of_mem _ (List.mem_append_right _ (List.mem_flatMap.2 ⟨g, hg, List.mem_cons_of_mem _ (List.mem_map.2 ⟨m, hm, rfl⟩)⟩)))
  have heq := up_same hup (rise_keys hr (fun m hm => ⟨(hbnd m hm).1, (hbnd m hm).2.1⟩)) hsame
  have hMb : ∀ m ∈ Ms, 0 ≤ m.1 ∧ m.1 < 1000 ∧ 0 ≤ m.2.1 ∧ m.2.1 ≤ 3 := by
    obtain ⟨S2, hS2, _, _⟩ := take_all hst hus
    have hk : knownR Y u g.name = 0 := by
      unfold knownR
      rw [desk_user up pm, desk_folder up pm hg (hF.fs g hg)]
      rfl
    obtain ⟨hw2, g9, hl2⟩ := known_zero hst hus hgs hS2 hk
    have hM2 : Ms = g9.mails := by
      unfold faM at hfa
      rw [ask_ok hst (by simp [hF.us, g1]), if_pos rfl, hk, if_pos rfl, hS2] at hfa
      have hfa2 : ((faG (lookF g.name S2.fs), (0 : Int)) : (ByteArray × Int × Int × List MMl) × Int) = ((g.name, g.val, g.next, Ms), 0) := hfa
      rw [hl2] at hfa2
      have h8 : (g9.name, g9.val, g9.next, g9.mails) = (g.name, g.val, g.next, Ms) := congrArg Prod.fst hfa2
      injection h8 with _ h8
      injection h8 with _ h8
      injection h8 with _ h8
      exact h8.symm
    rw [hM2]
    intro m hm
    obtain ⟨_, _, _, _, _, e6⟩ := store_fit hst hS2 g9 (lookF_mem hl2).1
    obtain ⟨m1, m2, m3, m4, _⟩ := e6 m hm
    exact ⟨m1, m2, m3, m4⟩
  rw [map_inj hMb hbnd heq] at hfa
  exact hfa
end Go.Proofs.YtddnecljdecamaaGreatDoor
namespace Go.Proofs.YtddnecljdecamaaGreatDoor
open Go.ChangeShapes Go.WideShapes Go.ChangeAt Go.RowKit Go.Deep Go.Lib
set_option linter.unusedVariables false
set_option linter.unusedSimpArgs false
set_option maxRecDepth 100000

theorem flat_len (u : ByteArray) : ∀ fs : List FM, (flatF u fs).length = fs.length + sumF fs
  | [] => rfl
  | f :: fs => by
    have ih := flat_len u fs
    show (fPairs u f ++ flatF u fs).length = (fs.length + 1) + (f.mails.length + sumF fs)
    rw [List.length_append, ih]
    unfold fPairs
    simp
    omega
theorem put_len {g f : FM} : ∀ {fs : List FM}, lookF g.name fs = some f → (putF g fs).length = fs.length
  | [], h => by cases h
  | x :: fs, h => by
    unfold lookF at h
    unfold putF
    by_cases e : x.name = g.name
    · rw [if_pos e]
      rfl
    · rw [if_neg e] at h ⊢
      show (putF g fs).length + 1 = fs.length + 1
      rw [put_len h]
theorem put_self {g : FM} : ∀ {fs : List FM}, g ∈ putF g fs
  | [] => List.mem_cons_self
  | x :: fs => by
    unfold putF
    split
    · exact List.mem_cons_self
    · exact List.mem_cons_of_mem _ put_self
/-- What a drawn store tells of a folder. -/
theorem fa_drawn {k : Nat} {L : List PM} {u f : ByteArray} (h : Drawn k L) (hu : u = annT ∨ u = bobT) (hsf : shortB f = true) : (knownR L u f = 16 ∧ faM L u f = (z4, 16)) ∨ ∃ S g, takeAll (nextM L) u S0 L = some S ∧ S.word.toList ≠ [] ∧ lookF f S.fs = some g ∧ g.name = f ∧ knownR L u f = 0 ∧ faM L u f = ((f, g.val, g.next, g.mails), 0) ∧ Rise g.mails ∧ g.next ≤ 1 + (k : Int) ∧ FitS (nextM L) u S ∧ (S.fs.map (·.name)).Nodup := by
  obtain ⟨hsu, S, hS, hw, hF, hnd, n1⟩ := h.desk hu
  have hus := word_slash hsu
  have hfs := word_slash hsf
  have hk : knownR L u f ≠ 15 := fun e => by
    unfold knownR at e
    rw [(h.us u hus).2 hu, if_neg (by decide)] at e
    split at e <;> cases e
  by_cases h0 : knownR L u f = 0
  · right
    obtain ⟨_, g, hl⟩ := known_zero h.st hus hfs hS h0
    obtain ⟨hgm, hgn⟩ := lookF_mem hl
    have hfn : g.next ≤ 1 + (k : Int) := by
      obtain ⟨w, k1, k2⟩ := (meta_iff (store_facts h.st).1.2.2).1 (look_meta h.st hS hl)
      exact h.fn _ k1 u f rfl _ k2
    refine ⟨S, g, hS, hw, hl, hgn, h0, ?_, rise_store h.st hus hS hw hgm, hfn, hF, hnd⟩
    unfold faM
    rw [ask_ok h.st (by simp [hsu, hsf]), if_pos rfl, h0, if_pos rfl, hS]
    show (faG (lookF f S.fs), (0 : Int)) = _
    rw [hl]
    show ((g.name, g.val, g.next, g.mails), (0 : Int)) = _
    rw [hgn]
  · left
    have h16 : knownR L u f = 16 := by
      rcases known_cases L u f with h9 | h9 | h9
      · exact absurd h9 hk
      · exact h9
      · exact absurd h9 h0
    refine ⟨h16, ?_⟩
    unfold faM
    rw [ask_ok h.st (by simp [hsu, hsf]), if_pos rfl, h16, if_neg (by decide)]
/-- What is asked of a mail that is appended. -/
def AppIs (L R : List PM) (u f t : ByteArray) (fl uid c : Int) : Prop :=
  storeB R = true ∧ ((c ≠ 0 ∧ R = L ∧ (c = (faM L u f).2 ∨ c = 12 ∨ c = 7)) ∨
  (c = 0 ∧ ∃ va nx Ms, faM L u f = ((f, va, nx, Ms), 0) ∧ uid = nx ∧ 1 ≤ nx ∧ nx ≤ 998 ∧ faM R u f = ((f, va, nx + 1, Ms ++ [(nx, fl, t)]), 0) ∧ R.length = L.length + 1))
theorem app_is {k : Nat} {L R : List PM} {u f t : ByteArray} {fl uid c : Int} (hk : k ≤ 900) (h : Drawn k L) (hu : u = annT ∨ u = bobT) (hsf : shortB f = true) (f0 : 0 ≤ fl) (f1 : fl ≤ 3) (ht : t.size ≤ 85) (hR : appR L u f t fl = (R, uid, c)) : AppIs L R u f t fl uid c := by
  have hdr := app_drawn h hu hsf f0 f1 ht
  rw [hR] at hdr
  refine ⟨hdr.st, ?_⟩
  have hsu := (h.desk hu).1
  have hus := word_slash hsu
  have hfs := word_slash hsf
  rcases fa_drawn h hu hsf with ⟨h16, hfa⟩ | ⟨S, g, hS, hw, hl, hgn, h0, hfa, hri, hfn, hF, hnd⟩
  · unfold appR at hR
    rw [h16, if_pos (by decide)] at hR
    cases hR
    exact .inl ⟨by decide, rfl, .inl (by rw [hfa])⟩
  · rw [appR_T h0] at hR
    obtain ⟨q, S', hQ⟩ : ∃ q S', apM S g fl t = (q, S') := ⟨_, _, rfl⟩
    have hO := app_fits h.st hsu hsf (by omega) f0 f1 hS hw hl hQ
    rw [hR] at hO
    have hQ9 := hQ
    unfold apM at hQ9
    split at hQ9
    · cases hQ9
      have h9 := hO.1 (by decide)
      cases h9
      exact .inl ⟨by decide, rfl, .inr (.inl rfl)⟩
    split at hQ9
    · rename_i h9
      omega
    cases hQ9
    obtain ⟨_, Y, up, pm, _, j5⟩ := hO.2 rfl
    split at j5
    · cases j5
      exact .inl ⟨by decide, rfl, .inr (.inr rfl)⟩
    rename_i h60
    injection j5 with j6 j7
    injection j7 with j7 j8
    subst j6 j7 j8
    have hT := step_app (P := FoldN) hF hnd f0 f1 ht hl hQ
    obtain ⟨hgm, _⟩ := lookF_mem hl
    obtain ⟨g1, g2, g3, g4, g5, g6, g7⟩ := hF.fs g hgm
    have hri2 : Rise (g.mails ++ [(g.next, fl, t)]) := by
      unfold Rise
      rw [List.pairwise_append]
      refine ⟨hri, List.pairwise_singleton _ _, fun a ha b hb => ?_⟩
      rw [List.mem_singleton] at hb
      subst hb
      exact (g7 a ha).2.1
    have hmem : moreF g fl t ∈ putF (moreF g fl t) S.fs := put_self
    have hfa2 := fa_exact (S' := ⟨S.aside, S.word, putF (moreF g fl t) S.fs⟩) h.st hS rfl hdr.st hT.fit hT.nd up pm hw hmem hri2
    have hfa3 : faM R u g.name = ((g.name, g.val, g.next + 1, g.mails ++ [(g.next, fl, t)]), 0) := hfa2
    rw [hgn] at hfa3
    refine .inr ⟨rfl, g.val, g.next, g.mails, hfa, rfl, g5, by omega, hfa3, ?_⟩
    have hlg : lookF (moreF g fl t).name S.fs = some g := by show lookF g.name S.fs = some g; rw [hgn]; exact hl
    have l1 := pm.length_eq
    have l2 := (desk_list h.st hus hS hw).length_eq
    have l3 := sum_old (g := moreF g fl t) (fs := S.fs) (f := g) hlg
    have l4 := put_len (g := moreF g fl t) hlg
    have l5 : (moreF g fl t).mails.length = g.mails.length + 1 := by show (g.mails ++ [(g.next, fl, t)]).length = _; simp
    unfold deskP at l1
    simp only [List.length_cons, List.length_append, flat_len] at l1 l2
    omega
end Go.Proofs.YtddnecljdecamaaGreatDoor
namespace Go.Proofs.YtddnecljdecamaaGreatDoor
open Go.ChangeShapes Go.WideShapes Go.ChangeAt Go.RowKit Go.Deep Go.Lib
set_option linter.unusedVariables false
set_option linter.unusedSimpArgs false
set_option maxRecDepth 100000

set_option maxHeartbeats 2000000 in
theorem specUserOf (ca : Option Addr) (n cc : Nat) (C : List Nat) (w : World) (hC : C.length = n) (hn : n ≤ 1048576) (h8 : ∀ x ∈ C, x < 256) (hs : Src w ca (cellsB C)) :
    Calls Tryz.prog 9 #[.slice ca n cc] w fun e w' => ∃ s : ByteArray, e = .returned (.string s) ∧ (s = annT ∨ s = bobT) ∧ Below w.heap.size w w' := by
  have CS := l00Source ca n cc C w hC hn h8 hs
  clear hC hn h8 hs
  go_enter Tryz.func9, Tryz.ntmps9
  go_wp2_with fail
  refine CS.mono ?_
  rintro e w1 ⟨rfl, hz1, hb1, hd1⟩
  have B1 : Hid (Below w.heap.size w w1) := hb1
  have CM := userDr w.heap.size n cc 0 ca C w1 (by omega) hd1
  clear hz1 hb1 hd1 CS
  go_wp2_with fail
  refine CM.mono ?_
  rintro e w2 ⟨s, rfl, hp, ht, _⟩
  have HF : Hid ((s = annT ∨ s = bobT) ∧ Below w.heap.size w w2) := ⟨hp, Below.turned B1.out ht (Nat.le_refl _) (Nat.le_refl _)⟩
  clear hp ht CM
  go_wp2_with fail
  go_ret
  exact ⟨s, rfl, HF.out⟩
end Go.Proofs.YtddnecljdecamaaGreatDoor
