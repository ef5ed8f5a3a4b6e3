
/-
  Reading a message, by the program: head. By an AI agent.
-/
import Derived.Test.YtgbhjhbmolgbeaaDoorPar1
namespace Go.Proofs.YtgbhjhbmolgbeaaDoor
open Go.ChangeShapes Go.WideShapes Go.ChangeAt Go.RowKit Go.Deep
set_option linter.unusedVariables false
set_option maxRecDepth 100000

/-- How long the text is that lies at the head of block B. -/
def restLen (w : World) (B : Nat) : Nat := match w.cell? ⟨B, 0, none⟩ with
  | some (.string s) => s.size
  | _ => 0
theorem restLen_box {w : World} {B : Nat} {s : ByteArray} (h : Box w B [.string s]) : restLen w B = s.size := by
  unfold restLen
  rw [(h 0 _ rfl).1]
theorem src_oneF {w : World} {x y : ByteArray} {B t : Nat} (hB : B = w.heap.size) : Src (w.alloc (.cells #[.string x, .string y] t)) (some ⟨B, 0, none⟩) (cellsFl [(x, y)]) := by
  subst hB
  refine .inr ⟨_, 0, rfl, fun j hj => ?_⟩
  have hb := Box.new (w := w) (B := w.heap.size) (vs := #[.string x, .string y]) (t := t) rfl
  have hj2 : j < 2 := hj
  rcases (show j = 0 ∨ j = 1 by omega) with rfl | rfl
  · exact (hb 0 _ rfl).1
  · exact (hb 1 _ rfl).1
theorem cut_len (l sep : List UInt8) : (Lib.cut l sep).1.length ≤ l.length ∧ (Lib.cut l sep).2.1.length ≤ l.length := by
  unfold Lib.cut
  split
  · simp; omega
  · simp
theorem Box.belowAt {w w' : World} {B b : Nat} {vs : List Value} (h : Box w B vs) (hb : Below b w w') (hB : B < b) : Box w' B vs := fun i v hv => by
  obtain ⟨h1, h2⟩ := h i v hv
  exact ⟨(hb.cell (p := ⟨B, i, none⟩) hB).trans h1, (hb.frozen (p := ⟨B, i, none⟩) hB).trans h2⟩
/-- What the fields are no longer than. -/
def flsLe (F : List MFl) (n : Nat) : Prop := ∀ x ∈ F, x.1.size ≤ n ∧ x.2.size ≤ n

set_option maxHeartbeats 2000000 in
theorem headI (l : List UInt8) (B : Nat) (w : World) (hl : l.length ≤ 100000) (hm : MaxAt w) (hB : Box w B [.string (bsOf l)]) (hB0 : 0 < B) :
    Calls Tryd.prog 64 #[.pointer (some ⟨B, 0, none⟩)] w fun e w' => ∃ (v : Value) (F : List MFl) (r : ByteArray), e = .returned (.tuple #[v, .bool (headF (l.length + 1) l []).isSome]) ∧ (∀ x, headF (l.length + 1) l [] = some x → F = x.1 ∧ r = bsOf x.2) ∧
      w'.ownsRow w.heap.size 33 2 v F.length (cellsFl F) ∧ F.length ≤ l.length ∧ flsLe F l.length ∧ r.size ≤ l.length ∧ Box w' B [.string r] ∧ Turned B (B + 1) w w' := by
  obtain ⟨o, ho⟩ : ∃ o, headF (l.length + 1) l [] = o := ⟨_, rfl⟩
  have hBw : B < w.heap.size := World.block_lt_of_cell? _ _ (hB 0 _ rfl).1
  rw [ho]
  have HO : Hid (headF (l.length + 1) l [] = o) := ho
  have HM : Hid (MaxAt w) := hm
  have HB : Hid (Box w B [.string (bsOf l)]) := hB
  clear ho hm hB
  go_enter Tryd.func64, Tryd.ntmps64
  go_wp2_with fail
  go_loopw [4] (fun v wr => ∃ (n : Nat) (t : List UInt8) (acc : List MFl), t.length < n ∧ t.length + acc.length ≤ l.length ∧ Hid (headF n t acc = o) ∧ Hid (flsLe acc l.length) ∧ Hid (Box wr B [.string (bsOf t)]) ∧ Hid (wr.ownsRow w.heap.size 33 2 v acc.length (cellsFl acc)) ∧ Hid (Turned B (B + 1) w wr)) (fun _ wr => restLen wr B)
  case atStart => exact ⟨l.length + 1, l, [], by omega, by simp, HO, (fun x hx => by cases hx), HB.out, World.ownsRow_nil _ _ _ _, Turned.refl _ _ _⟩
  case round =>
    obtain ⟨n, t, acc, hn, hta, he, hfl, hbx, how, htu⟩ := hrel
    obtain ⟨va, vc, rfl, _, _⟩ := own_src how.out
    obtain ⟨n, rfl⟩ : ∃ m, n = m + 1 := ⟨n - 1, by omega⟩
    have HE := he.out
    unfold headF at HE
    have hcn := cut_nl t
    have hnl := nl_le t
    have hrl := restLen_box hbx.out
    rw [bsOf_size] at hrl
    have HRL : Hid (restLen wr B = t.length) := hrl
    obtain ⟨m, hm⟩ : ∃ m, acc.length = m := ⟨_, rfl⟩
    have HMM : Hid (acc.length = m) := hm
    rw [hm] at how hta ⊢
    clear hrl hm he
    have HL := lineI t B wr (by omega) (HM.out.turned htu.out hB0) hbx.out
    rw [hcn] at HL
    clear hcn
    by_cases h1 : nl t = t.length
    · rw [if_pos h1] at HE HL
      subst HE
      simp only at HL
      clear h1 hnl
      obtain ⟨x, hx⟩ : ∃ x, bsOf t = x := ⟨_, rfl⟩
      rw [hx] at HL
      go_wp2_with (go_at_call 74; refine HL.mono ?_; rintro e w1 ⟨rfl, bx1, tu1⟩)
      go_ret2
      refine ⟨.slice va m vc, acc, ⟨#[]⟩, rfl, (fun x hx => by cases hx), ?_, by have := HMM.out; omega, hfl.out, (Nat.zero_le _), bx1, htu.out.trans tu1⟩
      rw [HMM.out]
      exact own_turned how.out tu1 (top := wr.heap.size) (fun k e => (how.out.lt k e).2) (.inr (by omega))
    rw [if_neg h1] at HE HL
    simp only at HL
    by_cases h2 : nl t = 0
    · rw [if_pos h2] at HE
      rw [h2] at HL
      subst HE
      clear h1 hnl h2
      have hq : ((⟨#[]⟩ : ByteArray).toList == []) = true := by rw [Lib.toList_data]; rfl
      have HL' : Calls Tryd.prog 74 #[.pointer (some ⟨B, 0, none⟩)] wr fun e w' => e = .returned (.tuple #[.string ⟨#[]⟩, .bool true]) ∧ Box w' B [.string (bsOf (t.drop 1))] ∧ Turned B (B + 1) wr w' := HL
      clear HL
      go_wp2_with (go_at_call 74; refine HL'.mono ?_; rintro e w1 ⟨rfl, bx1, tu1⟩)
      go_ret2
      refine ⟨.slice va m vc, acc, bsOf (t.drop 1), rfl, (fun x hx => by cases hx; exact ⟨rfl, rfl⟩), ?_, by have := HMM.out; omega, hfl.out, by rw [bsOf_size]; simp; omega, bx1, htu.out.trans tu1⟩
      rw [HMM.out]
      exact own_turned how.out tu1 (top := wr.heap.size) (fun k e => (how.out.lt k e).2) (.inr (by omega))
    rw [if_neg h2] at HE
    obtain ⟨ln, hln⟩ : ∃ x, t.take (nl t) = x := ⟨_, rfl⟩
    obtain ⟨rs, hrs⟩ : ∃ x, t.drop (nl t + 1) = x := ⟨_, rfl⟩
    have hlnl : ln.length = nl t := by rw [← hln]; simp; omega
    have hrsl : rs.length + nl t + 1 = t.length := by rw [← hrs]; simp; omega
    rw [hln, hrs] at HE HL
    have hq : ((bsOf ln).toList == []) = false := by
      rw [Lib.toList_data, bsOf_list, beq_eq_false_iff_ne]
      intro e; rw [e] at hlnl; simp at hlnl; omega
    have hlt : ln.length ≤ 1048576 := by omega
    have HC : ∀ w, MaxAt w → Calls Tryd.prog 75 #[.string (bsOf ln), .string ⟨#[58, 32]⟩] w fun e w' => e = .returned (.tuple #[.string (bsOf (Lib.cut ln [58, 32]).1), .string (bsOf (Lib.cut ln [58, 32]).2.1), .bool (Lib.cut ln [58, 32]).2.2]) ∧ ∃ n, w' = w.drewN n := fun w hm => cutC ln ⟨#[58, 32]⟩ w hlt hm
    have hcl := cut_len ln [58, 32]
    obtain ⟨x, hx⟩ : ∃ s, bsOf (Lib.cut ln [58, 32]).1 = s := ⟨_, rfl⟩
    obtain ⟨y, hy⟩ : ∃ s, bsOf (Lib.cut ln [58, 32]).2.1 = s := ⟨_, rfl⟩
    obtain ⟨f, hf⟩ : ∃ s, (Lib.cut ln [58, 32]).2.2 = s := ⟨_, rfl⟩
    have hxs : x.size ≤ l.length ∧ y.size ≤ l.length := by rw [← hx, ← hy, bsOf_size, bsOf_size]; omega
    simp only [hx, hy, hf] at HC HE
    obtain ⟨lb, hlb⟩ : ∃ s, bsOf ln = s := ⟨_, rfl⟩
    rw [hlb] at HC HL hq
    have HX : Hid (x.size ≤ l.length ∧ y.size ≤ l.length) := hxs
    have HR : Hid (rs.length + 1 < t.length) := by show _ < _; omega
    clear hx hy hf hln hrs hxs hcl hlt hlb h1 h2 hnl
    cases f with
    | false =>
      simp only [Bool.false_eq_true, if_false] at HE
      subst HE
      have HRS : Hid ((bsOf rs).size ≤ l.length) := by show _ ≤ _; rw [bsOf_size]; omega
      clear hlnl hrsl
      go_wp2_with (first | (go_at_call 74; refine HL.mono ?_; rintro e w1 ⟨rfl, bx1, tu1⟩; have MX : MaxAt w1 := HM.out.turned (htu.out.trans tu1) hB0) | (go_at_call 75; refine (HC _ MX).mono ?_; rintro e w' ⟨rfl, q, rfl⟩))
      go_ret2
      exact ⟨.slice none 0 0, [], bsOf rs, rfl, (fun x hx => by cases hx), World.ownsRow_nil _ _ _ _, by simp, (fun x hx => by cases hx), HRS.out, bx1, (htu.out.trans tu1).drewN q⟩
    | true =>
      simp only [if_true] at HE
      have HE' : Hid (headF n rs (acc ++ [(x, y)]) = o) := HE
      have hrn : rs.length < n := by omega
      have hrt : rs.length + (m + 1) ≤ l.length := by omega
      clear HE hlnl hrsl
      go_wp2_with (first | (go_at_call 74; refine HL.mono ?_; rintro e w1 ⟨rfl, bx1, tu1⟩; have MX : MaxAt w1 := HM.out.turned (htu.out.trans tu1) hB0) | (go_at_call 75; refine (HC _ MX).mono ?_; rintro e w' ⟨rfl, q, rfl⟩) | (at_builtin; refine wpList_append_src _ rfl _ _ 23 rfl w.heap.size 33 (.agg #[.string ⟨#[]⟩, .string ⟨#[]⟩]) 2 32 Tryd.underlying23 infoFl rfl (by decide) (by decide) (.slice va m vc) m (cellsFl acc) rfl ((own_turned how.out tu1 (top := wr.heap.size) (fun k e => (how.out.lt k e).2) (.inr (by omega))).alloc _) (some ⟨w1.heap.size, 0, none⟩) 1 1 (cellsFl [(x, y)]) rfl rfl (show Src (w1.alloc (.cells #[.string x, .string y] 33)) _ _ from src_oneF rfl) (cellsFl_one _) (by omega) (by have := tu1.size; have := htu.out.size; simp; omega) ?_))
      intro v' w2 hown hgrow
      obtain ⟨b', d', rfl, _, _⟩ := own_src hown
      have hs1 : w.heap.size ≤ w1.heap.size := (htu.out.trans tu1).size
      have hBe : Below w.heap.size (w1.drewN q) w2 := ((Below.refl w.heap.size (w1.drewN q)).alloc (show w.heap.size ≤ (w1.drewN q).heap.size from hs1) _).grown hgrow (show w.heap.size ≤ ((w1.drewN q).alloc _).heap.size from le_alloc hs1 _) (fun k e => (how.out.lt k e).1)
      have BX2 : Hid (Box w2 B [.string (bsOf rs)]) := (show Box (w1.drewN q) B _ from bx1).belowAt hBe hBw
      have TU2 : Hid (Turned B (B + 1) w w2) := ((htu.out.trans tu1).drewN q).below hBe
      have OW2 : Hid (w2.ownsRow w.heap.size 33 2 (.slice b' (m + 1) d') (m + 1) (cellsFl (acc ++ [(x, y)]))) := own_congr hown (cellsFl_append _ _).symm
      have FL2 : Hid (flsLe (acc ++ [(x, y)]) l.length) := fun z hz => by
        rcases List.mem_append.1 hz with h | h
        · exact hfl.out z h
        · simp at h; subst h; exact HX.out
      have RL2 : Hid (restLen w2 B < restLen wr B) := by
        show _ < _
        rw [HRL.out, restLen_box BX2.out, bsOf_size]
        have := HR.out
        omega
      have LA : Hid ((acc ++ [(x, y)]).length = m + 1) := by show _ = _; simp; exact HMM.out
      clear hown hgrow hBe bx1 tu1 hs1 MX
      go_wp2_with fail
      exact ⟨⟨n, rs, acc ++ [(x, y)], hrn, by rw [LA.out]; omega, HE'.out, FL2.out, BX2.out, by rw [LA.out]; exact OW2.out, TU2.out⟩, RL2.out⟩
end Go.Proofs.YtgbhjhbmolgbeaaDoor
