
/-
  The desk of a mail store: what a pair is taken as. By an AI agent.
-/
import Derived.Test.YthgbclipknfmjaaGreatDoorTkm
namespace Go.Proofs.YthgbclipknfmjaaGreatDoor
open Go.ChangeShapes Go.WideShapes Go.ChangeAt Go.RowKit Go.Deep Go.Lib
open Go.ChangeMaps (setBlock)
set_option linter.unusedVariables false
set_option linter.unusedSimpArgs false
set_option maxRecDepth 100000

/-- What lies aside, the word, the folders. -/
structure SM where
  (aside : List PM) (word : ByteArray) (fs : List FM)
def asideM (S : SM) (p : PM) : Option SM := some { S with aside := S.aside ++ [p] }
def userM (u : ByteArray) (S : SM) (v : ByteArray) : Option SM := if (shortB u && shortB v) = true then some { S with word := v } else none
def putM (S : SM) (o : Option FM) : Option SM := o.map fun f => { S with fs := putF f S.fs }
def takeP (nx : Int) (u : ByteArray) (S : SM) (p : PM) : List (List UInt8) → Option SM
  | [a, b] => if bs b = u ∧ a = [117] then userM u S p.2 else asideM S p
  | [a, b, c] => if bs b = u ∧ a = [102] then putM S (folderM nx (bs c) p.2) else asideM S p
  | [a, b, c, d] => if bs b = u ∧ a = [109] then putM S (mailM S.fs (bs c) (bs d) p.2) else asideM S p
  | _ => asideM S p
def takeM (nx : Int) (u : ByteArray) (S : SM) (p : PM) : Option SM := takeP nx u S p (splitL 47 p.1.data.toList)
/-- A desk as it is told. -/
def StAt (w : World) (M : Nat) (a : Option Addr) (n c : Nat) (nx : Int) (u : ByteArray) (S : SM) (k : Nat) : Prop :=
  ∃ va X, DeskAt w M ⟨a, n, c, va, S.aside, nx, u, S.word, X⟩ ∧ View u X S.fs ∧ (S.fs.map (·.name)).Nodup ∧ (∀ f ∈ S.fs, 1 ≤ f.next ∧ f.next ≤ 999 ∧ f.mails.length ≤ k) ∧ S.aside.length ≤ k
theorem StAt.later {w w' : World} {M : Nat} {a : Option Addr} {n c : Nat} {nx : Int} {u : ByteArray} {S : SM} {k : Nat} (h : StAt w M a n c nx u S k) (hb : Below w.heap.size w w') : StAt w' M a n c nx u S k := by
  obtain ⟨va, X, h1, h2⟩ := h
  exact ⟨va, X, h1.later hb, h2⟩
theorem putF_mem {g f : FM} : ∀ {fs : List FM}, f ∈ putF g fs → f ∈ fs ∨ f = g
  | [], h => by
    simp only [putF, List.mem_singleton] at h
    exact .inr h
  | x :: fs, h => by
    unfold putF at h
    by_cases e : x.name = g.name
    · rw [if_pos e] at h
      rcases List.mem_cons.1 h with rfl | h
      · exact .inr rfl
      · exact .inl (List.mem_cons_of_mem _ h)
    · rw [if_neg e] at h
      rcases List.mem_cons.1 h with rfl | h
      · exact .inl List.mem_cons_self
      · rcases putF_mem h with h | h
        · exact .inl (List.mem_cons_of_mem _ h)
        · exact .inr h
theorem putF_names {g : FM} : ∀ {fs : List FM}, (fs.map (·.name)).Nodup → ((putF g fs).map (·.name)).Nodup
  | [], _ => by simp [putF]
  | x :: fs, h => by
    rw [List.map_cons, List.nodup_cons] at h
    unfold putF
    by_cases e : x.name = g.name
    · rw [if_pos e, List.map_cons, List.nodup_cons, ← e]
      exact h
    · rw [if_neg e, List.map_cons, List.nodup_cons]
      refine ⟨fun h9 => ?_, putF_names h.2⟩
      obtain ⟨z, hz, hz2⟩ := List.mem_map.1 h9
      rcases putF_mem hz with hz | rfl
      · exact h.1 (List.mem_map.2 ⟨z, hz, hz2⟩)
      · exact e hz2.symm
theorem folderM_facts {nx : Int} {name v : ByteArray} {f : FM} (h : folderM nx name v = some f) : 1 ≤ f.next ∧ f.next ≤ 999 ∧ f.mails.length = 0 := by
  unfold folderM folderN at h
  split at h
  · split at h
    · rename_i h9
      cases h
      exact ⟨h9.2.2.2.1, h9.2.2.2.2, rfl⟩
    · cases h
  · cases h
theorem mailM_facts {fs : List FM} {folder digits v : ByteArray} {g : FM} {k : Nat} (hf : ∀ f ∈ fs, 1 ≤ f.next ∧ f.next ≤ 999 ∧ f.mails.length ≤ k) (h : mailM fs folder digits v = some g) : 1 ≤ g.next ∧ g.next ≤ 999 ∧ g.mails.length ≤ k + 1 := by
  unfold mailM at h
  obtain ⟨f, h1, h2⟩ := Option.bind_eq_some_iff.1 h
  obtain ⟨u, _, _, _, _, _, _, _, _, rfl⟩ := mailO_some h2
  have := hf f (lookF_mem h1).1
  refine ⟨this.1, this.2.1, ?_⟩
  show (f.mails ++ [_]).length ≤ k + 1
  rw [List.length_append, List.length_singleton]
  omega
theorem st_put {w : World} {M : Nat} {D : DK} {S : SM} {k : Nat} {o : Option FM} (hT : Taken w M D S.fs o) (ha : D.aside = S.aside) (hw : D.word = S.word) (hn : (S.fs.map (·.name)).Nodup) (hf : ∀ f ∈ S.fs, 1 ≤ f.next ∧ f.next ≤ 999 ∧ f.mails.length ≤ k) (hk : S.aside.length ≤ k) (ho : ∀ f, o = some f → 1 ≤ f.next ∧ f.next ≤ 999 ∧ f.mails.length ≤ k + 1) :
    ∀ S', putM S o = some S' → StAt w M D.a D.n D.c D.next D.user S' (k + 1) := by
  intro S' h
  unfold putM at h
  obtain ⟨f, rfl, rfl⟩ := Option.map_eq_some_iff.1 h
  obtain ⟨X', h1, h2⟩ := hT f rfl
  refine ⟨D.va, X', ?_, h2, putF_names hn, fun g hg => ?_, by show S.aside.length ≤ k + 1; omega⟩
  · obtain ⟨a, n, c, va, sd, nx, u, wd, X⟩ := D
    simp only at ha hw
    subst ha hw
    exact h1
  · rcases putF_mem hg with hg | rfl
    · have := hf g hg; omega
    · exact ho _ rfl
theorem src_oneP {w : World} {x y : ByteArray} {B ty : Nat} (hB : B = w.heap.size) : Src (w.alloc (.cells #[.string x, .string y] ty)) (some ⟨B, 0, none⟩) (cellsP [(x, y)]) := by
  have hb : Box (w.alloc (.cells #[.string x, .string y] ty)) B [.string x, .string y] := Box.new hB
  refine .inr ⟨B, 0, rfl, fun k hk => ?_⟩
  have hk3 : k < 2 := hk
  rw [Nat.zero_add]
  match k, hk3 with
  | 0, _ => exact (hb 0 _ rfl).1
  | 1, _ => exact (hb 1 _ rfl).1
theorem splitI (s : ByteArray) (w : World) (hs : s.size ≤ 1048576) (hg : Gl w) : Calls Tryz.prog 145 #[.string s, .string ⟨#[47]⟩] w fun e w' => e = .returned (.slice (some ⟨w.heap.size, 0, none⟩) (splitL 47 s.data.toList).length (splitL 47 s.data.toList).length) ∧ Src w' (some ⟨w.heap.size, 0, none⟩) (cellsS ((splitL 47 s.data.toList).map bs)) ∧ Below w.heap.size w w' := by
  obtain ⟨m, hm⟩ := hg.2.2.1
  refine (Tryz.strings_Split s ⟨#[47]⟩ m w (by omega) hm (by decide)).mono ?_
  rintro e w' ⟨rfl, rfl⟩
  have h1 : splitB ⟨#[47]⟩ 0 (countB s ⟨#[47]⟩) s = (splitL 47 s.data.toList).map bs := splitB_eq 47 s
  have h2 : countB s ⟨#[47]⟩ + 1 = ((splitL 47 s.data.toList).map bs).length := countB_eq 47 s
  rw [List.length_map] at h2
  rw [h1, h2]
  refine ⟨rfl, ?_, (Below.refl _ _).alloc (Nat.le_refl _) _⟩
  have hb : Box (w.alloc (.cells (((splitL 47 s.data.toList).map bs).map Value.string).toArray 9)) w.heap.size (((splitL 47 s.data.toList).map bs).map Value.string) := Box.new rfl
  refine .inr ⟨w.heap.size, 0, rfl, fun j hj => ?_⟩
  rw [Nat.zero_add]
  exact (hb j _ (by
    show (cellsS ((splitL 47 s.data.toList).map bs))[j]? = some ((cellsS ((splitL 47 s.data.toList).map bs)).getD j undef)
    rw [List.getD_eq_getElem?_getD, List.getElem?_eq_getElem hj]
    rfl)).1
end Go.Proofs.YthgbclipknfmjaaGreatDoor
