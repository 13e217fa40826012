/- What is drawn of declarations, from a code: what stands. -/
import Derived.Test.YtpdnnpnclgcpoaaDoorDrZ
namespace Go.Proofs.YtpdnnpnclgcpoaaDoor
open Go.RowKit Go.Iv
set_option linter.unusedSimpArgs false
set_option linter.unusedVariables false

/-- The texts of a literal. -/
def LitS (u : World) (B g : Nat) (l : List ByteArray) : Prop := (∀ i, (h : i < l.length) → u.cell? ⟨g, i, none⟩ = some (.string l[i])) ∧ B ≤ g ∧ g < u.heap.size
theorem LitS.new (u : World) (B : Nat) (l : List ByteArray) (t : TypeId) (hB : B ≤ u.heap.size) : LitS (u.alloc (.cells (l.map Value.string).toArray t)) B u.heap.size l := by
  have h : (u.alloc (.cells (l.map Value.string).toArray t)).heap[u.heap.size]? = some (.cells (l.map Value.string).toArray t) := heap_alloc_new u _
  refine ⟨fun i hi => ?_, hB, by simp⟩
  unfold World.cell?
  rw [h]
  simp [hi]
theorem LitS.call {u v : World} {B g : Nat} {l : List ByteArray} (h : LitS u B g l) (k : Below u.heap.size u v) : LitS v B g l :=
  ⟨fun i hi => (k.cell (p := ⟨g, i, none⟩) h.2.2).trans (h.1 i hi), h.2.1, Nat.lt_of_lt_of_le h.2.2 k.size⟩
theorem LitS.alloc {u : World} {B g : Nat} {l : List ByteArray} (h : LitS u B g l) (o : Obj) : LitS (u.alloc o) B g l := h.call ((Below.refl _ u).alloc (Nat.le_refl _) o)
theorem LitS.kp {u v : World} {b B g : Nat} {l : List ByteArray} (h : LitS u B g l) (k : Kp b u v) (hb : b < B) : LitS v B g l := by
  have hg := k.block g h.2.2 (by have := h.2.1; omega)
  exact ⟨fun i hi => (World.cell?_of_block (w := u) hg).trans (h.1 i hi), h.2.1, Nat.lt_of_lt_of_le h.2.2 k.size⟩
theorem LitS.set {u : World} {B g c o : Nat} {l : List ByteArray} (h : LitS u B g l) (hc : g ≠ c) (x : Value) : LitS (u.setCell ⟨c, o, none⟩ x) B g l :=
  ⟨fun i hi => (World.cell?_setCell_other _ _ _ _ (by intro q; cases q; exact hc rfl)).trans (h.1 i hi), h.2.1, by simpa [World.setCell] using h.2.2⟩
theorem LitS.strs {u : World} {B g : Nat} {l : List ByteArray} (h : LitS u B g l) (n : Nat) (hl : l.length ≤ 1000) : Strs u (some ⟨g, 0, none⟩) (l.take n) := by
  refine ⟨by rw [List.length_take]; omega, .inr ⟨g, 0, rfl, fun i hi => ?_⟩⟩
  rw [List.length_take] at hi
  rw [Nat.zero_add, h.1 i (by omega), List.getElem_take]
def litV : List ByteArray := [⟨#[120]⟩, ⟨#[121]⟩, ⟨#[105]⟩, ⟨#[110]⟩, ⟨#[107]⟩]
def litF : List ByteArray := [⟨#[98]⟩, ⟨#[99]⟩, ⟨#[102]⟩]
theorem lim_5 (k : Nat) (h : k < 4) : 0 ≤ 1 + (k : Int) ∧ 1 + (k : Int) ≤ 5 ∧ IntKind.i64.wrap (1 + (k : Int)) = 1 + (k : Int) := ⟨by omega, by omega, by rw [IntKind.wrap_i64]; omega⟩
theorem lim_3 (k : Nat) (h : k < 2) : 0 ≤ 1 + (k : Int) ∧ 1 + (k : Int) ≤ 3 ∧ IntKind.i64.wrap (1 + (k : Int)) = 1 + (k : Int) := ⟨by omega, by omega, by rw [IntKind.wrap_i64]; omega⟩
/-- What is made while a declaration is drawn. -/
def DcB (w0 : World) (b : Nat) (a : Option Addr) (len cap B : Nat) (V F X : Option Nat) (u : World) : Prop :=
  Left b a len cap w0 u ∧ B ≤ u.heap.size ∧ (∀ g, V = some g → LitS u B g litV) ∧ (∀ g, F = some g → LitS u B g litF) ∧ (∀ g, X = some g → C3 u g (.slice none 0 0) (.slice none 0 0) (.slice none 0 0) ∧ B ≤ g) ∧ (∀ g h, V = some g → X = some h → g ≠ h) ∧ (∀ g h, F = some g → X = some h → g ≠ h)
section
variable {w0 u v : World} {b : Nat} {a : Option Addr} {len cap B : Nat} {V F X : Option Nat}
theorem DcB.kp (h : DcB w0 b a len cap B V F X u) (hb : b < B) (k : Left b a len cap u v) : DcB w0 b a len cap B V F X v :=
  ⟨h.1.trans k, Nat.le_trans h.2.1 k.2.size, fun g e => (h.2.2.1 g e).kp k.2 hb, fun g e => (h.2.2.2.1 g e).kp k.2 hb, fun g e => ⟨(h.2.2.2.2.1 g e).1.kp k.2 (by have := (h.2.2.2.2.1 g e).2; omega), (h.2.2.2.2.1 g e).2⟩, h.2.2.2.2.2.1, h.2.2.2.2.2.2⟩
theorem DcB.drew (h : DcB w0 b a len cap B V F X u) : DcB w0 b a len cap B V F X u.drew := ⟨h.1.drew, h.2⟩
theorem DcB.alloc (h : DcB w0 b a len cap B V F X u) (o : Obj) : DcB w0 b a len cap B V F X (u.alloc o) :=
  ⟨h.1.alloc o, by simp; exact Nat.le_succ_of_le h.2.1, fun g e => (h.2.2.1 g e).alloc o, fun g e => (h.2.2.2.1 g e).alloc o, fun g e => ⟨(h.2.2.2.2.1 g e).1.alloc o, (h.2.2.2.2.1 g e).2⟩, h.2.2.2.2.2.1, h.2.2.2.2.2.2⟩
theorem DcB.litV (h : DcB w0 b a len cap B none F X u) : DcB w0 b a len cap B (some u.heap.size) F X (u.alloc (Obj.cells #[.string ⟨#[120]⟩, .string ⟨#[121]⟩, .string ⟨#[105]⟩, .string ⟨#[110]⟩, .string ⟨#[107]⟩] 9)) := by
  have k := h.alloc (Obj.cells #[.string ⟨#[120]⟩, .string ⟨#[121]⟩, .string ⟨#[105]⟩, .string ⟨#[110]⟩, .string ⟨#[107]⟩] 9)
  exact ⟨k.1, k.2.1, fun g e => by cases e; exact LitS.new u B Go.Proofs.YtpdnnpnclgcpoaaDoor.litV _ h.2.1, k.2.2.2.1, k.2.2.2.2.1, fun g q e1 e2 => by cases e1; have := (h.2.2.2.2.1 q e2).1.lt; omega, k.2.2.2.2.2.2⟩
theorem DcB.litF (h : DcB w0 b a len cap B V none X u) : DcB w0 b a len cap B V (some u.heap.size) X (u.alloc (Obj.cells #[.string ⟨#[98]⟩, .string ⟨#[99]⟩, .string ⟨#[102]⟩] 9)) := by
  have k := h.alloc (Obj.cells #[.string ⟨#[98]⟩, .string ⟨#[99]⟩, .string ⟨#[102]⟩] 9)
  exact ⟨k.1, k.2.1, k.2.2.1, fun g e => by cases e; exact LitS.new u B Go.Proofs.YtpdnnpnclgcpoaaDoor.litF _ h.2.1, k.2.2.2.2.1, k.2.2.2.2.2.1, fun g q e1 e2 => by cases e1; have := (h.2.2.2.2.1 q e2).1.lt; omega⟩
theorem DcB.box (h : DcB w0 b a len cap B V F none u) : DcB w0 b a len cap B V F (some u.heap.size) (u.alloc (Obj.cells #[.slice none 0 0, .slice none 0 0, .slice none 0 0] 27)) := by
  have k := h.alloc (Obj.cells #[.slice none 0 0, .slice none 0 0, .slice none 0 0] 27)
  exact ⟨k.1, k.2.1, k.2.2.1, k.2.2.2.1, fun g e => by cases e; exact ⟨C3.new _ _ _ _ _, h.2.1⟩, fun g q e1 e2 => by cases e2; have := (h.2.2.1 g e1).2.2; omega, fun g q e1 e2 => by cases e2; have := (h.2.2.2.1 g e1).2.2; omega⟩
theorem DcB.c3 {g : Nat} (h : DcB w0 b a len cap B V F (some g) u) : C3 u g (.slice none 0 0) (.slice none 0 0) (.slice none 0 0) := (h.2.2.2.2.1 g rfl).1
end
/-- A declaration of two literals' texts, in a box. -/
def DcR (w0 : World) (b : Nat) (a : Option Addr) (len cap B : Nat) (p : Value) (wc : World) : Prop :=
  ∃ g3 g1 g2 n1 n2, p = .pointer (some ⟨g3, 0, none⟩) ∧ C3 wc g3 (.slice (some ⟨g1, 0, none⟩) n1 5) (.slice (some ⟨g2, 0, none⟩) n2 3) (.slice none 0 0) ∧ B ≤ g3 ∧ LitS wc B g1 litV ∧ LitS wc B g2 litF ∧ g1 ≠ g3 ∧ g2 ≠ g3 ∧ n1 ≤ 5 ∧ n2 ≤ 3 ∧ Left b a len cap w0 wc
theorem DcB.fin {w0 u : World} {b : Nat} {a : Option Addr} {len cap B g1 g2 g3 : Nat} (h : DcB w0 b a len cap B (some g1) (some g2) (some g3) u) (n1 n2 : Nat) (h1 : n1 ≤ 5) (h2 : n2 ≤ 3) (hb : b < w0.heap.size) (hB : w0.heap.size ≤ B) (hc : ∀ x, a = some x → 0 < len → x.block < w0.heap.size) :
    DcR w0 b a len cap B (.pointer (some ⟨g3, 0, none⟩)) (((u.setCell ⟨g3, 0, none⟩ (.slice (some ⟨g1, 0, none⟩) n1 5)).setCell ⟨g3, 1, none⟩ (.slice (some ⟨g2, 0, none⟩) n2 3)).setCell ⟨g3, 2, none⟩ (.slice none 0 0)) := by
  have e1 := h.2.2.2.2.2.1 g1 g3 rfl rfl
  have e2 := h.2.2.2.2.2.2 g2 g3 rfl rfl
  have e3 := (h.2.2.2.2.1 g3 rfl).2
  exact ⟨g3, g1, g2, n1, n2, rfl, ((h.c3.set0 _).set1 _).set2 _, e3, (((h.2.2.1 g1 rfl).set e1 _).set e1 _).set e1 _, (((h.2.2.2.1 g2 rfl).set e2 _).set e2 _).set e2 _, e1, e2, h1, h2, ((h.1.set (by omega) hb hc _).set (by omega) hb hc _).set (by omega) hb hc _⟩
theorem arr_new (u : World) (g : Nat) (hg : g = u.heap.size) (s : ByteArray) (n : Int) (t : TypeId) : Arrs (u.alloc (Obj.cells #[.string s, .int .i64 n] t)) (some ⟨g, 0, none⟩) [(s, n)] := by
  subst hg
  have h : (u.alloc (Obj.cells #[.string s, .int .i64 n] t)).heap[u.heap.size]? = some (.cells #[.string s, .int .i64 n] t) := heap_alloc_new u _
  refine ⟨by simp, .inr ⟨u.heap.size, 0, rfl, fun i hi => ?_⟩⟩
  obtain rfl : i = 0 := by simp at hi; omega
  constructor <;> (unfold World.cell?; rw [h]; rfl)
theorem arrs_set {u : World} {g c o : Nat} {rs : List (ByteArray × Int)} (h : Arrs u (some ⟨g, 0, none⟩) rs) (hne : g ≠ c) (x : Value) : Arrs (u.setCell ⟨c, o, none⟩ x) (some ⟨g, 0, none⟩) rs := by
  refine ⟨h.1, ?_⟩
  rcases h.2 with h0 | ⟨cb, co, e, hc⟩
  · exact .inl h0
  · cases e
    exact .inr ⟨g, 0, rfl, fun i hi => ⟨(World.cell?_setCell_other _ _ _ _ (by intro q; cases q; exact hne rfl)).trans (hc i hi).1, (World.cell?_setCell_other _ _ _ _ (by intro q; cases q; exact hne rfl)).trans (hc i hi).2⟩⟩
theorem names_small (n1 n2 : Nat) (rs : List (ByteArray × Int)) (h : ∀ p ∈ rs, p.1.size ≤ 1048576) : ∀ x ∈ namesOf (litV.take n1) (litF.take n2) rs, x.size ≤ 1048576 := by
  have hV : ∀ x ∈ litV, x.size ≤ 1048576 := by decide
  have hF : ∀ x ∈ litF, x.size ≤ 1048576 := by decide
  intro x hx
  unfold namesOf at hx
  rcases List.mem_append.1 hx with hx | hx
  · rcases List.mem_append.1 hx with hx | hx
    · exact hV x (List.mem_of_mem_take hx)
    · exact hF x (List.mem_of_mem_take hx)
  · obtain ⟨p, hp, rfl⟩ := List.mem_map.1 hx
    exact h p hp
end Go.Proofs.YtpdnnpnclgcpoaaDoor
