/- Two rows of numbers that grow side by side. -/
import Derived.Test.YtfnedaidljppnaaSpA
import Derived.Maps.AppendAt
namespace Go.Proofs.Ytfnedaidljppnaa
open Go.RowKit Go.Iv
set_option linter.unusedSimpArgs false

theorem int64Info : (Try.prog.info? 2).map (fun i => (i.zero, i.size, i.bytes)) = some (some (.int .i64 0), 1, 8) := by kernel_rfl

theorem cells1_snoc (f : Int → Int) (l : List Int) (x : Int) : cells1 f (l ++ [x]) = cells1 f l ++ [.int .i64 (f x)] := by simp [cells1]
/-- Two rows of the call's own, apart from each other, and some blocks that stay. -/
def RB (w : World) (F : List (Nat × Array Value × TypeId)) (L : List Int) (l : Value) (p : Nat) (m : Value) (q : Nat) (wr : World) : Prop :=
  wr.ownsRow w.heap.size 2 1 l p (cells1 clN (L.take p)) ∧ wr.ownsRow w.heap.size 2 1 m q (cells1 clO (L.take q)) ∧ (∃ gl gm, l.ownBlock = some gl ∧ m.ownBlock = some gm ∧ gl ≠ gm) ∧ (∀ f ∈ F, wr.heap[f.1]? = some (.cells f.2.1 f.2.2 (0, 0)) ∧ f.2.2 ≠ 2) ∧ Below w.heap.size w wr
theorem RB.drewN {w wr : World} {F : List (Nat × Array Value × TypeId)} {L : List Int} {l m : Value} {p q : Nat} (h : RB w F L l p m q wr) (n : Nat) : RB w F L l p m q (wr.drewN n) :=
  ⟨h.1, h.2.1, h.2.2.1, h.2.2.2.1, below_drewN h.2.2.2.2 n⟩
theorem RB.alloc {w wr : World} {F : List (Nat × Array Value × TypeId)} {L : List Int} {l m : Value} {p q : Nat} (h : RB w F L l p m q wr) (o : Obj) : RB w F L l p m q (wr.alloc o) :=
  ⟨h.1.alloc o, h.2.1.alloc o, h.2.2.1, fun f hf => ⟨(Below.heap_alloc wr o _ (by
    have := (h.2.2.2.1 f hf).1
    exact (Array.getElem?_eq_some_iff.1 this).1)).trans (h.2.2.2.1 f hf).1, (h.2.2.2.1 f hf).2⟩, h.2.2.2.2.alloc h.2.2.2.2.size o⟩
theorem RB.more {w wr : World} {F : List (Nat × Array Value × TypeId)} {L : List Int} {l m : Value} {p q : Nat} (h : RB w F L l p m q wr) (cs : Array Value) (t : TypeId) (ht : t ≠ 2) : RB w ((wr.heap.size, cs, t) :: F) L l p m q (wr.alloc (.cells cs t)) := by
  have k := h.alloc (.cells cs t)
  refine ⟨k.1, k.2.1, k.2.2.1, ?_, k.2.2.2.2⟩
  intro f hf
  rcases List.mem_cons.1 hf with rfl | hf
  · exact ⟨heap_alloc_new wr _, ht⟩
  · exact k.2.2.2.1 f hf
theorem RB.less {w wr : World} {f : Nat × Array Value × TypeId} {F : List (Nat × Array Value × TypeId)} {L : List Int} {l m : Value} {p q : Nat} (h : RB w (f :: F) L l p m q wr) : RB w F L l p m q wr :=
  ⟨h.1, h.2.1, h.2.2.1, fun g hg => h.2.2.2.1 g (List.mem_cons_of_mem _ hg), h.2.2.2.2⟩
theorem RB.stepL {w wr w1 : World} {F : List (Nat × Array Value × TypeId)} {L : List Int} {l l' m : Value} {p q : Nat} (h : RB w F L l p m q wr) (hp : p < L.length) {e : Int} (he : L[p] = e)
    (hown : w1.ownsRow w.heap.size 2 1 l' (p + 1) (cells1 clN (L.take p) ++ [.int .i64 (clN e)])) (hg : wr.grownBy w1 l.ownBlock) (hat : l'.ownBlock = l.ownBlock ∨ l'.ownBlock = some wr.heap.size) : RB w F L l' (p + 1) m q w1 := by
  obtain ⟨h1, h2, ⟨gl, gm, e1, e2, hne⟩, h4, h5⟩ := h
  subst he
  refine ⟨?_, h2.kept hg (.inr (by rw [e1, e2]; simpa using fun h => hne h.symm)), ?_, ?_, ?_⟩
  · rw [List.take_succ_eq_append_getElem hp, cells1_snoc]
    exact hown
  · rcases hat with h | h
    · exact ⟨gl, gm, h.trans e1, e2, hne⟩
    · exact ⟨wr.heap.size, gm, h, e2, by have := (h2.lt gm e2).2; omega⟩
  · intro f hf
    refine ⟨?_, (h4 f hf).2⟩
    rw [hg.block f.1 (Array.getElem?_eq_some_iff.1 (h4 f hf).1).1 (fun e => own_ne h1 (h4 f hf).1 (h4 f hf).2 e.symm)]
    exact (h4 f hf).1
  · exact h5.grown hg h5.size (fun j hj => (h1.lt j hj).1)
theorem RB.stepM {w wr w1 : World} {F : List (Nat × Array Value × TypeId)} {L : List Int} {l m m' : Value} {p q : Nat} (h : RB w F L l p m q wr) (hq : q < L.length) {e : Int} (he : L[q] = e)
    (hown : w1.ownsRow w.heap.size 2 1 m' (q + 1) (cells1 clO (L.take q) ++ [.int .i64 (clO e)])) (hg : wr.grownBy w1 m.ownBlock) (hat : m'.ownBlock = m.ownBlock ∨ m'.ownBlock = some wr.heap.size) : RB w F L l p m' (q + 1) w1 := by
  obtain ⟨h1, h2, ⟨gl, gm, e1, e2, hne⟩, h4, h5⟩ := h
  subst he
  refine ⟨h1.kept hg (.inr (by rw [e1, e2]; simpa using hne)), ?_, ?_, ?_, ?_⟩
  · rw [List.take_succ_eq_append_getElem hq, cells1_snoc]
    exact hown
  · rcases hat with h | h
    · exact ⟨gl, gm, e1, h.trans e2, hne⟩
    · exact ⟨gl, wr.heap.size, e1, h, by have := (h1.lt gl e1).2; omega⟩
  · intro f hf
    refine ⟨?_, (h4 f hf).2⟩
    rw [hg.block f.1 (Array.getElem?_eq_some_iff.1 (h4 f hf).1).1 (fun e => own_ne h2 (h4 f hf).1 (h4 f hf).2 e.symm)]
    exact (h4 f hf).1
  · exact h5.grown hg h5.size (fun j hj => (h2.lt j hj).1)
end Go.Proofs.Ytfnedaidljppnaa
