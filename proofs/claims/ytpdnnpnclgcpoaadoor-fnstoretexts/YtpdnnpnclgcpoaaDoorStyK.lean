/- Texts of bounds and of stores are alike just where these are. -/
import Derived.Test.YtpdnnpnclgcpoaaDoorStyD
import Derived.Test.YtpdnnpnclgcpoaaDoorHasM
import Derived.Test.YtpdnnpnclgcpoaaDoorOrdK
import Derived.Test.YtpdnnpnclgcpoaaDoorSuZ
import Derived.Test.YtpdnnpnclgcpoaaDoorSttF
import Derived.Test.YtpdnnpnclgcpoaaDoorSttD
import Derived.Test.YtpdnnpnclgcpoaaDoorEtxF
import Derived.Test.YtpdnnpnclgcpoaaDoorEtZ
import Derived.Test.YtpdnnpnclgcpoaaDoorSaZ
namespace Go.Proofs.YtpdnnpnclgcpoaaDoor
open Go.RowKit Go.Iv
set_option linter.unusedSimpArgs false
set_option linter.unusedVariables false

theorem tl_inj {a b : ByteArray} (h : a.toList = b.toList) : a = b := ba_eq (by simpa only [ByteArray.toList_eq] using h)
theorem env_texts {vs fs : List ByteArray} {rs : List (ByteArray × Int)} {lj : Bool} {xs ys xs' ys' : List (Int × Int)} (h : envB vs fs rs true xs ys = true) (h' : envB vs fs rs lj xs' ys' = true) : ((envT true vs rs xs ys).toList == (envT lj vs rs xs' ys').toList) = samB true xs ys lj xs' ys' := by
  rw [Bool.eq_iff_iff]
  unfold samB
  simp only [beq_iff_eq, decide_eq_true_eq, Bool.and_eq_true]
  constructor
  · intro e
    obtain ⟨a, b, c⟩ := env_inj h h' (tl_inj e)
    exact ⟨a.symm, b, c⟩
  · rintro ⟨rfl, rfl, rfl⟩
    rfl
theorem store_texts {vs fs : List ByteArray} {rs : List (ByteArray × Int)} {is is' : List Int} {bs bs' : List Bool} {js js' : List (List Int)} (h : storeB vs fs rs is bs js = true) (h' : storeB vs fs rs is' bs' js' = true) : ((jnS (stW vs fs rs is bs js)).toList == (jnS (stW vs fs rs is' bs' js')).toList) = samS is is' bs bs' js js' := by
  rw [Bool.eq_iff_iff]
  unfold samS
  simp only [beq_iff_eq, decide_eq_true_eq, Bool.and_eq_true]
  constructor
  · intro e
    exact store_inj h h' (tl_inj e)
  · rintro ⟨rfl, rfl, rfl⟩
    rfl
theorem InL.toP {xs : List (Int × Int)} (h : InL xs) : InP xs := fun i hi => h _ (List.getElem_mem hi)
theorem In1.inI {xs ys : List (Int × Int)} {fs : List ByteArray} {rs : List (ByteArray × Int)} {is : List Int} {bs : List Bool} {js : List (List Int)} (hF : InF xs ys fs rs is bs js) (h : In1 xs is xs.length) (hx : InL xs) : InI is := fun i hi => by
  have h1 : i < xs.length := by have := hF.1; omega
  have q := h i h1 hi h1
  have l := hx _ (List.getElem_mem h1)
  have l1 : In xs[i].1 := l.1
  have l2 : In xs[i].2 := l.2
  unfold In at l1 l2
  omega
theorem In2.inJ {xs ys : List (Int × Int)} {fs : List ByteArray} {rs : List (ByteArray × Int)} {is : List Int} {bs : List Bool} {js : List (List Int)} (hF : InF xs ys fs rs is bs js) (hl : ys.length = js.length) (h : In2 ys js ys.length) (hy : InL ys) : InJ js := fun k hk t ht => by
  have h1 : k < ys.length := by omega
  have q := h k h1 hk h1 t ht
  have l := hy _ (List.getElem_mem h1)
  have l1 : In ys[k].1 := l.1
  have l2 : In ys[k].2 := l.2
  unfold In at l1 l2
  omega
/-- A store's rows. -/
def StV (u : World) (oa ob oc : Option Addr) (is : List Int) (bs : List Bool) (js : List (List Int)) : Prop := Ints u oa is ∧ Bools u ob bs ∧ Mats u oc js
theorem StV.call {u v : World} {oa ob oc : Option Addr} {is : List Int} {bs : List Bool} {js : List (List Int)} (h : StV u oa ob oc is bs js) (k : Below u.heap.size u v) : StV v oa ob oc is bs js := ⟨h.1.call k, h.2.1.call k, h.2.2.call k⟩
/-- What inside answers. -/
theorem in_store {u : World} {B B1 T cc : Nat} {oa ob oc : Option Addr} {gs : List Nat} {vs fs : List ByteArray} {rs : List (ByteArray × Int)} {xs ys : List (Int × Int)} {is : List Int} {bs : List Bool} {js : List (List Int)} (he : envB vs fs rs true xs ys = true) (hw : StW u B B1 T oa ob oc cc gs is bs js) (hF : InF xs ys fs rs is bs js) (h1 : In1 xs is xs.length) (h2 : In2 ys js ys.length) (hx : InL xs) (hy : InL ys) :
    StV u oa ob oc is bs js ∧ storeB vs fs rs is bs js = true ∧ InI is ∧ InJ js ∧ bs.length = fs.length ∧ js.length = rs.length := by
  have hjl : js.length ≤ 1048576 := by
    rw [hF.2.2.1]
    have q : declP vs fs rs := of_decide_eq_true (env_decl he)
    have := q.2.2.1
    omega
  have hl : ys.length = js.length := by
    have q := env_live he
    rw [hF.2.2.1]
    exact q.2.1
  exact ⟨⟨hw.ints, hw.bools, hw.mats hjl⟩, (has_parts (has_all2 he hF h1 h2)).2.1, In1.inI hF h1 hx, In2.inJ hF hl h2 hy, hF.2.1, hF.2.2.1⟩
theorem futS {u v w : World} (h : Below u.heap.size u v) (k : Below v.heap.size v w) : Below u.heap.size u w := h.trans (k.mono h.size)
end Go.Proofs.YtpdnnpnclgcpoaaDoor
