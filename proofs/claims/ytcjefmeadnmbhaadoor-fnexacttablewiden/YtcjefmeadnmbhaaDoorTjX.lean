/- Texts that go together: TjF, TjG, TjH, TjI, TjJ, TjK. -/
import Derived.Test.YtcjefmeadnmbhaaDoorTjW
import Derived.Test.YtcjefmeadnmbhaaDoorMarkD
/- A row of bounds of the call's own, read. -/
namespace Go.Proofs.YtcjefmeadnmbhaaDoor
open Go.RowKit
set_option linter.unusedSimpArgs false
set_option linter.unusedVariables false

theorem hdrT_cons (p : PE) (ps : List PE) (e : ER) (es : List ER) : hdrT (p :: ps) (e :: es) = hdrE p e ++ hdrT ps es := by simp [hdrT]
theorem hdrT_at : ∀ (ps : List PE) (es : List ER) (i : Nat) (h : i < ps.length) (h2 : i < es.length), (hdrT ps es)[i * 3]? = some (.bool es[i].1) ∧ (hdrT ps es)[i * 3 + 1]? = some (.slice ps[i].oa es[i].2.1.length ps[i].ca) ∧ (hdrT ps es)[i * 3 + 2]? = some (.slice ps[i].ob es[i].2.2.length ps[i].cb)
  | [], _, i, h, _ => absurd h (Nat.not_lt_zero i)
  | _ :: _, [], i, _, h => absurd h (Nat.not_lt_zero i)
  | p :: ps, e :: es, 0, _, _ => by rw [hdrT_cons]; simp [hdrE]
  | p :: ps, e :: es, i + 1, h, h2 => by
    have r := hdrT_at ps es i (by simpa using h) (by simpa using h2)
    have el : (hdrE p e).length = 3 := rfl
    rw [hdrT_cons, List.getElem?_append_right (by rw [el]; omega), List.getElem?_append_right (by rw [el]; omega), List.getElem?_append_right (by rw [el]; omega), el, show (i + 1) * 3 - 3 = i * 3 by omega, show (i + 1) * 3 + 1 - 3 = i * 3 + 1 by omega, show (i + 1) * 3 + 2 - 3 = i * 3 + 2 by omega]
    exact r
/-- Where the row stands: its block, and the three cells of each of its bounds. -/
theorem RowT.at {w : World} {B T cc : Nat} {oc : Option Addr} {ps : List PE} {es : List ER} (r : RowT w B T oc cc ps es) (h0 : 0 < es.length) : ∃ g, oc = some ⟨g, 0, none⟩ ∧ B ≤ g ∧ g < T ∧ ∀ i, (h : i < ps.length) → (h2 : i < es.length) → w.cell? ⟨g, i * 3, none⟩ = some (.bool es[i].1) ∧ w.cell? ⟨g, i * 3 + 1, none⟩ = some (.slice ps[i].oa es[i].2.1.length ps[i].ca) ∧ w.cell? ⟨g, i * 3 + 2, none⟩ = some (.slice ps[i].ob es[i].2.2.length ps[i].cb) := by
  obtain ⟨hl, hown, hT, _⟩ := r
  rcases hown.2 with ⟨_, h1⟩ | ⟨g, cap', cur, hv, _⟩
  · omega
  · cases hv
    refine ⟨g, rfl, (hown.lt g rfl).1, hT g rfl, fun i hi h2 => ?_⟩
    have d := hdrT_at ps es i hi h2
    have hadd : ∀ j, (⟨g, 0, none⟩ : Addr).add j = ⟨g, j, none⟩ := fun j => by unfold Addr.add; split <;> simp_all
    have k1 := hown.cells (g := g) rfl (i * 3) _ d.1
    have k2 := hown.cells (g := g) rfl (i * 3 + 1) _ d.2.1
    have k3 := hown.cells (g := g) rfl (i * 3 + 2) _ d.2.2
    rw [hadd] at k1 k2 k3
    exact ⟨k1, k2, k3⟩
theorem RowT.envs {w : World} {B T cc : Nat} {oc : Option Addr} {ps : List PE} {es : List ER} (r : RowT w B T oc cc ps es) (hl : es.length ≤ 1048576) (hs : ∀ i, (h : i < es.length) → es[i].2.1.length ≤ 1048576 ∧ es[i].2.2.length ≤ 1048576) : Envs w oc es := by
  refine ⟨hl, ?_⟩
  by_cases h0 : es.length = 0
  · exact .inl h0
  · obtain ⟨g, rfl, _, _, hc⟩ := r.at (by omega)
    refine .inr ⟨g, 0, rfl, fun i hi => ?_⟩
    have hp : i < ps.length := by rw [r.1]; exact hi
    have q := (r.2.2.2.1 i hp hi).1
    obtain ⟨k1, k2, k3⟩ := hc i hp hi
    rw [Nat.zero_add]
    exact ⟨_, _, _, _, k1, k2, k3, (Ivs.ofOwn q.1.1 (hs i hi).1).2, (Ivs.ofOwn q.1.2.1 (hs i hi).2).2⟩
end Go.Proofs.YtcjefmeadnmbhaaDoor

/- Marks of a table: what stands while they are set. -/
namespace Go.Proofs.YtcjefmeadnmbhaaDoor
open Go.RowKit
set_option linter.unusedSimpArgs false
set_option linter.unusedVariables false

/-- Where one of the bounds of a table stands: two rows, their lengths and capacities, and between which blocks. -/
structure MD where
  oa : Option Addr
  na : Nat
  ca : Nat
  ob : Option Addr
  nb : Nat
  cb : Nat
  lo : Nat
  hi : Nat
def mbT (k : Int) : Bool := k % 3 == 0
/-- How many marks lie ahead of the bounds at i. -/
def kN (ds : List MD) (i : Nat) : Nat := ((ds.take i).map fun d => 1 + 2 * d.na + 2 * d.nb).sum
theorem kN_zero (ds : List MD) : kN ds 0 = 0 := by simp [kN]
theorem kN_succ (ds : List MD) (i : Nat) (h : i < ds.length) : kN ds (i + 1) = kN ds i + (1 + 2 * ds[i].na + 2 * ds[i].nb) := by
  unfold kN
  rw [List.take_succ_eq_append_getElem h, List.map_append, List.sum_append]
  simp only [List.map_cons, List.map_nil, List.sum_cons, List.sum_nil, Nat.add_zero]
/-- The first j bounds are marked, the others may be. -/
def TM (w : World) (g : Nat) (k : Int) (ds : List MD) (j : Nat) : Prop :=
  Wr w g (ds.length * 3) ∧ (∀ i, (h : i < ds.length) → (w.cell? ⟨g, i * 3 + 1, none⟩ = some (.slice ds[i].oa ds[i].na ds[i].ca) ∧ w.cell? ⟨g, i * 3 + 2, none⟩ = some (.slice ds[i].ob ds[i].nb ds[i].cb)) ∧ ((g < ds[i].lo ∨ ds[i].hi ≤ g) ∧ ds[i].hi ≤ w.heap.size ∧ Apart ds[i].oa ds[i].ob ∧ Apart ds[i].ob ds[i].oa) ∧
    (i < j → w.cell? ⟨g, i * 3, none⟩ = some (.bool (mbT (k + kN ds i))) ∧ MkR w ds[i].lo ds[i].hi ds[i].oa (k + kN ds i + 1) ds[i].na ∧ MkR w ds[i].lo ds[i].hi ds[i].ob (k + kN ds i + 1 + 2 * ds[i].na) ds[i].nb) ∧ (j ≤ i → RowW w ds[i].lo ds[i].hi ds[i].oa ds[i].na ∧ RowW w ds[i].lo ds[i].hi ds[i].ob ds[i].nb)) ∧
    ∀ i i', (h : i < ds.length) → (h' : i' < ds.length) → i ≠ i' → ds[i].hi ≤ ds[i'].lo ∨ ds[i'].hi ≤ ds[i].lo
theorem TM.mid {w w' : World} {g j lo hi : Nat} {k : Int} {ds : List MD} (t : TM w g k ds j) (m : Mid lo hi w w') (hg : g < lo ∨ hi ≤ g) (ho : ∀ i, (h : i < ds.length) → ds[i].hi ≤ lo ∨ hi ≤ ds[i].lo) : TM w' g k ds j :=
  ⟨t.1.mid m hg, fun i h => by
    obtain ⟨⟨c1, c2⟩, ⟨q1, q2, q3, q4⟩, p1, p2⟩ := t.2.1 i h
    have o := ho i h
    refine ⟨⟨(m.cell t.1.2.2 hg).trans c1, (m.cell t.1.2.2 hg).trans c2⟩, ⟨q1, Nat.le_trans q2 m.size, q3, q4⟩, fun hj => ?_, fun hj => ?_⟩
    · obtain ⟨r1, r2, r3⟩ := p1 hj
      exact ⟨(m.cell t.1.2.2 hg).trans r1, r2.mid m o, r3.mid m o⟩
    · obtain ⟨r1, r2⟩ := p2 hj
      exact ⟨r1.mid m o, r2.mid m o⟩, t.2.2⟩
theorem TM.call {w w' : World} {g j : Nat} {k : Int} {ds : List MD} (t : TM w g k ds j) (hb : Below w.heap.size w w') : TM w' g k ds j :=
  t.mid (Mid.of (lo := 0) (hi := 0) hb) (.inr (Nat.zero_le _)) (fun i h => .inr (Nat.zero_le _))
theorem RowW.set {w : World} {lo hi n g o : Nat} {a : Option Addr} (r : RowW w lo hi a n) (x : Value) (hg : g < lo ∨ hi ≤ g) : RowW (w.setCell ⟨g, o, none⟩ x) lo hi a n :=
  r.mid ((Mid.refl g (g + 1) w).set (Nat.le_refl _) (Nat.lt_succ_self _) x) (by omega)
/-- One more is marked: its flag first, then its rows. -/
theorem TM.step {w u : World} {g j : Nat} {k : Int} {ds : List MD} (t : TM w g k ds j) (hj : j < ds.length) (m : Mid ds[j].lo ds[j].hi (w.setCell ⟨g, j * 3, none⟩ (.bool (mbT (k + kN ds j)))) u)
    (h1 : MkR u ds[j].lo ds[j].hi ds[j].oa (k + kN ds j + 1) ds[j].na) (h2 : MkR u ds[j].lo ds[j].hi ds[j].ob (k + kN ds j + 1 + 2 * ds[j].na) ds[j].nb) : TM u g k ds (j + 1) := by
  have m0 : Mid g (g + 1) w (w.setCell ⟨g, j * 3, none⟩ (.bool (mbT (k + kN ds j)))) := (Mid.refl g (g + 1) w).set (Nat.le_refl _) (Nat.lt_succ_self _) _
  have hw0 := t.1.set (.bool (mbT (k + kN ds j))) (show j * 3 < ds.length * 3 by omega)
  have gj := (t.2.1 j hj).2.1.1
  refine ⟨hw0.mid m gj, fun i h => ?_, t.2.2⟩
  obtain ⟨⟨c1, c2⟩, ⟨q1, q2, q3, q4⟩, p1, p2⟩ := t.2.1 i h
  have oth : ∀ o, o ≠ j * 3 → u.cell? ⟨g, o, none⟩ = w.cell? ⟨g, o, none⟩ := fun o ho => (m.cell hw0.2.2 gj).trans (World.cell?_setCell_other _ _ _ _ (by intro q; have := congrArg Addr.off q; simp at this; omega))
  refine ⟨⟨(oth _ (by omega)).trans c1, (oth _ (by omega)).trans c2⟩, ⟨q1, Nat.le_trans q2 (Nat.le_trans m0.size m.size), q3, q4⟩, fun hi => ?_, fun hi => ?_⟩
  · by_cases e : i = j
    · subst e
      obtain ⟨v, hv⟩ := t.1.1 (i * 3) (by omega)
      exact ⟨(m.cell hw0.2.2 gj).trans (World.cell?_setCell_same _ _ _ hv), h1, h2⟩
    · obtain ⟨r1, r2, r3⟩ := p1 (by omega)
      have d := t.2.2 i j h hj e
      exact ⟨(oth _ (by omega)).trans r1, (r2.mid m0 (by omega)).mid m (by omega), (r3.mid m0 (by omega)).mid m (by omega)⟩
  · obtain ⟨r1, r2⟩ := p2 (by omega)
    have d := t.2.2 i j h hj (by omega)
    exact ⟨(r1.mid m0 (by omega)).mid m (by omega), (r2.mid m0 (by omega)).mid m (by omega)⟩
end Go.Proofs.YtcjefmeadnmbhaaDoor

/- Marks of a table: set. -/
namespace Go.Proofs.YtcjefmeadnmbhaaDoor
open Go.RowKit
set_option linter.unusedSimpArgs false
set_option linter.unusedVariables false

theorem kN_mono (ds : List MD) : ∀ n i, i ≤ n → n ≤ ds.length → kN ds i ≤ kN ds n
  | 0, i, h, _ => by have : i = 0 := by omega
                     subst this
                     exact Nat.le_refl _
  | n + 1, i, h, hn => by
    by_cases e : i = n + 1
    · subst e; exact Nat.le_refl _
    · have := kN_mono ds n i (by omega) (by omega)
      rw [kN_succ ds n (by omega)]
      omega
theorem markT0_c (a : Option Addr) (c : Nat) (k : Int) (w : World) : Calls Tryd.prog 23 #[.slice a 0 c, .int .i64 k] w fun e w' => e = .returned (.int .i64 k) ∧ w' = w := by
  go_enter Tryd.func23, Tryd.ntmps23
  go_wp2
  go_loopw [1, 5] (fun kk i wr => kk = .int .i64 k ∧ i = .int .i64 0 ∧ wr = w) (fun _ i _ => 0)
  case atStart => exact ⟨rfl, rfl, rfl⟩
  case round =>
    obtain ⟨rfl, rfl, rfl⟩ := hrel
    go_wp2
    go_ret
    exact ⟨rfl, rfl⟩
set_option maxRecDepth 20000 in
set_option maxHeartbeats 4000000 in
theorem markT_c (g c L H : Nat) (ds : List MD) (k : Int) (hk : 0 ≤ k ∧ k ≤ 274877906944) (hn : ds.length ≤ 1048576) (hs : kN ds ds.length ≤ 274877906944) (hna : ∀ i, (h : i < ds.length) → ds[i].na ≤ 1048576 ∧ ds[i].nb ≤ 1048576) (w : World) (h : TM w g k ds 0) (hL : L ≤ g ∧ g < H) (hin : ∀ i, (h : i < ds.length) → L ≤ ds[i].lo ∧ ds[i].hi ≤ H) :
    Calls Tryd.prog 23 #[.slice (some ⟨g, 0, none⟩) ds.length c, .int .i64 k] w fun e w' => e = .returned (.int .i64 (k + kN ds ds.length)) ∧ TM w' g k ds ds.length ∧ Mid L H w w' := by
  have H0 := hide h
  have HNA := hide hna
  have HIN := hide hin
  have HSM := hide (fun j (hj : j ≤ ds.length) => kN_mono ds ds.length j hj (Nat.le_refl _))
  have hn' : (ds.length : Int) ≤ 1048576 := by omega
  clear h hna hin
  go_enter Tryd.func23, Tryd.ntmps23
  go_wp2
  go_loopw [1, 5] (fun kk i wr => ∃ j : Nat, j ≤ ds.length ∧ kk = .int .i64 (k + kN ds j) ∧ i = .int .i64 j ∧ TM wr g k ds j ∧ Mid L H w wr) (fun _ i _ => ds.length - (intOf i).toNat)
  case atStart => exact ⟨0, Nat.zero_le _, by rw [kN_zero]; simp, rfl, unhide H0, Mid.refl _ _ _⟩
  case round =>
    obtain ⟨j, hj, rfl, rfl, ht, hm⟩ := hrel
    have HT := hide ht
    have HM := hide hm
    clear hm
    by_cases hlt : j < ds.length
    · obtain ⟨⟨c1, c2⟩, ⟨q1, q2, q3, q4⟩, _, p2⟩ := ht.2.1 j hlt
      obtain ⟨r1, r2⟩ := p2 (Nat.le_refl _)
      obtain ⟨v0, h0⟩ := ht.1.1 (j * 3) (by omega)
      have f0 := ht.1.2.1 (j * 3)
      have gz := ht.1.2.2
      have HS := hide (fun u => ht.step (u := u) hlt)
      have HKS := hide (kN_succ ds j hlt)
      have nab := (unhide HNA) j hlt
      have lin := (unhide HIN) j hlt
      have sm := (unhide HSM) j hj
      clear ht p2
      generalize hd : ds[j] = d at c1 c2 q1 q2 q3 q4 r1 r2 HS HKS nab lin
      clear hd
      obtain ⟨oa, na, ca, ob, nb, cb, lo, hi⟩ := d
      dsimp only at c1 c2 q1 q2 q3 q4 r1 r2 HS HKS nab lin
      have HKS2 := hide (show k + ((kN ds (j + 1) : Nat) : Int) = k + (kN ds j : Nat) + 1 + 2 * na + 2 * nb by rw [unhide HKS]; omega)
      obtain ⟨K, hK⟩ : ∃ K : Int, K = k + ((kN ds j : Nat) : Int) := ⟨_, rfl⟩
      rw [← hK] at HS HKS2 ⊢
      have hK0 : 0 ≤ K ∧ K ≤ 549755813888 := by omega
      have hlt' : (j : Int) < (ds.length : Int) := by omega
      have e1 : wrap64 (K + 1) = K + 1 := by unfold wrap64; omega
      have e2 : wrap64 (Int.tmod K 3) = Int.tmod K 3 := by have h1 := Int.tmod_nonneg 3 hK0.1; have h2 := Int.tmod_lt_of_pos K (show (0 : Int) < 3 by decide); unfold wrap64; omega
      have e3 : Int.tmod K 3 = K % 3 := Int.tmod_eq_emod_of_nonneg hK0.1
      have em : (K % 3 == 0) = mbT K := rfl
      have m0 : Mid g (g + 1) wr (wr.setCell ⟨g, j * 3, none⟩ (.bool (mbT K))) := (Mid.refl g (g + 1) wr).set (Nat.le_refl _) (Nat.lt_succ_self _) _
      have HC := hide (show (wr.setCell ⟨g, j * 3, none⟩ (.bool (mbT K))).cell? ⟨g, j * 3 + 1, none⟩ = some (.slice oa na ca) ∧ (wr.setCell ⟨g, j * 3, none⟩ (.bool (mbT K))).cell? ⟨g, j * 3 + 2, none⟩ = some (.slice ob nb cb) ∧ g < (wr.setCell ⟨g, j * 3, none⟩ (.bool (mbT K))).heap.size ∧ RowW (wr.setCell ⟨g, j * 3, none⟩ (.bool (mbT K))) lo hi oa na ∧ RowW (wr.setCell ⟨g, j * 3, none⟩ (.bool (mbT K))) lo hi ob nb ∧ Mid L H w (wr.setCell ⟨g, j * 3, none⟩ (.bool (mbT K))) from
        ⟨(World.cell?_setCell_other _ _ _ _ (by simp)).trans c1, (World.cell?_setCell_other _ _ _ _ (by simp)).trans c2, Nat.lt_of_lt_of_le gz m0.size, r1.set _ q1, r2.set _ q1, (unhide HM).set hL.1 hL.2 _⟩)
      have HQ := hide (And.intro q1 (And.intro q3 q4))
      clear q1 q2 q3 q4 r1 r2 c1 c2 m0 gz hK
      go_upto_region 6 with fail
      generalize wr.setCell ⟨g, j * 3, none⟩ (.bool (mbT K)) = u0 at HS HC ⊢
      have c1 := (unhide HC).1
      go_wp2_with fail
      refine (markIvR_c oa na ca lo hi (K + 1) (by omega) nab.1 _ (unhide HC).2.2.2.1).mono ?_
      rintro e u1 ⟨rfl, m1, m2, m3, m4⟩
      have HR2 := hide (m3 ob nb (unhide HC).2.2.2.2.1 (unhide HQ).2.1)
      have HM1 := hide m1
      have HU := hide m2
      have c2 := (m2.cell (unhide HC).2.2.1 (unhide HQ).1).trans (unhide HC).2.1
      clear m1 m2 m3 m4 c1
      go_wp2_with fail
      refine (markIvR_c ob nb cb lo hi (K + 1 + 2 * na) (by omega) nab.2 _ (unhide HR2)).mono ?_
      rintro e u2 ⟨rfl, m1, m2, m3, m4⟩
      have HT2 := hide ((unhide HS) u2 ((unhide HU).trans m2) (m4 oa (K + 1) na (unhide HM1) (unhide HQ).2.2) m1)
      have HMM := hide ((unhide HC).2.2.2.2.2.trans (((unhide HU).trans m2).mono lin.1 lin.2))
      clear m1 m2 m3 m4 c2
      go_wp2
      go_roundw
      case rel => exact ⟨j + 1, by omega, by rw [unhide HKS2], by go_num, unhide HT2, unhide HMM⟩
      case measure => simp [intOf]; omega
    · obtain rfl : j = ds.length := by omega
      clear ht
      go_wp2
      go_ret
      exact ⟨rfl, unhide HT, unhide HM⟩
end Go.Proofs.YtcjefmeadnmbhaaDoor

/- Marks of a table: they are held; and a row of bounds of the call's own may be marked. -/
namespace Go.Proofs.YtcjefmeadnmbhaaDoor
open Go.RowKit
set_option linter.unusedSimpArgs false
set_option linter.unusedVariables false

theorem heldT0_c (a : Option Addr) (c : Nat) (k : Int) (w : World) : Calls Tryd.prog 24 #[.slice a 0 c, .int .i64 k] w fun e w' => e = .returned (.int .i64 k) ∧ w' = w := by
  go_enter Tryd.func24, Tryd.ntmps24
  go_wp2
  go_loopw [1, 5] (fun kk i wr => kk = .int .i64 k ∧ i = .int .i64 0 ∧ wr = w) (fun _ i _ => 0)
  case atStart => exact ⟨rfl, rfl, rfl⟩
  case round =>
    obtain ⟨rfl, rfl, rfl⟩ := hrel
    go_wp2
    go_ret
    exact ⟨rfl, rfl⟩
set_option maxRecDepth 20000 in
set_option maxHeartbeats 4000000 in
theorem heldT_c (g c : Nat) (ds : List MD) (k : Int) (hk : 0 ≤ k ∧ k ≤ 274877906944) (hn : ds.length ≤ 1048576) (hs : kN ds ds.length ≤ 274877906944) (hna : ∀ i, (h : i < ds.length) → ds[i].na ≤ 1048576 ∧ ds[i].nb ≤ 1048576) (w : World) (h : TM w g k ds ds.length) :
    Calls Tryd.prog 24 #[.slice (some ⟨g, 0, none⟩) ds.length c, .int .i64 k] w fun e w' => e = .returned (.int .i64 (k + kN ds ds.length)) ∧ w' = w := by
  have H0 := hide h
  have HNA := hide hna
  have HSM := hide (fun j (hj : j ≤ ds.length) => kN_mono ds ds.length j hj (Nat.le_refl _))
  have hn' : (ds.length : Int) ≤ 1048576 := by omega
  clear h hna
  go_enter Tryd.func24, Tryd.ntmps24
  go_wp2
  go_loopw [1, 5] (fun kk i wr => ∃ j : Nat, j ≤ ds.length ∧ kk = .int .i64 (k + kN ds j) ∧ i = .int .i64 j ∧ wr = w) (fun _ i _ => ds.length - (intOf i).toNat)
  case atStart => exact ⟨0, Nat.zero_le _, by rw [kN_zero]; simp, rfl, rfl⟩
  case round =>
    obtain ⟨j, hj, rfl, rfl, hwr⟩ := hrel
    subst hwr
    by_cases hlt : j < ds.length
    · obtain ⟨⟨c1, c2⟩, _, p1, _⟩ := (unhide H0).2.1 j hlt
      obtain ⟨c0, r1, r2⟩ := p1 hlt
      have HKS := hide (kN_succ ds j hlt)
      have nab := (unhide HNA) j hlt
      have sm := (unhide HSM) j hj
      clear p1
      generalize hd : ds[j] = d at c1 c2 r1 r2 HKS nab
      clear hd
      obtain ⟨oa, na, ca, ob, nb, cb, lo, hi⟩ := d
      dsimp only at c1 c2 r1 r2 HKS nab
      have HKS2 := hide (show k + ((kN ds (j + 1) : Nat) : Int) = k + (kN ds j : Nat) + 1 + 2 * na + 2 * nb by rw [unhide HKS]; omega)
      obtain ⟨K, hK⟩ : ∃ K : Int, K = k + ((kN ds j : Nat) : Int) := ⟨_, rfl⟩
      rw [← hK] at HKS2 c0 r1 r2 ⊢
      have hK0 : 0 ≤ K ∧ K ≤ 549755813888 := by omega
      have hlt' : (j : Int) < (ds.length : Int) := by omega
      have e1 : wrap64 (K + 1) = K + 1 := by unfold wrap64; omega
      have e2 : wrap64 (Int.tmod K 3) = Int.tmod K 3 := by have h1 := Int.tmod_nonneg 3 hK0.1; have h2 := Int.tmod_lt_of_pos K (show (0 : Int) < 3 by decide); unfold wrap64; omega
      have e3 : Int.tmod K 3 = K % 3 := Int.tmod_eq_emod_of_nonneg hK0.1
      have em : (K % 3 == 0) = mbT K := rfl
      have q1 : ¬ K + 1 + 2 * ↑na < 0 := by omega
      have q2 : ¬ K + 1 + 2 * ↑na + 2 * ↑nb < 0 := by omega
      have HR := hide (And.intro r1 r2)
      clear hK r1 r2
      go_wp2_with fail
      refine (heldIvR_c oa na ca lo hi (K + 1) (by omega) nab.1 _ (unhide HR).1).mono ?_
      rintro e u1 ⟨rfl, rfl⟩
      go_wp2_with fail
      refine (heldIvR_c ob nb cb lo hi (K + 1 + 2 * na) (by omega) nab.2 _ (unhide HR).2).mono ?_
      rintro e u2 ⟨rfl, rfl⟩
      go_wp2
      go_roundw
      case rel => exact ⟨j + 1, by omega, by rw [unhide HKS2], by go_num, by first | trivial | rfl⟩
      case measure => simp [intOf]; omega
    · obtain rfl : j = ds.length := by omega
      go_wp2
      go_ret
      exact ⟨rfl, rfl⟩
end Go.Proofs.YtcjefmeadnmbhaaDoor

/- A row of bounds of the call's own may be marked. -/
namespace Go.Proofs.YtcjefmeadnmbhaaDoor
open Go.RowKit
set_option linter.unusedSimpArgs false
set_option linter.unusedVariables false

def mdE (p : PE) (e : ER) : MD := ⟨p.oa, e.2.1.length, p.ca, p.ob, e.2.2.length, p.cb, p.lo, p.hi⟩
def mdT (ps : List PE) (es : List ER) : List MD := List.zipWith mdE ps es
theorem mdT_len {ps : List PE} {es : List ER} (h : ps.length = es.length) : (mdT ps es).length = es.length := by unfold mdT; rw [List.length_zipWith, h]; exact Nat.min_self _
theorem mdT_at {ps : List PE} {es : List ER} (i : Nat) (h : i < (mdT ps es).length) (h1 : i < ps.length) (h2 : i < es.length) : (mdT ps es)[i] = mdE ps[i] es[i] := List.getElem_zipWith (f := mdE) (h := h)
theorem own_wrE {w : World} {B n cap g : Nat} {e : TypeId} {size : Nat} {xs : List Value} (h : w.ownsRow B e size (.slice (some ⟨g, 0, none⟩) n cap) n xs) : ∀ o, w.frozen? ⟨g, o, none⟩ = false := by
  rcases h.2 with ⟨h0, _⟩ | ⟨g', cap', cur, hv, hB, hg, r⟩
  · cases h0
  · cases hv
    intro o
    simp [World.frozen?, hg]
theorem apart_symm {a b : Option Addr} (h : Apart a b) : Apart b a := fun x y hx hy e => h y x hy hx e.symm
/-- It may be marked. -/
theorem RowT.tm {w : World} {B T cc g : Nat} {ps : List PE} {es : List ER} {k : Int} (r : RowT w B T (some ⟨g, 0, none⟩) cc ps es) (h0 : 0 < es.length) : TM w g k (mdT ps es) 0 ∧ (B ≤ g ∧ g < T) ∧ ∀ i, (h : i < (mdT ps es).length) → B ≤ (mdT ps es)[i].lo ∧ (mdT ps es)[i].hi ≤ T := by
  have el := mdT_len r.1
  obtain ⟨g', eg, hB, hT, hc⟩ := r.at h0
  cases eg
  have fz := own_wrE r.2.1
  have gz : g < w.heap.size := Nat.lt_of_lt_of_le hT r.2.2.2.2.2
  refine ⟨⟨⟨fun o ho => ?_, fz, gz⟩, fun i h => ?_, fun i i' h h' ne => ?_⟩, ⟨hB, hT⟩, fun i h => ?_⟩
  · rw [el] at ho
    obtain ⟨q, h2, hq⟩ : ∃ q, q < es.length ∧ (o = q * 3 ∨ o = q * 3 + 1 ∨ o = q * 3 + 2) := ⟨o / 3, by omega, by omega⟩
    have h1 : q < ps.length := by rw [r.1]; exact h2
    obtain ⟨k1, k2, k3⟩ := hc q h1 h2
    rcases hq with rfl | rfl | rfl
    · exact ⟨_, k1⟩
    · exact ⟨_, k2⟩
    · exact ⟨_, k3⟩
  · have h2 : i < es.length := by rw [← el]; exact h
    have h1 : i < ps.length := by rw [r.1]; exact h2
    obtain ⟨k1, k2, k3⟩ := hc i h1 h2
    obtain ⟨q, q1, q2, q3⟩ := r.2.2.2.1 i h1 h2
    rw [mdT_at i h h1 h2]
    refine ⟨⟨k2, k3⟩, ⟨q3 g rfl, q.2.2.2, q.1.2.2, apart_symm q.1.2.2⟩, fun hh => absurd hh (Nat.not_lt_zero i), fun _ => ⟨own_roww q.1.1 q.2.1, own_roww q.1.2.1 q.2.2.1⟩⟩
  · have h2 : i < es.length := by rw [← el]; exact h
    have h1 : i < ps.length := by rw [r.1]; exact h2
    have h2' : i' < es.length := by rw [← el]; exact h'
    have h1' : i' < ps.length := by rw [r.1]; exact h2'
    rw [mdT_at i h h1 h2, mdT_at i' h' h1' h2']
    have pw := List.pairwise_iff_getElem.mp r.2.2.2.2.1
    rcases Nat.lt_or_gt_of_ne ne with l | l
    · exact .inl (pw i i' h1 h1' l)
    · exact .inr (pw i' i h1' h1 l)
  · have h2 : i < es.length := by rw [← el]; exact h
    have h1 : i < ps.length := by rw [r.1]; exact h2
    rw [mdT_at i h h1 h2]
    exact ⟨(r.2.2.2.1 i h1 h2).2.1, (r.2.2.2.1 i h1 h2).2.2.1⟩
end Go.Proofs.YtcjefmeadnmbhaaDoor

/- Copies of a table: how their rows lie, and that they may be marked. -/
namespace Go.Proofs.YtcjefmeadnmbhaaDoor
open Go.RowKit
set_option linter.unusedSimpArgs false
set_option linter.unusedVariables false

/-- The rows of the first k bounds of a copy: in blocks behind the copy's own, one behind the other. -/
def SepE (g k : Nat) (u : World) : Prop := ∃ qs : List (Nat × Nat), qs.length = k ∧ (∀ i, (h : i < qs.length) → ∃ l1 c1 l2 c2, u.cell? ⟨g, i * 3 + 1, none⟩ = some (.slice (some ⟨qs[i].1, 0, none⟩) l1 c1) ∧ u.cell? ⟨g, i * 3 + 2, none⟩ = some (.slice (some ⟨qs[i].2, 0, none⟩) l2 c2) ∧ g < qs[i].1 ∧ qs[i].1 < qs[i].2 ∧ qs[i].2 < u.heap.size) ∧ qs.Pairwise fun p q => p.2 < q.1
theorem SepE.zero (g : Nat) (u : World) : SepE g 0 u := ⟨[], rfl, fun i h => absurd h (Nat.not_lt_zero i), List.Pairwise.nil⟩
theorem SepE.call {g k : Nat} {u v : World} (h : SepE g k u) (hb : Below u.heap.size u v) (hg : g < u.heap.size) : SepE g k v := by
  obtain ⟨qs, h1, h2, h3⟩ := h
  refine ⟨qs, h1, fun i hi => ?_, h3⟩
  obtain ⟨l1, c1, l2, c2, d1, d2, d3, d4, d5⟩ := h2 i hi
  exact ⟨l1, c1, l2, c2, (hb.cell (by exact hg)).trans d1, (hb.cell (by exact hg)).trans d2, d3, d4, Nat.lt_of_lt_of_le d5 hb.size⟩
theorem SepE.step {g k b1 b2 : Nat} {u v : World} {x1 x2 x3 : Value} (h : SepE g k u) (hg : g < u.heap.size) (hb : Below u.heap.size u v) (hgv : g < v.heap.size) (hc : v.cell? ⟨g, k * 3, none⟩ = some x1 ∧ v.cell? ⟨g, k * 3 + 1, none⟩ = some x2 ∧ v.cell? ⟨g, k * 3 + 2, none⟩ = some x3) (l1 : u.heap.size ≤ b1) (l2 : b1 < b2) (l3 : b2 < v.heap.size) (y : Value) (m1 e1 m2 e2 : Nat) :
    SepE g (k + 1) (((v.setCell ⟨g, k * 3, none⟩ y).setCell ⟨g, k * 3 + 1, none⟩ (.slice (some ⟨b1, 0, none⟩) m1 e1)).setCell ⟨g, k * 3 + 2, none⟩ (.slice (some ⟨b2, 0, none⟩) m2 e2)) := by
  obtain ⟨qs, h1, h2, h3⟩ := h
  generalize hv1 : (.slice (some ⟨b1, 0, none⟩) m1 e1 : Value) = v1
  generalize hv2 : (.slice (some ⟨b2, 0, none⟩) m2 e2 : Value) = v2
  have o : ∀ j, j ≠ k * 3 → j ≠ k * 3 + 1 → j ≠ k * 3 + 2 → (((v.setCell ⟨g, k * 3, none⟩ y).setCell ⟨g, k * 3 + 1, none⟩ v1).setCell ⟨g, k * 3 + 2, none⟩ v2).cell? ⟨g, j, none⟩ = v.cell? ⟨g, j, none⟩ := fun j j1 j2 j3 => by
    rw [World.cell?_setCell_other _ _ _ _ (fun hh => j3 (congrArg Addr.off hh).symm), World.cell?_setCell_other _ _ _ _ (fun hh => j2 (congrArg Addr.off hh).symm), World.cell?_setCell_other _ _ _ _ (fun hh => j1 (congrArg Addr.off hh).symm)]
  have sz : (((v.setCell ⟨g, k * 3, none⟩ y).setCell ⟨g, k * 3 + 1, none⟩ v1).setCell ⟨g, k * 3 + 2, none⟩ v2).heap.size = v.heap.size := by simp [World.setCell]
  refine ⟨qs ++ [(b1, b2)], by simp [h1], fun i hi => ?_, ?_⟩
  · rw [sz]
    by_cases e : i < qs.length
    · obtain ⟨a1, c1, a2, c2, d1, d2, d3, d4, d5⟩ := h2 i e
      rw [List.getElem_append_left e]
      refine ⟨a1, c1, a2, c2, ?_, ?_, d3, d4, Nat.lt_of_lt_of_le d5 hb.size⟩
      · rw [o _ (by omega) (by omega) (by omega)]; exact (hb.cell (by exact hg)).trans d1
      · rw [o _ (by omega) (by omega) (by omega)]; exact (hb.cell (by exact hg)).trans d2
    · have ei : i = qs.length := by simp at hi; omega
      subst ei
      rw [List.getElem_append_right (Nat.le_refl _)]
      simp only [Nat.sub_self, List.getElem_cons_zero, h1]
      refine ⟨m1, e1, m2, e2, ?_, ?_, by omega, l2, l3⟩
      · rw [World.cell?_setCell_other _ _ _ _ (fun hh => by have hh' : k * 3 + 2 = k * 3 + 1 := congrArg Addr.off hh; omega), ← hv1]
        refine World.cell?_setCell_same _ _ _ (?_ : _ = some x2)
        rw [World.cell?_setCell_other _ _ _ _ (fun hh => by have hh' : k * 3 = k * 3 + 1 := congrArg Addr.off hh; omega)]
        exact hc.2.1
      · rw [← hv2]
        refine World.cell?_setCell_same _ _ _ (?_ : _ = some x3)
        rw [World.cell?_setCell_other _ _ _ _ (fun hh => by have hh' : k * 3 + 1 = k * 3 + 2 := congrArg Addr.off hh; omega), World.cell?_setCell_other _ _ _ _ (fun hh => by have hh' : k * 3 = k * 3 + 2 := congrArg Addr.off hh; omega)]
        exact hc.2.2
  · rw [List.pairwise_append]
    refine ⟨h3, List.pairwise_singleton _ _, fun a ha b hb' => ?_⟩
    simp at hb'
    subst hb'
    obtain ⟨i, hi, rfl⟩ := List.getElem_of_mem ha
    obtain ⟨_, _, _, _, _, _, _, _, d5⟩ := h2 i hi
    show qs[i].2 < b1
    omega
set_option maxHeartbeats 1000000 in
theorem toEnvSP_c (a : Option Addr) (cap : Nat) (es : List ER) (w : World) (h : Envs w a es) : Calls Tryd.prog 19 #[.slice a es.length cap] w fun e w' => e = .returned (.slice (some ⟨w.heap.size, 0, none⟩) es.length es.length) ∧ OwnE w' w.heap.size es ∧ SepE w.heap.size es.length w' ∧ Below w.heap.size w w' := by
  have hl := h.1
  obtain ⟨L, hL⟩ : ∃ L, L = es.length := ⟨_, rfl⟩
  rw [← hL] at hl ⊢
  have HL := hide hL
  have HH := hide h
  obtain ⟨w1, hmk, hf⟩ := makeE_c L hl es hL.symm w
  have HF := hide hf
  have hl' : (L : Int) ≤ 1048576 := by omega
  clear h hL hf
  go_enter Tryd.func19, Tryd.ntmps19
  go_wp2
  go_loopw [4] (fun i wr => ∃ k : Nat, k ≤ L ∧ i = .int .i64 k ∧ FillE w w.heap.size es k wr ∧ SepE w.heap.size k wr) (fun i _ => L - (intOf i).toNat)
  case atStart => exact ⟨0, Nat.zero_le _, rfl, unhide HF, SepE.zero _ _⟩
  case round =>
    clear HF hmk
    obtain ⟨k, hk, rfl, hf, hsp⟩ := hrel
    have HSP := hide hsp
    clear hsp
    by_cases hlt : k < L
    · have hk' : k < es.length := by rw [← unhide HL]; exact hlt
      rcases ((unhide HH).call hf.2.2.2.2.2).2 with h0 | ⟨cb, co, rfl, hc⟩
      · omega
      obtain ⟨xa, xc, ya, yc, d1, d2, d3, i1, i2⟩ := hc k hk'
      have I1 := hide i1
      have I2 := hide i2
      have HQ := hide hf
      clear hc hf i1 i2
      go_wp2_with fail
      refine (toEnv_c es[k].1 xa ya xc yc es[k].2.1 es[k].2.2 _ (unhide I1) (unhide I2)).mono ?_
      rintro e w2 ⟨b1, b2, rfl, o1, o2, ⟨l1, l2⟩, hb⟩
      have hf := (unhide HQ).call hb
      have HS := hide (hf.step hk' (Nat.lt_of_lt_of_le (unhide HQ).2.2.2.1 l1) (Nat.lt_trans (Nat.lt_of_lt_of_le (unhide HQ).2.2.2.1 l1) l2) o1 o2)
      have HS2 := hide ((unhide HSP).step (unhide HQ).2.2.2.1 hb hf.2.2.2.1 (hf.2.1 k hk' (Nat.le_refl _)) l1 l2 o2.2.2 (.bool es[k].1) es[k].2.1.length es[k].2.1.length es[k].2.2.length es[k].2.2.length)
      have c1 := (hf.2.1 k hk' (Nat.le_refl _)).1
      have c2 := (hf.2.1 k hk' (Nat.le_refl _)).2.1
      have c3 := (hf.2.1 k hk' (Nat.le_refl _)).2.2
      have f1 := hf.2.2.1 (k * 3)
      have f2 := hf.2.2.1 (k * 3 + 1)
      have f3 := hf.2.2.1 (k * 3 + 2)
      clear hf hb o1 o2 l1 l2 HQ d1 d2 d3
      go_wp2
      go_roundw
      case rel => exact ⟨k + 1, by omega, by go_num, unhide HS, unhide HS2⟩
      case measure => simp [intOf]; omega
    · obtain rfl : k = L := by omega
      have HF := hide hf
      clear hf
      go_wp2
      go_ret
      exact ⟨rfl, ⟨by rw [← unhide HL]; exact hl, fun i hi => (unhide HF).1 i hi (by rw [unhide HL]; exact hi), (unhide HF).2.2.1, (unhide HF).2.2.2.1⟩, unhide HSP, (unhide HF).2.2.2.2.2⟩
/-- A copy may be marked. -/
theorem copy_tm {w : World} {g : Nat} {es : List ER} (k : Int) (h : OwnE w g es) (hs : SepE g es.length w) : ∃ ds : List MD, ds.length = es.length ∧ TM w g k ds 0 ∧ (∀ i, (h : i < ds.length) → (h2 : i < es.length) → ds[i].na = es[i].2.1.length ∧ ds[i].nb = es[i].2.2.length) ∧ ∀ i, (h : i < ds.length) → g ≤ ds[i].lo ∧ ds[i].hi ≤ w.heap.size := by
  obtain ⟨qs, h1, h2, h3⟩ := hs
  let f : (Nat × Nat) → ER → MD := fun q e => ⟨some ⟨q.1, 0, none⟩, e.2.1.length, e.2.1.length, some ⟨q.2, 0, none⟩, e.2.2.length, e.2.2.length, q.1, q.2 + 1⟩
  have el : (List.zipWith f qs es).length = es.length := by rw [List.length_zipWith, h1]; exact Nat.min_self _
  have at' : ∀ i, (hi : i < (List.zipWith f qs es).length) → (a : i < qs.length) → (b : i < es.length) → (List.zipWith f qs es)[i] = f qs[i] es[i] := fun i hi a b => List.getElem_zipWith (h := hi)
  refine ⟨List.zipWith f qs es, el, ⟨⟨fun o ho => ?_, h.2.2.1, h.2.2.2⟩, fun i hi => ?_, fun i i' hi hi' ne => ?_⟩, fun i hi b => ?_, fun i hi => ?_⟩
  · rw [el] at ho
    obtain ⟨q, hq2, hq⟩ : ∃ q, q < es.length ∧ (o = q * 3 ∨ o = q * 3 + 1 ∨ o = q * 3 + 2) := ⟨o / 3, by omega, by omega⟩
    obtain ⟨g1, g2, _, _, c1, c2, c3, _, _⟩ := h.2.1 q hq2
    rcases hq with rfl | rfl | rfl
    · exact ⟨_, c1⟩
    · exact ⟨_, c2⟩
    · exact ⟨_, c3⟩
  · have b : i < es.length := by rw [← el]; exact hi
    have a : i < qs.length := by rw [h1]; exact b
    rw [at' i hi a b]
    obtain ⟨g1, g2, _, _, c1, c2, c3, o1, o2⟩ := h.2.1 i b
    obtain ⟨_, _, _, _, d1, d2, d3, d4, d5⟩ := h2 i a
    rw [c2] at d1
    rw [c3] at d2
    have e1 : g1 = qs[i].1 := by simp at d1; exact d1.1
    have e2 : g2 = qs[i].2 := by simp at d2; exact d2.1
    rw [e1] at c2 o1
    rw [e2] at c3 o2
    exact ⟨⟨c2, c3⟩, ⟨.inl d3, d5, fun x y hx hy => by cases hx; cases hy; show qs[i].1 ≠ qs[i].2; omega, fun x y hx hy => by cases hx; cases hy; show qs[i].2 ≠ qs[i].1; omega⟩, fun hh => absurd hh (Nat.not_lt_zero i), fun _ => ⟨o1.roww (Nat.le_refl _) (Nat.lt_succ_of_lt d4), o2.roww (Nat.le_of_lt d4) (Nat.lt_succ_self _)⟩⟩
  · have b : i < es.length := by rw [← el]; exact hi
    have a : i < qs.length := by rw [h1]; exact b
    have b' : i' < es.length := by rw [← el]; exact hi'
    have a' : i' < qs.length := by rw [h1]; exact b'
    rw [at' i hi a b, at' i' hi' a' b']
    have pw := List.pairwise_iff_getElem.mp h3
    rcases Nat.lt_or_gt_of_ne ne with l | l
    · exact .inl (pw i i' a a' l)
    · exact .inr (pw i' i a' a l)
  · have a : i < qs.length := by rw [h1]; exact b
    rw [at' i hi a b]
    exact ⟨rfl, rfl⟩
  · have b : i < es.length := by rw [← el]; exact hi
    have a : i < qs.length := by rw [h1]; exact b
    rw [at' i hi a b]
    obtain ⟨_, _, _, _, d1, d2, d3, d4, d5⟩ := h2 i a
    exact ⟨Nat.le_of_lt d3, d5⟩
end Go.Proofs.YtcjefmeadnmbhaaDoor

