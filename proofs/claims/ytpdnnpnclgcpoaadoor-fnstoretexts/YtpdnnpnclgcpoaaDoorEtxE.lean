/- The text of bounds: the program's closure, which gathers the words. -/
import Derived.Test.YtpdnnpnclgcpoaaDoorNaZ
import Derived.Test.YtpdnnpnclgcpoaaDoorEtZ
namespace Go.Proofs.YtpdnnpnclgcpoaaDoor
open Go.RowKit
set_option linter.unusedSimpArgs false
set_option linter.unusedVariables false

/-- The table is there, whatever is made above. -/
def PT (B : Nat) (w : World) : Prop := ∀ v, Below B w v → P10 v
theorem PT.on {B : Nat} {w v : World} (h : PT B w) (hb : Below B w v) : PT B v := fun u hu => h u (hb.trans hu)
theorem PT.of {B : Nat} {w : World} (h : P10 w) (hB : w.heap.size ≤ B) : PT B w := fun v hb => h.call (hb.mono hB)
theorem own_setE {w : World} {B b o : Nat} {e : TypeId} {k : Nat} {v x : Value} {n : Nat} {xs : List Value} (h : w.ownsRow B e k v n xs) (hne : v.ownBlock ≠ some b) : (w.setCell ⟨b, o, none⟩ x).ownsRow B e k v n xs := by
 refine ⟨h.1, ?_⟩
 rcases h.2 with h0 | ⟨g, cap, cur, hv, hB, hg, r⟩
 ·exact .inl h0
 ·refine .inr ⟨g, cap, cur, hv, hB, ?_, r⟩
  have hgb : g ≠ b := fun e => hne (by rw [hv, ← e]; rfl)
  exact (Below.heap_setCell _ _ _ _ (by exact hgb)).trans hg
/-- Three cells stay: the words, and both ends; so does all that is neither the words' variable nor their row. -/
@[reducible] def S3 (w0 : World) (row : Option Nat) (wb ab : Nat) (v1 v2 v3 : Value) (u : World) : Prop :=
 u.cell? ⟨wb, 0, none⟩ = some v1 ∧ u.cell? ⟨ab, 0, none⟩ = some v2 ∧ u.cell? ⟨ab, 1, none⟩ = some v3 ∧ u.frozen? ⟨wb, 0, none⟩ = false ∧ Hid ((Below wb w0 u ∧ ab < u.heap.size ∧ wb < ab) ∧ ∀ c o v, row ≠ some c → w0.cell? ⟨c, o, none⟩ = some v → u.cell? ⟨c, o, none⟩ = some v)
section
variable {w0 u v : World} {row : Option Nat} {wb ab : Nat} {v1 v2 v3 : Value}
theorem S3.call (hb : Below u.heap.size u v) (h : S3 w0 row wb ab v1 v2 v3 u) : S3 w0 row wb ab v1 v2 v3 v := by
 obtain ⟨h1, h2, h3, h4, q⟩ := h
 obtain ⟨⟨q1, q2, q3⟩, q5⟩ := unhide q
 have q4 : wb < u.heap.size := by omega
 exact ⟨(hb.cell (by exact q4)).trans h1, (hb.cell (by exact q2)).trans h2, (hb.cell (by exact q2)).trans h3, (hb.frozen (by exact q4)).trans h4, hide ⟨⟨q1.trans (hb.mono (by omega)), Nat.lt_of_lt_of_le q2 hb.size, q3⟩, fun c o x hc hx => (hb.cell (World.block_lt_of_cell? _ _ (q5 c o x hc hx))).trans (q5 c o x hc hx)⟩⟩
theorem S3.drew (h : S3 w0 row wb ab v1 v2 v3 u) : S3 w0 row wb ab v1 v2 v3 u.drew := S3.call (Below.refl _ _).drew h
theorem S3.alloc (h : S3 w0 row wb ab v1 v2 v3 u) (o : Obj) : S3 w0 row wb ab v1 v2 v3 (u.alloc o) := S3.call ((Below.refl _ _).alloc (Nat.le_refl _) o) h
theorem S3.grown (h : S3 w0 row wb ab v1 v2 v3 u) (hg : u.grownBy v row) (hr : ∀ j, row = some j → wb < j ∧ j ≠ ab) : S3 w0 row wb ab v1 v2 v3 v := by
 obtain ⟨h1, h2, h3, h4, q⟩ := h
 obtain ⟨⟨q1, q2, q3⟩, q5⟩ := unhide q
 have q4 : wb < u.heap.size := by omega
 have n1 : some wb ≠ row := fun e => by have := (hr wb e.symm).1; omega
 have n2 : some ab ≠ row := fun e => (hr ab e.symm).2 rfl
 exact ⟨(hg.cell_far ⟨wb, 0, none⟩ q4 n1).trans h1, (hg.cell_far ⟨ab, 0, none⟩ q2 n2).trans h2, (hg.cell_far ⟨ab, 1, none⟩ q2 n2).trans h3, (hg.frozen_far ⟨wb, 0, none⟩ q4 n1).trans h4, hide ⟨⟨q1.grown hg (by omega) (fun j hj => by have := (hr j hj).1; omega), Nat.lt_of_lt_of_le q2 hg.size, q3⟩, fun c o x hc hx => (hg.cell_far ⟨c, o, none⟩ (World.block_lt_of_cell? _ _ (q5 c o x hc hx)) (fun e => hc e.symm)).trans (q5 c o x hc hx)⟩⟩
theorem S3.low (h : S3 w0 row wb ab v1 v2 v3 u) : Below wb w0 u := (unhide h.2.2.2.2).1.1
theorem S3.lt (h : S3 w0 row wb ab v1 v2 v3 u) : ab < u.heap.size ∧ wb < ab := (unhide h.2.2.2.2).1.2
theorem S3.far (h : S3 w0 row wb ab v1 v2 v3 u) : ∀ c o v, row ≠ some c → w0.cell? ⟨c, o, none⟩ = some v → u.cell? ⟨c, o, none⟩ = some v := (unhide h.2.2.2.2).2
end
set_option maxRecDepth 20000 in
set_option maxHeartbeats 8000000 in
theorem tell_c (N : ByteArray) (p q : Int) (hpq : (-9223372036854775808 ≤ p ∧ p ≤ 9223372036854775807) ∧ (-9223372036854775808 ≤ q ∧ q ≤ 9223372036854775807)) (wb : Nat) (oc : Option Addr) (k cc : Nat) (zs : List Value) (w : World) (hp : PT wb w) (hc : w.cell? ⟨wb, 0, none⟩ = some (.slice oc k cc)) (hf : w.frozen? ⟨wb, 0, none⟩ = false) (ho : w.ownsRow (wb + 1) 9 1 (.slice oc k cc) k zs) (hk : k ≤ 40) :
  Calls Tryd.prog 66 #[.string N, .agg #[.int .i64 p, .int .i64 q], .pointer (some ⟨wb, 0, none⟩)] w fun e w' => ∃ oc' cc', e = .returned (.tuple #[]) ∧ w'.cell? ⟨wb, 0, none⟩ = some (.slice oc' (k + 2) cc') ∧ w'.frozen? ⟨wb, 0, none⟩ = false ∧ w'.ownsRow (wb + 1) 9 1 (.slice oc' (k + 2) cc') (k + 2) (zs ++ [.string N, .string (ivT (p, q))]) ∧ Below wb w w' ∧ ∀ c o v, (Value.slice oc k cc).ownBlock ≠ some c → c ≠ wb → w.cell? ⟨c, o, none⟩ = some v → w'.cell? ⟨c, o, none⟩ = some v := by
 obtain ⟨inf, hi, hz0, hz1, hz2⟩ := info_parts strInfo
 obtain ⟨V, hV⟩ : ∃ V, V = ivT (p, q) := ⟨_, rfl⟩
 rw [← hV]
 have s1 := itB_size p hpq.1.1 hpq.1.2
 have s2 := itB_size q hpq.2.1 hpq.2.2
 have HT := hide (show V = itB p ++ (⟨#[46, 46]⟩ : ByteArray) ++ itB q from hV)
 have k1 : ∀ v, Below wb w v → Calls Tryd.prog 67 #[.int .i64 p] v fun e w' => e = .returned (.string (itB p)) ∧ Below v.heap.size v w' := fun v hb => decimalG_c p hpq.1.1 hpq.1.2 v (hp v hb)
 have k2 : ∀ v, Below wb w v → Calls Tryd.prog 67 #[.int .i64 q] v fun e w' => e = .returned (.string (itB q)) ∧ Below v.heap.size v w' := fun v hb => decimalG_c q hpq.2.1 hpq.2.2 v (hp v hb)
 generalize itB p = X at s1 HT k1
 generalize itB q = Y at s2 HT k2
 have K1 := hide k1
 have K2 := hide k2
 have n1 : ¬ (9223372036854775807 < X.size + 2) := by omega
 have n2 : ¬ (9223372036854775807 < X.size + 2 + Y.size) := by omega
 have lwb : wb < w.heap.size := World.block_lt_of_cell? _ _ hc
 have kq := (Below.refl w.heap.size w).alloc (Nat.le_refl _) (Obj.cells #[.int .i64 p, .int .i64 q] 81)
 have c0 : (w.alloc (Obj.cells #[.int .i64 p, .int .i64 q] 81)).cell? ⟨w.heap.size, 0, none⟩ = some (.int .i64 p) := by simp [go_sem]
 have c1 : (w.alloc (Obj.cells #[.int .i64 p, .int .i64 q] 81)).cell? ⟨w.heap.size, 1, none⟩ = some (.int .i64 q) := by simp [go_sem]
 have hh : S3 w (Value.slice oc k cc).ownBlock wb w.heap.size (.slice oc k cc) (.int .i64 p) (.int .i64 q) (w.alloc (Obj.cells #[.int .i64 p, .int .i64 q] 81)) := ⟨(kq.cell (by exact lwb)).trans hc, c0, c1, (kq.frozen (by exact lwb)).trans hf, hide ⟨⟨kq.mono (by omega), by simp, lwb⟩, fun c o x _ hx => (kq.cell (World.block_lt_of_cell? _ _ hx)).trans hx⟩⟩
 have HO := hide (own_on ho kq)
 have HR := hide (show ∀ j, (Value.slice oc k cc).ownBlock = some j → wb < j ∧ j ≠ w.heap.size from fun j hj => by have := ho.lt j hj; omega)
 obtain ⟨ab, hab⟩ : ∃ x, x = w.heap.size := ⟨_, rfl⟩
 obtain ⟨wq, hwq⟩ : ∃ z, z = w.alloc (Obj.cells #[.int .i64 p, .int .i64 q] 81) := ⟨_, rfl⟩
 rw [← hwq, ← hab] at hh
 rw [← hwq] at HO
 rw [← hab] at HR
 have HQ := hide (And.intro hab hwq)
 have HH := hide hh
 clear hV k1 k2 hpq hab hwq c0 c1 kq ho hc hf hp lwb hh
 go_enter Tryd.func66, Tryd.ntmps66
 go_upto_region 1 with fail
 rw [← (unhide HQ).2, ← (unhide HQ).1]
 clear HQ
 have hh := unhide HH
 have kd : Below wq.heap.size wq wq.drew := (Below.refl _ _).drew
 refine wp_region_held_drew (S := fun u => u.cell? ⟨ab, 0, none⟩ = some (.int .i64 p) ∧ u.cell? ⟨ab, 1, none⟩ = some (.int .i64 q)) (by kernel_rfl) ⟨(S3.drew hh).2.1, (S3.drew hh).2.2.1⟩ (fun hHeld => ?_)
 have HP := hide (S3.drew hh)
 have HO := hide (own_on (unhide HO) kd)
 clear hh kd HH
 generalize wq.drew = wz at HP HO hHeld ⊢
 refine tk 1 (v := ?_) rfl ?_ ?_
 rotate_left
 ·(intro w9 hSw; (try dsimp only at hSw); go_simp; try with_reducible rfl)
 try simp only [Act.put, sa, sb, sc]
 refine tk 2 (v := ?_) rfl ?_ ?_
 rotate_left
 ·(intro w9 hSw; (try dsimp only at hSw); go_simp; try with_reducible rfl)
 try simp only [Act.put, sa, sb, sc]
 refine tk 3 (v := ?_) rfl ?_ ?_
 rotate_left
 ·(intro w9 hSw; (try dsimp only at hSw); go_simp; try with_reducible rfl)
 try simp only [Act.put, sa, sb, sc]
 refine tk 6 (v := ?_) rfl ?_ ?_
 rotate_left
 ·(intro w9 hSw; (try dsimp only at hSw); go_simp; try with_reducible rfl)
 try simp only [Act.put, sa, sb, sc]
 refine tk 7 (v := ?_) rfl ?_ ?_
 rotate_left
 ·(intro w9 hSw; (try dsimp only at hSw); go_simp; try with_reducible rfl)
 try simp only [Act.put, sa, sb, sc]
 refine wpAnyH_ready (rs := [0, 4]) (by kernel_rfl) (by simp) ?_
 refine AllReadyH.cons (i := 0) rfl (fun K hK => ?_) (AllReadyH.cons (i := 4) rfl (fun K hK => ?_) AllReadyH.nil)
 ·have q1 := (unhide HP).1
  go_simp
  refine hK.out _ _ hHeld (fun hHeld => ?_)
  clear hK K q1
  try simp only [Act.put, sa, sb, sc]
  refine wpAnyH_ready (rs := [4]) (by kernel_rfl) (by simp) ?_
  refine AllReadyH.cons (i := 4) rfl (fun K hK => ?_) AllReadyH.nil
  go_simp
  refine ((unhide K1) _ (unhide HP).low).mono ?_
  rintro e u9 ⟨rfl, kb⟩
  have HP := hide (S3.call kb (unhide HP))
  have HO := hide (own_on (unhide HO) kb)
  clear kb
  refine hK.out _ _ ⟨(unhide HP).2.1, (unhide HP).2.2.1⟩ (fun hHeld => ?_)
  clear hK K
  try simp only [Act.put, sa, sb, sc]
  refine tk 5 (v := ?_) rfl ?_ ?_
  rotate_left
  ·(intro w9 hSw; (try dsimp only at hSw); go_simp; try with_reducible rfl)
  try simp only [Act.put, sa, sb, sc]
  refine wpAnyH_ready (rs := [8]) (by kernel_rfl) (by simp) ?_
  refine AllReadyH.cons (i := 8) rfl (fun K hK => ?_) AllReadyH.nil
  go_simp
  refine ((unhide K2) _ (unhide HP).low).mono ?_
  rintro e u9 ⟨rfl, kb⟩
  have HP := hide (S3.call kb (unhide HP))
  have HO := hide (own_on (unhide HO) kb)
  clear kb
  refine hK.out _ _ ⟨(unhide HP).2.1, (unhide HP).2.2.1⟩ (fun hHeld => ?_)
  clear hK K
  try simp only [Act.put, sa, sb, sc]
  refine tk 9 (v := ?_) rfl ?_ ?_
  rotate_left
  ·(intro w9 hSw; (try dsimp only at hSw); go_simp; try with_reducible rfl)
  try simp only [Act.put, sa, sb, sc]
  refine wpAnyH_ready (rs := [10]) (by kernel_rfl) (by simp) ?_
  refine AllReadyH.cons (i := 10) rfl (fun K hK => ?_) AllReadyH.nil
  go_simp
  refine hK.out _ _ ⟨(S3.alloc (unhide HP) _).2.1, (S3.alloc (unhide HP) _).2.2.1⟩ (fun hHeld => ?_)
  clear hK K
  try simp only [Act.put, sa, sb, sc]
  refine wpAnyH_ready (rs := [11]) (by kernel_rfl) (by simp) ?_
  refine AllReadyH.cons (i := 11) rfl (fun K hK => ?_) AllReadyH.nil
  refine step_app _ (by rfl) _ _ _ (by rfl) (wb + 1) 9 inf (.string ⟨#[]⟩) 1 16 Tryd.underlying24 hi hz0 hz1 hz2 rfl (by decide) _ _ _ (by rfl) ((unhide HO).alloc _) ⟨_, 0, none⟩ 2 2 [.string N, .string (X ++ (⟨#[46, 46]⟩ : ByteArray) ++ Y)] (by rfl) rfl (World.news_of_block (heap_alloc_new _ _)) (by intro u hu; simp at hu; rcases hu with rfl | rfl <;> rfl) (by unfold maxLen; omega) (by omega) (by have := (unhide HP).lt; simp; omega) ?_
  intro oc' cc' w5 hown hgrow
  have HP := hide (S3.grown (S3.alloc (unhide HP) _) hgrow (unhide HR))
  have HO := hide hown
  clear hown hgrow
  refine hK.out _ _ ⟨(unhide HP).2.1, (unhide HP).2.2.1⟩ (fun hHeld => ?_)
  clear hK K
  try simp only [Act.put, sa, sb, sc]
  refine wpAnyH_ready (rs := [12]) (by kernel_rfl) (by simp) ?_
  refine AllReadyH.cons (i := 12) rfl (fun K hK => ?_) AllReadyH.nil
  have q0 := (unhide HP).1
  have f0 := (unhide HP).2.2.2.1
  go_simp
  refine hK.out _ _ ⟨(World.cell?_setCell_other _ _ _ _ (fun e => by have h1 := congrArg Addr.block e; have h2 := (unhide HP).lt; dsimp only at h1; omega)).trans (unhide HP).2.1, (World.cell?_setCell_other _ _ _ _ (fun e => by have h1 := congrArg Addr.block e; have h2 := (unhide HP).lt; dsimp only at h1; omega)).trans (unhide HP).2.2.1⟩ (fun hHeld => ?_)
  clear hK K q0 f0
  try simp only [Act.put, sa, sb, sc]
  refine wpAnyH_done (by kernel_rfl) ?_ _
  go_wp2
  go_end0
  refine ⟨oc', cc', rfl, World.cell?_setCell_same _ _ _ (unhide HP).1, (World.frozen?_setCell _ _ _ _).trans (unhide HP).2.2.2.1, own_setE (by rw [unhide HT]; exact unhide HO) (fun e => by have := ((unhide HO).lt wb e).1; omega), (unhide HP).low.setCell (Nat.le_refl _) _, fun c o x hc hn hx => (World.cell?_setCell_other _ _ _ _ (fun e => hn (congrArg Addr.block e).symm)).trans ((unhide HP).far c o x hc hx)⟩
 ·go_simp
  refine ((unhide K1) _ (unhide HP).low).mono ?_
  rintro e u9 ⟨rfl, kb⟩
  have HP := hide (S3.call kb (unhide HP))
  have HO := hide (own_on (unhide HO) kb)
  clear kb
  refine hK.out _ _ ⟨(unhide HP).2.1, (unhide HP).2.2.1⟩ (fun hHeld => ?_)
  clear hK K
  try simp only [Act.put, sa, sb, sc]
  refine tk 5 (v := ?_) rfl ?_ ?_
  rotate_left
  ·(intro w9 hSw; (try dsimp only at hSw); go_simp; try with_reducible rfl)
  try simp only [Act.put, sa, sb, sc]
  refine wpAnyH_ready (rs := [0, 8]) (by kernel_rfl) (by simp) ?_
  refine AllReadyH.cons (i := 0) rfl (fun K hK => ?_) (AllReadyH.cons (i := 8) rfl (fun K hK => ?_) AllReadyH.nil)
  ·have q1 := (unhide HP).1
   go_simp
   refine hK.out _ _ hHeld (fun hHeld => ?_)
   clear hK K q1
   try simp only [Act.put, sa, sb, sc]
   refine wpAnyH_ready (rs := [8]) (by kernel_rfl) (by simp) ?_
   refine AllReadyH.cons (i := 8) rfl (fun K hK => ?_) AllReadyH.nil
   go_simp
   refine ((unhide K2) _ (unhide HP).low).mono ?_
   rintro e u9 ⟨rfl, kb⟩
   have HP := hide (S3.call kb (unhide HP))
   have HO := hide (own_on (unhide HO) kb)
   clear kb
   refine hK.out _ _ ⟨(unhide HP).2.1, (unhide HP).2.2.1⟩ (fun hHeld => ?_)
   clear hK K
   try simp only [Act.put, sa, sb, sc]
   refine tk 9 (v := ?_) rfl ?_ ?_
   rotate_left
   ·(intro w9 hSw; (try dsimp only at hSw); go_simp; try with_reducible rfl)
   try simp only [Act.put, sa, sb, sc]
   refine wpAnyH_ready (rs := [10]) (by kernel_rfl) (by simp) ?_
   refine AllReadyH.cons (i := 10) rfl (fun K hK => ?_) AllReadyH.nil
   go_simp
   refine hK.out _ _ ⟨(S3.alloc (unhide HP) _).2.1, (S3.alloc (unhide HP) _).2.2.1⟩ (fun hHeld => ?_)
   clear hK K
   try simp only [Act.put, sa, sb, sc]
   refine wpAnyH_ready (rs := [11]) (by kernel_rfl) (by simp) ?_
   refine AllReadyH.cons (i := 11) rfl (fun K hK => ?_) AllReadyH.nil
   refine step_app _ (by rfl) _ _ _ (by rfl) (wb + 1) 9 inf (.string ⟨#[]⟩) 1 16 Tryd.underlying24 hi hz0 hz1 hz2 rfl (by decide) _ _ _ (by rfl) ((unhide HO).alloc _) ⟨_, 0, none⟩ 2 2 [.string N, .string (X ++ (⟨#[46, 46]⟩ : ByteArray) ++ Y)] (by rfl) rfl (World.news_of_block (heap_alloc_new _ _)) (by intro u hu; simp at hu; rcases hu with rfl | rfl <;> rfl) (by unfold maxLen; omega) (by omega) (by have := (unhide HP).lt; simp; omega) ?_
   intro oc' cc' w5 hown hgrow
   have HP := hide (S3.grown (S3.alloc (unhide HP) _) hgrow (unhide HR))
   have HO := hide hown
   clear hown hgrow
   refine hK.out _ _ ⟨(unhide HP).2.1, (unhide HP).2.2.1⟩ (fun hHeld => ?_)
   clear hK K
   try simp only [Act.put, sa, sb, sc]
   refine wpAnyH_ready (rs := [12]) (by kernel_rfl) (by simp) ?_
   refine AllReadyH.cons (i := 12) rfl (fun K hK => ?_) AllReadyH.nil
   have q0 := (unhide HP).1
   have f0 := (unhide HP).2.2.2.1
   go_simp
   refine hK.out _ _ ⟨(World.cell?_setCell_other _ _ _ _ (fun e => by have h1 := congrArg Addr.block e; have h2 := (unhide HP).lt; dsimp only at h1; omega)).trans (unhide HP).2.1, (World.cell?_setCell_other _ _ _ _ (fun e => by have h1 := congrArg Addr.block e; have h2 := (unhide HP).lt; dsimp only at h1; omega)).trans (unhide HP).2.2.1⟩ (fun hHeld => ?_)
   clear hK K q0 f0
   try simp only [Act.put, sa, sb, sc]
   refine wpAnyH_done (by kernel_rfl) ?_ _
   go_wp2
   go_end0
   refine ⟨oc', cc', rfl, World.cell?_setCell_same _ _ _ (unhide HP).1, (World.frozen?_setCell _ _ _ _).trans (unhide HP).2.2.2.1, own_setE (by rw [unhide HT]; exact unhide HO) (fun e => by have := ((unhide HO).lt wb e).1; omega), (unhide HP).low.setCell (Nat.le_refl _) _, fun c o x hc hn hx => (World.cell?_setCell_other _ _ _ _ (fun e => hn (congrArg Addr.block e).symm)).trans ((unhide HP).far c o x hc hx)⟩
  ·go_simp
   refine ((unhide K2) _ (unhide HP).low).mono ?_
   rintro e u9 ⟨rfl, kb⟩
   have HP := hide (S3.call kb (unhide HP))
   have HO := hide (own_on (unhide HO) kb)
   clear kb
   refine hK.out _ _ ⟨(unhide HP).2.1, (unhide HP).2.2.1⟩ (fun hHeld => ?_)
   clear hK K
   try simp only [Act.put, sa, sb, sc]
   refine tk 9 (v := ?_) rfl ?_ ?_
   rotate_left
   ·(intro w9 hSw; (try dsimp only at hSw); go_simp; try with_reducible rfl)
   try simp only [Act.put, sa, sb, sc]
   refine wpAnyH_ready (rs := [0, 10]) (by kernel_rfl) (by simp) ?_
   refine AllReadyH.cons (i := 0) rfl (fun K hK => ?_) (AllReadyH.cons (i := 10) rfl (fun K hK => ?_) AllReadyH.nil)
   ·have q1 := (unhide HP).1
    go_simp
    refine hK.out _ _ hHeld (fun hHeld => ?_)
    clear hK K q1
    try simp only [Act.put, sa, sb, sc]
    refine wpAnyH_ready (rs := [10]) (by kernel_rfl) (by simp) ?_
    refine AllReadyH.cons (i := 10) rfl (fun K hK => ?_) AllReadyH.nil
    go_simp
    refine hK.out _ _ ⟨(S3.alloc (unhide HP) _).2.1, (S3.alloc (unhide HP) _).2.2.1⟩ (fun hHeld => ?_)
    clear hK K
    try simp only [Act.put, sa, sb, sc]
    refine wpAnyH_ready (rs := [11]) (by kernel_rfl) (by simp) ?_
    refine AllReadyH.cons (i := 11) rfl (fun K hK => ?_) AllReadyH.nil
    refine step_app _ (by rfl) _ _ _ (by rfl) (wb + 1) 9 inf (.string ⟨#[]⟩) 1 16 Tryd.underlying24 hi hz0 hz1 hz2 rfl (by decide) _ _ _ (by rfl) ((unhide HO).alloc _) ⟨_, 0, none⟩ 2 2 [.string N, .string (X ++ (⟨#[46, 46]⟩ : ByteArray) ++ Y)] (by rfl) rfl (World.news_of_block (heap_alloc_new _ _)) (by intro u hu; simp at hu; rcases hu with rfl | rfl <;> rfl) (by unfold maxLen; omega) (by omega) (by have := (unhide HP).lt; simp; omega) ?_
    intro oc' cc' w5 hown hgrow
    have HP := hide (S3.grown (S3.alloc (unhide HP) _) hgrow (unhide HR))
    have HO := hide hown
    clear hown hgrow
    refine hK.out _ _ ⟨(unhide HP).2.1, (unhide HP).2.2.1⟩ (fun hHeld => ?_)
    clear hK K
    try simp only [Act.put, sa, sb, sc]
    refine wpAnyH_ready (rs := [12]) (by kernel_rfl) (by simp) ?_
    refine AllReadyH.cons (i := 12) rfl (fun K hK => ?_) AllReadyH.nil
    have q0 := (unhide HP).1
    have f0 := (unhide HP).2.2.2.1
    go_simp
    refine hK.out _ _ ⟨(World.cell?_setCell_other _ _ _ _ (fun e => by have h1 := congrArg Addr.block e; have h2 := (unhide HP).lt; dsimp only at h1; omega)).trans (unhide HP).2.1, (World.cell?_setCell_other _ _ _ _ (fun e => by have h1 := congrArg Addr.block e; have h2 := (unhide HP).lt; dsimp only at h1; omega)).trans (unhide HP).2.2.1⟩ (fun hHeld => ?_)
    clear hK K q0 f0
    try simp only [Act.put, sa, sb, sc]
    refine wpAnyH_done (by kernel_rfl) ?_ _
    go_wp2
    go_end0
    refine ⟨oc', cc', rfl, World.cell?_setCell_same _ _ _ (unhide HP).1, (World.frozen?_setCell _ _ _ _).trans (unhide HP).2.2.2.1, own_setE (by rw [unhide HT]; exact unhide HO) (fun e => by have := ((unhide HO).lt wb e).1; omega), (unhide HP).low.setCell (Nat.le_refl _) _, fun c o x hc hn hx => (World.cell?_setCell_other _ _ _ _ (fun e => hn (congrArg Addr.block e).symm)).trans ((unhide HP).far c o x hc hx)⟩
   ·go_simp
    refine hK.out _ _ ⟨(S3.alloc (unhide HP) _).2.1, (S3.alloc (unhide HP) _).2.2.1⟩ (fun hHeld => ?_)
    clear hK K
    try simp only [Act.put, sa, sb, sc]
    refine wpAnyH_ready (rs := [0]) (by kernel_rfl) (by simp) ?_
    refine AllReadyH.cons (i := 0) rfl (fun K hK => ?_) AllReadyH.nil
    have q1 := (unhide HP).1
    have q2 := (S3.alloc (unhide HP) (Obj.cells #[.string N, .string (X ++ (⟨#[46, 46]⟩ : ByteArray) ++ Y)] 9)).1
    go_simp
    refine hK.out _ _ hHeld (fun hHeld => ?_)
    clear hK K q1 q2
    try simp only [Act.put, sa, sb, sc]
    refine wpAnyH_ready (rs := [11]) (by kernel_rfl) (by simp) ?_
    refine AllReadyH.cons (i := 11) rfl (fun K hK => ?_) AllReadyH.nil
    refine step_app _ (by rfl) _ _ _ (by rfl) (wb + 1) 9 inf (.string ⟨#[]⟩) 1 16 Tryd.underlying24 hi hz0 hz1 hz2 rfl (by decide) _ _ _ (by rfl) ((unhide HO).alloc _) ⟨_, 0, none⟩ 2 2 [.string N, .string (X ++ (⟨#[46, 46]⟩ : ByteArray) ++ Y)] (by rfl) rfl (World.news_of_block (heap_alloc_new _ _)) (by intro u hu; simp at hu; rcases hu with rfl | rfl <;> rfl) (by unfold maxLen; omega) (by omega) (by have := (unhide HP).lt; simp; omega) ?_
    intro oc' cc' w5 hown hgrow
    have HP := hide (S3.grown (S3.alloc (unhide HP) _) hgrow (unhide HR))
    have HO := hide hown
    clear hown hgrow
    refine hK.out _ _ ⟨(unhide HP).2.1, (unhide HP).2.2.1⟩ (fun hHeld => ?_)
    clear hK K
    try simp only [Act.put, sa, sb, sc]
    refine wpAnyH_ready (rs := [12]) (by kernel_rfl) (by simp) ?_
    refine AllReadyH.cons (i := 12) rfl (fun K hK => ?_) AllReadyH.nil
    have q0 := (unhide HP).1
    have f0 := (unhide HP).2.2.2.1
    go_simp
    refine hK.out _ _ ⟨(World.cell?_setCell_other _ _ _ _ (fun e => by have h1 := congrArg Addr.block e; have h2 := (unhide HP).lt; dsimp only at h1; omega)).trans (unhide HP).2.1, (World.cell?_setCell_other _ _ _ _ (fun e => by have h1 := congrArg Addr.block e; have h2 := (unhide HP).lt; dsimp only at h1; omega)).trans (unhide HP).2.2.1⟩ (fun hHeld => ?_)
    clear hK K q0 f0
    try simp only [Act.put, sa, sb, sc]
    refine wpAnyH_done (by kernel_rfl) ?_ _
    go_wp2
    go_end0
    refine ⟨oc', cc', rfl, World.cell?_setCell_same _ _ _ (unhide HP).1, (World.frozen?_setCell _ _ _ _).trans (unhide HP).2.2.2.1, own_setE (by rw [unhide HT]; exact unhide HO) (fun e => by have := ((unhide HO).lt wb e).1; omega), (unhide HP).low.setCell (Nat.le_refl _) _, fun c o x hc hn hx => (World.cell?_setCell_other _ _ _ _ (fun e => hn (congrArg Addr.block e).symm)).trans ((unhide HP).far c o x hc hx)⟩
end Go.Proofs.YtpdnnpnclgcpoaaDoor
