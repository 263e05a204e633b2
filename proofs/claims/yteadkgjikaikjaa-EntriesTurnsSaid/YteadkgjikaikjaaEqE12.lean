/- Comparisons of entries and of joints. Conditions: none. -/
import Derived.Test.YteadkgjikaikjaaKitLg
import Derived.Laws.StructEq
namespace Go.Proofs.Yteadkgjikaikjaa.kit
open Go Go.RowKit Go.Proofs.Yteadkgjikaikjaa.nums Go.Proofs.Yteadkgjikaikjaa.cf Go.Proofs.Yteadkgjikaikjaa.lg
set_option linter.unusedVariables false

set_option maxHeartbeats 2000000 in
theorem neq_jt (x y : JtL) (w : World) : (binOp .neq 27 (jV x) (jV y)).run Try.prog w = .ok (.bool (!decide (x = y))) w := by
  unfold jV j0 j1 j2 j3 j4 j5 j6 j7 j8 j9 j10
  obtain ⟨⟨av, aw, al, ae, ak⟩, ⟨bv, bw, bl, be, bk⟩, tw⟩ := x
  obtain ⟨⟨av2, aw2, al2, ae2, ak2⟩, ⟨bv2, bw2, bl2, be2, bk2⟩, tw2⟩ := y
  dsimp only
  simp only [JtL.mk.injEq, CfL.mk.injEq]
  go_simp
  simp only [Int.natCast_inj]
  rcases Decidable.em (av = av2) with h_av | h_av
  rotate_left
  · rw [if_neg h_av]; simp [h_av]
  rw [if_pos h_av]
  rcases Decidable.em (aw = aw2) with h_aw | h_aw
  rotate_left
  · rw [if_neg h_aw]; simp [h_aw]
  rw [if_pos h_aw]
  rcases Decidable.em (al = al2) with h_al | h_al
  rotate_left
  · rw [if_neg h_al]; simp [h_al]
  rw [if_pos h_al]
  rcases Decidable.em (ae = ae2) with h_ae | h_ae
  rotate_left
  · rw [if_neg h_ae]; simp [h_ae]
  rw [if_pos h_ae]
  rcases Decidable.em (ak = ak2) with h_ak | h_ak
  rotate_left
  · rw [if_neg h_ak]; simp [h_ak]
  rw [if_pos h_ak]
  rcases Decidable.em (bv = bv2) with h_bv | h_bv
  rotate_left
  · rw [if_neg h_bv]; simp [h_bv]
  rw [if_pos h_bv]
  rcases Decidable.em (bw = bw2) with h_bw | h_bw
  rotate_left
  · rw [if_neg h_bw]; simp [h_bw]
  rw [if_pos h_bw]
  rcases Decidable.em (bl = bl2) with h_bl | h_bl
  rotate_left
  · rw [if_neg h_bl]; simp [h_bl]
  rw [if_pos h_bl]
  rcases Decidable.em (be = be2) with h_be | h_be
  rotate_left
  · rw [if_neg h_be]; simp [h_be]
  rw [if_pos h_be]
  rcases Decidable.em (bk = bk2) with h_bk | h_bk
  rotate_left
  · rw [if_neg h_bk]; simp [h_bk]
  rw [if_pos h_bk]
  rcases Decidable.em (tw = tw2) with h_tw | h_tw
  rotate_left
  · rw [if_neg h_tw]; simp [h_tw]
  rw [if_pos h_tw]
  simp [h_av, h_aw, h_al, h_ae, h_ak, h_bv, h_bw, h_bl, h_be, h_bk, h_tw]

set_option maxHeartbeats 2000000 in
theorem eql_jt (x y : JtL) (w : World) : (binOp .eql 27 (jV x) (jV y)).run Try.prog w = .ok (.bool (decide (x = y))) w := by
  unfold jV j0 j1 j2 j3 j4 j5 j6 j7 j8 j9 j10
  obtain ⟨⟨av, aw, al, ae, ak⟩, ⟨bv, bw, bl, be, bk⟩, tw⟩ := x
  obtain ⟨⟨av2, aw2, al2, ae2, ak2⟩, ⟨bv2, bw2, bl2, be2, bk2⟩, tw2⟩ := y
  dsimp only
  simp only [JtL.mk.injEq, CfL.mk.injEq]
  go_simp
  simp only [Int.natCast_inj]
  rcases Decidable.em (av = av2) with h_av | h_av
  rotate_left
  · rw [if_neg h_av]; simp [h_av]
  rw [if_pos h_av]
  rcases Decidable.em (aw = aw2) with h_aw | h_aw
  rotate_left
  · rw [if_neg h_aw]; simp [h_aw]
  rw [if_pos h_aw]
  rcases Decidable.em (al = al2) with h_al | h_al
  rotate_left
  · rw [if_neg h_al]; simp [h_al]
  rw [if_pos h_al]
  rcases Decidable.em (ae = ae2) with h_ae | h_ae
  rotate_left
  · rw [if_neg h_ae]; simp [h_ae]
  rw [if_pos h_ae]
  rcases Decidable.em (ak = ak2) with h_ak | h_ak
  rotate_left
  · rw [if_neg h_ak]; simp [h_ak]
  rw [if_pos h_ak]
  rcases Decidable.em (bv = bv2) with h_bv | h_bv
  rotate_left
  · rw [if_neg h_bv]; simp [h_bv]
  rw [if_pos h_bv]
  rcases Decidable.em (bw = bw2) with h_bw | h_bw
  rotate_left
  · rw [if_neg h_bw]; simp [h_bw]
  rw [if_pos h_bw]
  rcases Decidable.em (bl = bl2) with h_bl | h_bl
  rotate_left
  · rw [if_neg h_bl]; simp [h_bl]
  rw [if_pos h_bl]
  rcases Decidable.em (be = be2) with h_be | h_be
  rotate_left
  · rw [if_neg h_be]; simp [h_be]
  rw [if_pos h_be]
  rcases Decidable.em (bk = bk2) with h_bk | h_bk
  rotate_left
  · rw [if_neg h_bk]; simp [h_bk]
  rw [if_pos h_bk]
  rcases Decidable.em (tw = tw2) with h_tw | h_tw
  rotate_left
  · rw [if_neg h_tw]; simp [h_tw]
  rw [if_pos h_tw]
  simp [h_av, h_aw, h_al, h_ae, h_ak, h_bv, h_bw, h_bl, h_be, h_bk, h_tw]

set_option maxHeartbeats 4000000 in
theorem neq_en (x y : EnL) (w : World) : (binOp .neq 37 (enV x) (enV y)).run Try.prog w = .ok (.bool (!eqE x y)) w := by
  unfold enV j0 j1 j2 j3 j4 j5 j6 j7 j8 j9 j10 eqE
  obtain ⟨t, k, d, ⟨⟨av, aw, al, ae, ak⟩, ⟨bv, bw, bl, be, bk⟩, tw⟩⟩ := x
  obtain ⟨t2, k2, d2, ⟨⟨av2, aw2, al2, ae2, ak2⟩, ⟨bv2, bw2, bl2, be2, bk2⟩, tw2⟩⟩ := y
  dsimp only
  simp only [JtL.mk.injEq, CfL.mk.injEq]
  go_simp
  simp only [Int.natCast_inj]
  rcases Decidable.em (t = t2) with h_t | h_t
  rotate_left
  · rw [if_neg h_t]; simp [h_t]
  rw [if_pos h_t]
  rcases Decidable.em (k = k2) with h_k | h_k
  rotate_left
  · rw [if_neg h_k]; simp [h_k]
  rw [if_pos h_k]
  rcases Decidable.em (d.toList = d2.toList) with h_d | h_d
  rotate_left
  · rw [if_neg h_d]; simp [h_d]
  rw [if_pos h_d]
  rcases Decidable.em (av = av2) with h_av | h_av
  rotate_left
  · rw [if_neg h_av]; simp [h_av]
  rw [if_pos h_av]
  rcases Decidable.em (aw = aw2) with h_aw | h_aw
  rotate_left
  · rw [if_neg h_aw]; simp [h_aw]
  rw [if_pos h_aw]
  rcases Decidable.em (al = al2) with h_al | h_al
  rotate_left
  · rw [if_neg h_al]; simp [h_al]
  rw [if_pos h_al]
  rcases Decidable.em (ae = ae2) with h_ae | h_ae
  rotate_left
  · rw [if_neg h_ae]; simp [h_ae]
  rw [if_pos h_ae]
  rcases Decidable.em (ak = ak2) with h_ak | h_ak
  rotate_left
  · rw [if_neg h_ak]; simp [h_ak]
  rw [if_pos h_ak]
  rcases Decidable.em (bv = bv2) with h_bv | h_bv
  rotate_left
  · rw [if_neg h_bv]; simp [h_bv]
  rw [if_pos h_bv]
  rcases Decidable.em (bw = bw2) with h_bw | h_bw
  rotate_left
  · rw [if_neg h_bw]; simp [h_bw]
  rw [if_pos h_bw]
  rcases Decidable.em (bl = bl2) with h_bl | h_bl
  rotate_left
  · rw [if_neg h_bl]; simp [h_bl]
  rw [if_pos h_bl]
  rcases Decidable.em (be = be2) with h_be | h_be
  rotate_left
  · rw [if_neg h_be]; simp [h_be]
  rw [if_pos h_be]
  rcases Decidable.em (bk = bk2) with h_bk | h_bk
  rotate_left
  · rw [if_neg h_bk]; simp [h_bk]
  rw [if_pos h_bk]
  rcases Decidable.em (tw = tw2) with h_tw | h_tw
  rotate_left
  · rw [if_neg h_tw]; simp [h_tw]
  rw [if_pos h_tw]
  simp [h_t, h_k, h_d, h_av, h_aw, h_al, h_ae, h_ak, h_bv, h_bw, h_bl, h_be, h_bk, h_tw]

set_option maxHeartbeats 4000000 in
theorem eql_en (x y : EnL) (w : World) : (binOp .eql 37 (enV x) (enV y)).run Try.prog w = .ok (.bool (eqE x y)) w := by
  unfold enV j0 j1 j2 j3 j4 j5 j6 j7 j8 j9 j10 eqE
  obtain ⟨t, k, d, ⟨⟨av, aw, al, ae, ak⟩, ⟨bv, bw, bl, be, bk⟩, tw⟩⟩ := x
  obtain ⟨t2, k2, d2, ⟨⟨av2, aw2, al2, ae2, ak2⟩, ⟨bv2, bw2, bl2, be2, bk2⟩, tw2⟩⟩ := y
  dsimp only
  simp only [JtL.mk.injEq, CfL.mk.injEq]
  go_simp
  simp only [Int.natCast_inj]
  rcases Decidable.em (t = t2) with h_t | h_t
  rotate_left
  · rw [if_neg h_t]; simp [h_t]
  rw [if_pos h_t]
  rcases Decidable.em (k = k2) with h_k | h_k
  rotate_left
  · rw [if_neg h_k]; simp [h_k]
  rw [if_pos h_k]
  rcases Decidable.em (d.toList = d2.toList) with h_d | h_d
  rotate_left
  · rw [if_neg h_d]; simp [h_d]
  rw [if_pos h_d]
  rcases Decidable.em (av = av2) with h_av | h_av
  rotate_left
  · rw [if_neg h_av]; simp [h_av]
  rw [if_pos h_av]
  rcases Decidable.em (aw = aw2) with h_aw | h_aw
  rotate_left
  · rw [if_neg h_aw]; simp [h_aw]
  rw [if_pos h_aw]
  rcases Decidable.em (al = al2) with h_al | h_al
  rotate_left
  · rw [if_neg h_al]; simp [h_al]
  rw [if_pos h_al]
  rcases Decidable.em (ae = ae2) with h_ae | h_ae
  rotate_left
  · rw [if_neg h_ae]; simp [h_ae]
  rw [if_pos h_ae]
  rcases Decidable.em (ak = ak2) with h_ak | h_ak
  rotate_left
  · rw [if_neg h_ak]; simp [h_ak]
  rw [if_pos h_ak]
  rcases Decidable.em (bv = bv2) with h_bv | h_bv
  rotate_left
  · rw [if_neg h_bv]; simp [h_bv]
  rw [if_pos h_bv]
  rcases Decidable.em (bw = bw2) with h_bw | h_bw
  rotate_left
  · rw [if_neg h_bw]; simp [h_bw]
  rw [if_pos h_bw]
  rcases Decidable.em (bl = bl2) with h_bl | h_bl
  rotate_left
  · rw [if_neg h_bl]; simp [h_bl]
  rw [if_pos h_bl]
  rcases Decidable.em (be = be2) with h_be | h_be
  rotate_left
  · rw [if_neg h_be]; simp [h_be]
  rw [if_pos h_be]
  rcases Decidable.em (bk = bk2) with h_bk | h_bk
  rotate_left
  · rw [if_neg h_bk]; simp [h_bk]
  rw [if_pos h_bk]
  rcases Decidable.em (tw = tw2) with h_tw | h_tw
  rotate_left
  · rw [if_neg h_tw]; simp [h_tw]
  rw [if_pos h_tw]
  simp [h_t, h_k, h_d, h_av, h_aw, h_al, h_ae, h_ak, h_bv, h_bw, h_bl, h_be, h_bk, h_tw]

end Go.Proofs.Yteadkgjikaikjaa.kit
