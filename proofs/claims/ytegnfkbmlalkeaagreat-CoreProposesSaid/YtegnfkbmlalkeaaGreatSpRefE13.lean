/- The document's run: the least match of the voters. Conditions: those that the theorem names. -/
import Derived.Deep.RegionHeld3
import Derived.Deep.Cut
import Derived.Lib.Hide
import Derived.Test.YtegnfkbmlalkeaaGreatSpJ3
import Derived.Test.YtegnfkbmlalkeaaGreatSpJ0
import Derived.Test.YtegnfkbmlalkeaaGreatSpRef9
import Derived.Test.YtegnfkbmlalkeaaGreatSpJ2
import Derived.Test.YtegnfkbmlalkeaaGreatSpKitLg
set_option linter.unusedVariables false
set_option maxHeartbeats 16000000
set_option maxRecDepth 10000
namespace Go.Proofs.YtegnfkbmlalkeaaGreat.ref13
open Go Go.RowKit kit nums cf lg cr se
theorem leastL_snoc {c : CoL} {s : Int} {l : List Int} {k : Nat} {v : Int} (h : l[k]? = some v) : leastL c s (l.take (k + 1)) = if leastL c s (l.take k) < 0 ∨ mtF c v < leastL c s (l.take k) then mtF c v else leastL c s (l.take k) := by
 rw [ref9.take_get h]; unfold leastL; rw [List.foldl_append]; rfl
theorem leastC_snoc {c : CoL} {l : List CfL} {k : Nat} {x : CfL} (h : l[k]? = some x) : (l.take (k + 1)).foldl (fun s x => leastL c s (listF x.v)) (-1) = leastL c ((l.take k).foldl (fun s x => leastL c s (listF x.v)) (-1)) (listF x.v) := by
 obtain ⟨hk, rfl⟩ := List.getElem?_eq_some_iff.1 h
 rw [List.take_succ_eq_append_getElem hk, List.foldl_append]; rfl
theorem least_any (g : Nat) (c : CoL) (ms : List MsL) (o : Rw) (w : World) (hI : RunI w g c ms o) (hf : Fit c.lg) (hj : (conC c).ok) : Calls Tryz.prog 148 #[.pointer (some ⟨g, 0, none⟩)] w fun e w' => e = .returned (.int .i64 (leastC c)) ∧ Below w.heap.size w w' := by
 have HI := Lh hI
 obtain ⟨A0, n0, p0, v0, kR, hR⟩ := hI
 have HF := Lh hf
 have HK := Lh (ref10.two_ok hj)
 have h2 := ref10.two_len (conC c)
 clear hR hf hj
 obtain ⟨N, hN⟩ : ∃ k, (ref10.twoL (conC c)).length = k := ⟨_, rfl⟩
 rw [hN] at h2
 have HRes : Hid (leastC c = ((ref10.twoL (conC c)).take N).foldl (fun s x => leastL c s (listF x.v)) (-1)) := by show _ = _; rw [← hN, List.take_length]; rfl
 rw [HRes.out]
 obtain ⟨L, hL⟩ : ∃ z, ref10.twoL (conC c) = z := ⟨_, rfl⟩
 rw [hL] at hN HK ⊢
 obtain ⟨G, hG⟩ : ∃ G : Nat → Int, (fun k => (L.take k).foldl (fun s x => leastL c s (listF x.v)) (-1)) = G := ⟨_, rfl⟩
 have HGs : Hid (∀ k x, L[k]? = some x → G (k + 1) = leastL c (G k) (listF x.v)) := fun k x h => by rw [← hG]; exact leastC_snoc h
 have HG0 : Hid (G 0 = -1) := by show _ = _; rw [← hG]; rfl
 have HGn : Hid ((L.take N).foldl (fun s x => leastL c s (listF x.v)) (-1) = G N) := by show _ = _; rw [← hG]
 rw [HGn.out]
 clear hG HGn HRes
 replace hN := Lh hN
 replace hL := Lh hL
 go_enter Tryz.func148, Tryz.ntmps148
 go_wp2_with (first | refine lo_rLj kR ?_)
 have CC := conf_any g c ms o w HI.out HF.out
 refine (CC).mono ?_
 rintro e y1 ⟨rfl, hY⟩
 have HB := hY
 replace kR := kR.b hY
 clear hY
 clear CC
 go_wp2_with (first | refine lo_rLj kR ?_)
 have CC := ref10.two_any (conC c) y1
 rw [hL.out, hN.out] at CC
 refine CC.mono ?_
 rintro e y2 ⟨pt, rfl, hpt, hY, hA⟩
 replace HB := bt HB hY
 replace kR := kR.b hY
 clear hY
 clear CC
 replace hA := Lh hA
 replace hpt := Lh hpt
 have BkR := Lh kR
 clear kR
 have BH := Lh HB
 clear HB
 go_wp2_with fail
 go_loopw [3, 5] (fun sv iv wr => ∃ i : Nat, i ≤ N ∧ sv = .int .i64 (G i) ∧ iv = .int .i64 (i : Int) ∧ Hid (Below y2.heap.size y2 wr)) (fun _ iv _ => N - (intOf iv).toNat)
 case atStart => exact ⟨0, by omega, congrArg (Value.int .i64) HG0.out.symm, rfl, Lh (Below.refl _ _)⟩
 case round =>
  obtain ⟨i, hi, rfl, rfl, HY⟩ := hrel
  by_cases hiN : i < N
  ·
   have kR := BkR.out.below HY.out BkR.out.lt
   have HB := HY.out
   have ci : (i : Int) < (N : Int) := by omega
   have c0i : (0 : Int) ≤ (i : Int) := by omega
   have wi : IntKind.i64.wrap ((i : Int) + 1) = ((i + 1 : Nat) : Int) := by rw [wrap_sm (by omega) (by omega)]; omega
   obtain ⟨x, hx⟩ : ∃ x, L[i]? = some x := ⟨_, List.getElem?_eq_getElem (by rw [hN.out]; exact hiN)⟩
   have hxo := HK.out x (List.mem_of_getElem? hx)
   have cx : _ = some (Value.int .u16 (x.v : Int)) := ((hA.out i x hx).below hpt.out HY.out) 0 _ rfl
   rw [Nat.add_zero] at cx
   have hGi := Lh (HGs.out i x hx)
   clear hx
   go_wp2_with (first | refine lo_rLj kR ?_)
   have CC := ref9.list_any x.v wr hxo.1
   unfold ref9.IsIs at CC
   refine CC.mono ?_
   rintro e y3 ⟨A5, c5, rfl, hO5, hY⟩
   replace HB := bt HB hY
   replace kR := kR.b hY
   clear hY
   clear CC cx
   have hLn : Hid (∀ z ∈ listF x.v, 1 ≤ z ∧ z ≤ 9) := fun z hz => ref9.list_node hz
   have hLl := ref9.list_len x.v
   obtain ⟨A6, c6, e6, -, -, R5⟩ := hO5.slice
   rw [ref9.i64s_length] at e6 R5
   injection e6 with e6 _ e7
   subst e6
   subst e7
   clear hO5
   generalize listF x.v = l at *
   obtain ⟨M, hM⟩ : ∃ k, l.length = k := ⟨_, rfl⟩
   rw [hM] at R5 hLl ⊢
   obtain ⟨H, hH⟩ : ∃ H : Nat → Int, (fun k => leastL c (G i) (l.take k)) = H := ⟨_, rfl⟩
   have HHs : Hid (∀ k v, l[k]? = some v → H (k + 1) = if H k < 0 ∨ mtF c v < H k then mtF c v else H k) := fun k v h => by rw [← hH]; exact leastL_snoc h
   have HH0 : Hid (H 0 = G i) := by show _ = _; rw [← hH]; rfl
   have HHn : Hid (G (i + 1) = H M) := by show _ = _; rw [hGi.out, ← hH, ← hM]; show _ = leastL c (G i) (l.take l.length); rw [List.take_length]
   clear hH hGi
   replace hM := Lh hM
   have HBo := Lh HB
   clear HB
   have BkR2 := Lh kR
   clear kR
   have BR5 := Lh R5
   clear R5
   go_wp2_with fail
   go_loopw [3, 7] (fun sv kv wz => ∃ k : Nat, k ≤ M ∧ sv = .int .i64 (H k) ∧ kv = .int .i64 (k : Int) ∧ Hid (Below y3.heap.size y3 wz)) (fun _ kv _ => M - (intOf kv).toNat)
   case atStart => exact ⟨0, by omega, congrArg (Value.int .i64) HH0.out.symm, rfl, Lh (Below.refl _ _)⟩
   case round =>
    obtain ⟨k, hk, rfl, rfl, HZ⟩ := hrel
    by_cases hkM : k < M
    ·
     have kR := BkR2.out.below HZ.out BkR2.out.lt
     have R5 := BR5.out.on HZ.out HZ.out.size
     have HB := HZ.out
     have ck : (k : Int) < (M : Int) := by omega
     have c0k : (0 : Int) ≤ (k : Int) := by omega
     have wk : IntKind.i64.wrap ((k : Int) + 1) = ((k + 1 : Nat) : Int) := by rw [wrap_sm (by omega) (by omega)]; omega
     obtain ⟨pl, ol, z, rfl, hz, cz⟩ := ref9.rdv_at R5 k hkM
     obtain ⟨j, rfl⟩ : ∃ j : Nat, z = (j : Int) := ⟨z.toNat, by have := hLn.out z (List.mem_of_getElem? hz); omega⟩
     have hj9 : j ≤ 9 := by have := hLn.out _ (List.mem_of_getElem? hz); omega
     have cj : (j : Int) < 10 := by omega
     have c0j : (0 : Int) ≤ (j : Int) := by omega
     have cm := rn_mt kR (show j < 10 by omega)
     have hHk := HHs.out k _ hz
     rw [show mtF c (j : Int) = c.mt j from rfl] at hHk
     generalize c.mt j = mv at *
     clear hz R5
     obtain ⟨s0, hs0⟩ : ∃ z, H k = z := ⟨_, rfl⟩
     rw [hs0] at hHk ⊢
     clear hs0
     obtain ⟨s1, hs1⟩ : ∃ z, H (k + 1) = z := ⟨_, rfl⟩
     rw [hs1] at hHk
     replace hs1 := Lh hs1
     by_cases hneg : s0 < 0
     ·
      have hv : Hid (s1 = mv) := by show _ = _; rw [hHk, if_pos (.inl hneg)]
      clear hHk
      go_upto_region 10 with (first | refine lo_rLj kR ?_)
      refine wp_region_held_drew (S := fun wq => wq.cell? ⟨pl, ol + k, none⟩ = some (.int .i64 (j : Int)) ∧ wq.cell? ⟨g, 35 + j, none⟩ = some (.int .i64 mv)) (by kernel_rfl) ?s_lst10a (fun hHeld => ?_)
      case s_lst10a => exact ⟨cz, cm⟩
      have hD := (Below.refl wr.heap.size wr).drew
      have hD := (Below.refl wr.heap.size wr).drew
      replace HB := bt HB hD
      replace kR := kR.b hD
      clear hD
      obtain ⟨cz, cm⟩ : wr.drew.cell? ⟨pl, ol + k, none⟩ = some (.int .i64 (j : Int)) ∧ wr.drew.cell? ⟨g, 35 + j, none⟩ = some (.int .i64 mv) := ⟨cz, cm⟩
      generalize wr.drew = y61 at *
      iterate 3 (refine tx 0 _ ?_; try simp only [Act.put, ka, kb, kc])
      refine tv 3 ?_
      try simp only [Act.put, ka, kb, kc]
      refine tv 4 ?_
      try simp only [Act.put, ka, kb, kc]
      refine tv 5 ?_
      try simp only [Act.put, ka, kb, kc]
      refine tv 6 ?_
      try simp only [Act.put, ka, kb, kc]
      refine tv 7 ?_
      try simp only [Act.put, ka, kb, kc]
      refine tv 8 ?_
      try simp only [Act.put, ka, kb, kc]
      refine tv 9 ?_
      try simp only [Act.put, ka, kb, kc]
      refine tv 10 ?_
      try simp only [Act.put, ka, kb, kc]
      refine tv 11 ?_
      try simp only [Act.put, ka, kb, kc]
      refine tv 12 ?_
      try simp only [Act.put, ka, kb, kc]
      refine tv 13 ?_
      try simp only [Act.put, ka, kb, kc]
      refine tv 14 ?_
      try simp only [Act.put, ka, kb, kc]
      refine tj 15 _ ?_
      try simp only [Act.put, ka, kb, kc]
      refine wpAnyH_done (by kernel_rfl) ?_ _
      go_upto_region 11 with (first | refine lo_rLj kR ?_)
      refine wp_region_held_drew (S := fun wq => wq.cell? ⟨pl, ol + k, none⟩ = some (.int .i64 (j : Int)) ∧ wq.cell? ⟨g, 35 + j, none⟩ = some (.int .i64 mv)) (by kernel_rfl) ?s_lst111261 (fun hHeld => ?_)
      case s_lst111261 => exact ⟨cz, cm⟩
      have hD := (Below.refl y61.heap.size y61).drew
      have hD := (Below.refl y61.heap.size y61).drew
      replace HB := bt HB hD
      replace kR := kR.b hD
      clear hD
      obtain ⟨cz, cm⟩ : y61.drew.cell? ⟨pl, ol + k, none⟩ = some (.int .i64 (j : Int)) ∧ y61.drew.cell? ⟨g, 35 + j, none⟩ = some (.int .i64 mv) := ⟨cz, cm⟩
      generalize y61.drew = y62 at *
      iterate 11 (refine tx 0 _ ?_; try simp only [Act.put, ka, kb, kc])
      refine wpAnyH_done (by kernel_rfl) ?_ _
      go_wp2_with fail
      go_roundw
      case rel => exact ⟨k + 1, by omega, congrArg (Value.int .i64) (hs1.out.trans hv.out).symm, rfl, Lh HB⟩
      case measure => simp only [intOf]; omega
     by_cases hlt : mv < s0
     ·
      have hv : Hid (s1 = mv) := by show _ = _; rw [hHk, if_pos (.inr hlt)]
      clear hHk
      go_upto_region 10 with (first | refine lo_rLj kR ?_)
      refine wp_region_held_drew (S := fun wq => wq.cell? ⟨pl, ol + k, none⟩ = some (.int .i64 (j : Int)) ∧ wq.cell? ⟨g, 35 + j, none⟩ = some (.int .i64 mv)) (by kernel_rfl) ?s_lst10b (fun hHeld => ?_)
      case s_lst10b => exact ⟨cz, cm⟩
      have hD := (Below.refl wr.heap.size wr).drew
      have hD := (Below.refl wr.heap.size wr).drew
      replace HB := bt HB hD
      replace kR := kR.b hD
      clear hD
      obtain ⟨cz, cm⟩ : wr.drew.cell? ⟨pl, ol + k, none⟩ = some (.int .i64 (j : Int)) ∧ wr.drew.cell? ⟨g, 35 + j, none⟩ = some (.int .i64 mv) := ⟨cz, cm⟩
      generalize wr.drew = y81 at *
      iterate 16 (refine tx 0 _ ?_; try simp only [Act.put, ka, kb, kc])
      refine wpAnyH_done (by kernel_rfl) ?_ _
      go_upto_region 11 with (first | refine lo_rLj kR ?_)
      refine wp_region_held_drew (S := fun wq => wq.cell? ⟨pl, ol + k, none⟩ = some (.int .i64 (j : Int)) ∧ wq.cell? ⟨g, 35 + j, none⟩ = some (.int .i64 mv)) (by kernel_rfl) ?s_lst111281 (fun hHeld => ?_)
      case s_lst111281 => exact ⟨cz, cm⟩
      have hD := (Below.refl y81.heap.size y81).drew
      have hD := (Below.refl y81.heap.size y81).drew
      replace HB := bt HB hD
      replace kR := kR.b hD
      clear hD
      obtain ⟨cz, cm⟩ : y81.drew.cell? ⟨pl, ol + k, none⟩ = some (.int .i64 (j : Int)) ∧ y81.drew.cell? ⟨g, 35 + j, none⟩ = some (.int .i64 mv) := ⟨cz, cm⟩
      generalize y81.drew = y82 at *
      iterate 11 (refine tx 0 _ ?_; try simp only [Act.put, ka, kb, kc])
      refine wpAnyH_done (by kernel_rfl) ?_ _
      go_wp2_with fail
      go_roundw
      case rel => exact ⟨k + 1, by omega, congrArg (Value.int .i64) (hs1.out.trans hv.out).symm, rfl, Lh HB⟩
      case measure => simp only [intOf]; omega
     have hv : Hid (s1 = s0) := by show _ = _; rw [hHk, if_neg (by omega)]
     clear hHk
     go_upto_region 10 with (first | refine lo_rLj kR ?_)
     refine wp_region_held_drew (S := fun wq => wq.cell? ⟨pl, ol + k, none⟩ = some (.int .i64 (j : Int)) ∧ wq.cell? ⟨g, 35 + j, none⟩ = some (.int .i64 mv)) (by kernel_rfl) ?s_lst10c (fun hHeld => ?_)
     case s_lst10c => exact ⟨cz, cm⟩
     have hD := (Below.refl wr.heap.size wr).drew
     have hD := (Below.refl wr.heap.size wr).drew
     replace HB := bt HB hD
     replace kR := kR.b hD
     clear hD
     obtain ⟨cz, cm⟩ : wr.drew.cell? ⟨pl, ol + k, none⟩ = some (.int .i64 (j : Int)) ∧ wr.drew.cell? ⟨g, 35 + j, none⟩ = some (.int .i64 mv) := ⟨cz, cm⟩
     generalize wr.drew = y101 at *
     iterate 16 (refine tx 0 _ ?_; try simp only [Act.put, ka, kb, kc])
     refine wpAnyH_done (by kernel_rfl) ?_ _
     go_wp2_with fail
     go_roundw
     case rel => exact ⟨k + 1, by omega, congrArg (Value.int .i64) (hs1.out.trans hv.out).symm, rfl, Lh HB⟩
     case measure => simp only [intOf]; omega
    ·
     have kR := BkR2.out.below HZ.out BkR2.out.lt
     have R5 := BR5.out.on HZ.out HZ.out.size
     have HB := HZ.out
     obtain rfl : k = M := by omega
     have ck : ¬ ((k : Int) < (k : Int)) := by omega
     clear R5 kR
     go_wp2_with fail
     go_roundw
     case rel => exact ⟨i + 1, by omega, congrArg (Value.int .i64) HHn.out.symm, rfl, Lh (HBo.out.trans (HB.mono HBo.out.size))⟩
     case measure => simp only [intOf]; omega
  ·
   have kR := BkR.out.below HY.out BkR.out.lt
   have HB := HY.out
   obtain rfl : i = N := by omega
   have ck : ¬ ((i : Int) < (i : Int)) := by omega
   clear kR
   go_wp2_with fail
   go_ret
   exact ⟨rfl, BH.out.trans (HB.mono BH.out.size)⟩
end Go.Proofs.YtegnfkbmlalkeaaGreat.ref13
