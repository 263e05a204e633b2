/- FrameCuts answers true: records that are cut off anywhere are scanned up to the last one that is whole. Conditions: what the slices read as. -/
import Derived.Test.YtcjaffdjhbhhaaaFrameLaw
import Derived.Test.YtcjaffdjhbhhaaaKitS
import Derived.BigQuiet
import Derived.Deep.Cut
namespace Go.Proofs.Ytcjaffdjhbhhaaa.frameLaw
open Go.RowKit Go.Proofs.Ytcjaffdjhbhhaaa.kit Go.Proofs.Ytcjaffdjhbhhaaa.nums Go.Proofs.Ytcjaffdjhbhhaaa.crc Go.Proofs.Ytcjaffdjhbhhaaa.bytes Go.Proofs.Ytcjaffdjhbhhaaa.rec_ Go.Proofs.Ytcjaffdjhbhhaaa.ref3 Go.Proofs.Ytcjaffdjhbhhaaa.law0
set_option linter.unusedVariables false

theorem infoI : (Try.prog.info? 3).map (fun i => (i.zero, i.size, i.bytes)) = some (some (.int .i64 0), 1, 8) := by kernel_rfl
/-- Where the first j records end. -/
def endsV (L : List (List Int)) (j : Nat) : List Value := (List.range j).map fun i => .int .i64 ((upto L (i + 1)).length : Int)
theorem endsV_length (L : List (List Int)) (j : Nat) : (endsV L j).length = j := by simp [endsV]
theorem endsV_succ (L : List (List Int)) (j : Nat) : endsV L (j + 1) = endsV L j ++ [.int .i64 ((upto L (j + 1)).length : Int)] := by simp [endsV, List.range_succ]
theorem endsV_at (L : List (List Int)) {j i : Nat} (h : i < j) : (endsV L j)[i]? = some (.int .i64 ((upto L (i + 1)).length : Int)) := by simp [endsV, h]
theorem upto_length (L : List (List Int)) (j : Nat) (hj : j ≤ L.length) : (upto L j).length ≤ 8 * j + L.flatten.length := by
  have h : ∀ (M : List (List Int)), (M.map recB).flatten.length = 8 * M.length + M.flatten.length := by
    intro M
    induction M with
    | nil => rfl
    | cons s M ih => simp only [List.map_cons, List.flatten_cons, List.length_append, List.length_cons, recB_length, ih]; omega
  unfold upto
  rw [h, List.length_take, Nat.min_eq_left hj]
  have := flat_le L j
  omega
theorem upto_byt {L : List (List Int)} (h : ∀ s ∈ L, Byt s) (j : Nat) : Byt (upto L j) := fun x hx => by
  obtain ⟨r, hr, hxr⟩ := List.mem_flatten.1 hx
  obtain ⟨s, hs, rfl⟩ := List.mem_map.1 hr
  exact recB_byt (h s (List.mem_of_mem_take hs)) x hxr
theorem mem_flat {L : List (List Int)} {s : List Int} (h : s ∈ L) : s.length ≤ L.flatten.length := by
  obtain ⟨a, b, rfl⟩ := List.append_of_mem h
  simp only [List.flatten_append, List.flatten_cons, List.length_append]
  omega

set_option maxHeartbeats 4000000 in
theorem cuts (A : Option Addr) (n c : Nat) (L : List (List Int)) (p : Int) (w : World) (hR : RdS w w.heap.size A n L) (hY : ∀ l ∈ L, Byt l) (hnc : n ≤ c) (hcm : c ≤ maxLen) (hp : (Lit.int .i64 p).wf = true) :
    Calls Try.prog 5 #[.slice A n c, .int .i64 p] w fun e w' => e = .returned (.bool true) ∧ Below w.heap.size w w' := by
  have hx1 := hcm
  unfold maxLen at hx1
  have HN := Lib.hid hR.len
  have p0 : -9223372036854775808 ≤ p ∧ p ≤ 9223372036854775807 := by simpa [Lit.wf, IntKind.min, IntKind.max, IntKind.signed, IntKind.bits] using hp
  clear hp
  go_enter Try.func5, Try.ntmps5
  go_wp2_with fail
  refine (begun_any _).mono ?_
  rintro e w1 ⟨rfl, hB1⟩
  by_cases h1 : 30 < n
  · go_wp2_with fail
    go_ret
    exact ⟨rfl, hB1⟩
  have hR1 := hR.on hB1 hB1.size
  have C1 : Calls Try.prog 19 #[.slice A n c, .int .i64 8192] w1 (SumR L 8192 w1) := by simpa using sum_any A n c L 8192 w1 w1.heap.size hR1 (by omega) (by omega)
  have HC1 := Lib.hid C1
  clear C1 hR
  go_wp2_with fail
  refine HC1.out.mono ?_
  clear HC1
  rintro e w2 ⟨t, rfl, ht, rfl⟩
  by_cases h2 : 8192 < t
  · go_wp2_with fail
    go_ret
    exact ⟨rfl, hB1⟩
  have hfl : L.flatten.length ≤ 8192 := by rw [ht (by omega)]; omega
  have HF := Lib.hid hfl
  have HA := Lib.hid (show ∀ s ∈ L, Byt s ∧ s.length ≤ 1048576 from fun s hs => ⟨hY s hs, by have := mem_flat hs; omega⟩)
  have HL := Lib.hid (show ∀ j, j < n → _ from fun j hj => hR1.at2 hj)
  clear ht hfl
  go_wp2_with fail
  go_loopw [5, 6, 7] (fun bb ee i wr => ∃ (j k : Nat) (Ab : Option Addr) (cb : Nat) (Ae : Option Addr) (ce : Nat), j ≤ n ∧ i = .int .i64 j ∧ bb = .slice Ab k cb ∧ ee = .slice Ae j ce ∧ Hid ((upto L j).length = k) ∧ Own 5 wr w1.heap.size (.slice Ab k cb) (upto L j) ∧ OwnV 3 wr w1.heap.size (.slice Ae j ce) (endsV L j) ∧ Below w1.heap.size w1 wr) (fun _ _ i _ => n - (intOf i).toNat)
  case atStart => exact ⟨0, 0, none, 0, none, 0, by omega, rfl, rfl, rfl, rfl, Own.nil _ _ _, OwnV.nil _ _ _, Below.refl _ _⟩
  case round =>
    obtain ⟨j, k, Ab, cb, Ae, ce, hj, rfl, rfl, rfl, HK, hO, hE, hB⟩ := hrel
    have hk : k ≤ 8432 := by have := upto_length L j (by have := HN.out; omega); have := HF.out; have := HK.out; omega
    by_cases hlt : j < n
    · obtain ⟨b, o, Aj, cj, s, rfl, hbB, hLj, hcell0, hl1, hl2, hRj⟩ := HL.out j hlt
      have hcell : wr.cell? ⟨b, o + j, none⟩ = some (.slice Aj s.length cj) := by rw [hB.cell (p := ⟨b, o + j, none⟩) hbB]; exact hcell0
      have hs := HA.out s (List.mem_of_getElem? hLj)
      have C := Lib.hid (frame.put_any Ab k cb (upto L j) Aj s.length cj s wr (hO.rd HK.out) (hRj.on hB hB.size) hs.1 (by omega) (hO.caps HK.out).1 (hO.caps HK.out).2 hs.2 hl1 hl2)
      have HUS := Lib.hid (upto_succ hLj)
      have hk2 : k + (8 + s.length) ≤ 8432 := by have := upto_length L (j + 1) (by have := HN.out; omega); have h3 := congrArg List.length HUS.out; rw [List.length_append, recB_length, HK.out] at h3; have := HF.out; omega
      generalize s.length = m at *
      clear hcell0 hRj hLj
      go_wp2_with fail
      refine C.out.mono ?_
      clear C
      rintro e w4 ⟨A4, c4, rfl, hl4, hO4, hB4⟩
      rw [← HUS.out] at hl4 hO4
      have hE4 := (hE.below hB4).alloc (.cells #[.int .i64 (k + (8 + m) : Nat)] 3)
      have hO4b := hO4.alloc (.cells #[.int .i64 (k + (8 + m) : Nat)] 3)
      have HES := Lib.hid (endsV_succ L j)
      generalize hq : k + (8 + m) = q at *
      go_wp2_with (at_builtin; with_reducible refine wpList_append_v rfl (.tmp 43) (.tmp 46) 37 rfl w1.heap.size 3 (.int .i64 0) 8 Try.underlying37 infoI rfl Ae j ce (endsV L j) (endsV_length L j) rfl hE4 _ _ 1 1 [_] rfl (RdV.one _ _ _) ?h1 ?h2 ?h3 ?h4 ?_)
      case h1 => intro u hu; rw [List.mem_singleton] at hu; subst hu; rfl
      case h2 => omega
      case h3 => unfold maxLen; omega
      case h4 => have := hB.size; have := hB4.size; simp; omega
      intro A5 c5 w5 hE5 hB5 hG5
      have hO5 := hO4b.grown hG5 (fun g hg => own_apart (by decide) hO4b hE4 hg)
      rw [← hl4, ← HES.out] at hE5
      rw [← hl4] at hO5 ⊢
      go_wp2_with fail
      go_roundw
      case rel => exact ⟨j + 1, _, A4, c4, A5, c5, by omega, by go_num, rfl, rfl, rfl, hO5.more hB.size, hE5, (hB.trans (hB4.mono hB.size)).trans (Below.trans ((Below.refl _ _).alloc (Nat.le_trans hB.size hB4.size) _) hB5)⟩
      case measure => simp [intOf]; omega
    · obtain rfl : j = n := by omega
      have hBw := hB1.trans (hB.mono hB1.size)
      obtain ⟨r, hr⟩ : ∃ r : Nat, placeF p ((k : Int) + 1) = r := ⟨(placeF p ((k : Int) + 1)).toNat, by have := place_in p ((k : Int) + 1) (by omega); omega⟩
      have hrk : r ≤ k := by have := place_in p ((k : Int) + 1) (by omega); omega
      have C2 := Lib.hid (place_any p ((k : Int) + 1) wr p0.1 p0.2 (by omega))
      rw [hr] at C2
      clear hr
      have HE := Lib.hid (show ∀ i, i < j → ∃ b o, Ae = some ⟨b, o, none⟩ ∧ wr.cell? ⟨b, o + i, none⟩ = some (.int .i64 ((upto L (i + 1)).length : Int)) from fun i hi => by
        obtain ⟨X, cx, hv, _, _, hV⟩ := hE.slice
        rw [endsV_length] at hv hV
        simp only [Value.slice.injEq] at hv
        obtain ⟨rfl, -, rfl⟩ := hv
        obtain ⟨b, o, u, e1, e2, e3⟩ := hV.at_ hi
        rw [endsV_at L hi] at e2
        obtain rfl := Option.some.inj e2
        exact ⟨b, o, e1, e3⟩)
      have HB := Lib.hid (show ∀ i, i ≤ j → (upto L i).length ≤ 8432 from fun i hi => by have := upto_length L i (by have := HN.out; omega); have := HF.out; omega)
      clear hE
      go_wp2_with fail
      refine C2.out.mono ?_
      clear C2
      rintro e w2 ⟨rfl, rfl⟩
      go_wp2_with fail
      go_loop [10, 11] (fun nn gg => ∃ i g : Nat, i ≤ j ∧ nn = .int .i64 i ∧ gg = .int .i64 g ∧ g ≤ r ∧ Hid ((upto L i).length = g)) (fun nn _ => j - (intOf nn).toNat)
      case atStart => exact ⟨0, 0, by omega, rfl, rfl, by omega, rfl⟩
      case round =>
        obtain ⟨i, g, hi, rfl, rfl, hgr, HG⟩ := hrel
        by_cases hlt : i < j
        · obtain ⟨b2, o2, rfl, hcell⟩ := HE.out i hlt
          have hb8 := HB.out (i + 1) (by omega)
          have HGe := Lib.hid (show upto L (i + 1) = upto L (i + 1) from rfl)
          by_cases hle : (upto L (i + 1)).length ≤ r
          · have HK1 := Lib.hid (show (upto L (i + 1)).length = (upto L (i + 1)).length from rfl)
            have hg2 : ∃ g2, (upto L (i + 1)).length = g2 := ⟨_, rfl⟩
            obtain ⟨g2, hg2⟩ := hg2
            rw [hg2] at hcell hle
            have HK2 := Lib.hid hg2
            clear HK1 HGe hg2 hb8
            go_wp2_with fail
            go_round
            case rel => exact ⟨i + 1, g2, by omega, by go_num, rfl, hle, HK2.out⟩
            case measure => simp [intOf]; omega
          · have HQ := Lib.hid (scanned_cut L HA.out r i (by have := HN.out; omega) (by rw [HG.out]; exact hgr) (fun _ => by omega))
            obtain ⟨g2, hg2⟩ : ∃ g2, (upto L (i + 1)).length = g2 := ⟨_, rfl⟩
            rw [hg2] at hcell hle
            clear hg2 HGe hb8
            have hRb := hO.rd HK.out
            have hcap := hO.caps HK.out
            have hYb := upto_byt hY j
            clear HB
            go_wp2_with (with_reducible refine wpList_slice_h rfl (.tmp 72) (.tmp 73) 22 rfl 5 Try.underlying22 info5 Ab k cb wr.heap.size (upto L j) rfl hRb .i64 _ r rfl rfl hrk hcap.1 ?_)
            intro A6 c6 hR6 hrc hcc
            have C3 := Lib.hid (frame.scan_any A6 r c6 ((upto L j).take r) wr hR6 (hYb.take r) (by omega) hrc (by omega))
            go_wp2_with fail
            refine C3.out.mono ?_
            clear C3
            rintro e w6 ⟨A7, n7, c7, xs7, L7, q7, rfl, hx7, hL7, hsc7, hO7, hS7, hB7⟩
            rw [show upto L j = upto L L.length by rw [HN.out]] at hsc7
            obtain ⟨e1, e2⟩ := hsc7.same HQ.out
            subst e1
            obtain rfl : i = n7 := by rw [List.length_take, HN.out] at hL7; omega
            rw [HG.out] at e2
            rw [e2]
            have HL7 := Lib.hid (show ∀ m, m < i → _ from fun m hm => (rds_of hO7 hx7 hL7 hS7).at2 hm)
            have hBw6 := hBw.trans (hB7.mono (Nat.le_trans hB1.size hB.size))
            have hB16 := hB.trans (hB7.mono hB.size)
            have h01 := hB1.size
            have h76 := hB7.size
            clear hO hRb hR6 hsc7 hO7 hS7 hx7 hL7 HE hB hBw HQ e2 hB7
            go_wp2_with fail
            go_loopw [14] (fun ii wr => ∃ m : Nat, m ≤ i ∧ ii = .int .i64 m ∧ Below w6.heap.size w6 wr) (fun ii _ => i - (intOf ii).toNat)
            case atStart => exact ⟨0, by omega, rfl, Below.refl _ _⟩
            case round =>
              obtain ⟨m, hm, rfl, hBq⟩ := hrel
              by_cases hlt2 : m < i
              · obtain ⟨b7, o7, A8, c8, s, rfl, hb7, hL8, hc8, _, _, hR8⟩ := HL7.out m hlt2
                obtain ⟨b, o, Aj, cj, s', rfl, hbB, hLj, hcell0, _, _, hRj⟩ := HL.out m (by omega)
                have hss : s' = s := by
                  rw [List.getElem?_take, if_pos hlt2, hLj] at hL8
                  exact Option.some.inj hL8
                subst hss
                have hcl1 : wr.cell? ⟨b7, o7 + m, none⟩ = some (.slice A8 s'.length c8) := by rw [hBq.cell (p := ⟨b7, o7 + m, none⟩) hb7]; exact hc8
                have hcl2 : wr.cell? ⟨b, o + m, none⟩ = some (.slice Aj s'.length cj) := by rw [hBq.cell (p := ⟨b, o + m, none⟩) (by have := hB16.size; show b < _; omega), hB16.cell (p := ⟨b, o + m, none⟩) hbB]; exact hcell0
                have hR8q := hR8.on hBq hBq.size
                have hRjq := (hRj.on hB16 hB16.size).on hBq hBq.size
                have hv1 := fun a => run_string_rd (P := Try.prog) (wr.drewN a) 22 5 9 Try.underlying22 Try.underlying5 Try.underlying9 wr.heap.size A8 s'.length c8 s' hR8q
                have hv2 := fun a => run_string_rd (P := Try.prog) (wr.drewN a) 22 5 9 Try.underlying22 Try.underlying5 Try.underlying9 wr.heap.size Aj s'.length cj s' hRjq
                generalize strOfNums s' = T at *
                generalize s'.length = ls at *
                clear hR8q hRjq hc8 hcell0 hR8 hRj hL8 hLj
                go_upto_region 25 with (fail)
                go_quiet (fail)
                go_wp2_with fail
                go_roundw
                case rel => exact ⟨m + 1, by omega, by go_num, below_drewN hBq _⟩
                case measure => simp [intOf]; omega
              · obtain rfl : m = i := by omega
                go_wp2_with fail
                go_ret
                exact ⟨rfl, hBw6.trans (hBq.mono (Nat.le_trans h01 (Nat.le_trans hB16.size (Nat.le_refl _))))⟩
        · have hij : i = j := by omega
          have HQ := Lib.hid (scanned_cut L HA.out r i (by have := HN.out; omega) (by rw [HG.out]; exact hgr) (fun h => by have := HN.out; omega))
          have hRb := hO.rd HK.out
          have hcap := hO.caps HK.out
          have hYb := upto_byt hY j
          clear HB
          go_wp2_with (with_reducible refine wpList_slice_h rfl (.tmp 72) (.tmp 73) 22 rfl 5 Try.underlying22 info5 Ab k cb wr.heap.size (upto L j) rfl hRb .i64 _ r rfl rfl hrk hcap.1 ?_)
          intro A6 c6 hR6 hrc hcc
          have C3 := Lib.hid (frame.scan_any A6 r c6 ((upto L j).take r) wr hR6 (hYb.take r) (by omega) hrc (by omega))
          go_wp2_with fail
          refine C3.out.mono ?_
          clear C3
          rintro e w6 ⟨A7, n7, c7, xs7, L7, q7, rfl, hx7, hL7, hsc7, hO7, hS7, hB7⟩
          rw [show upto L j = upto L L.length by rw [HN.out]] at hsc7
          obtain ⟨e1, e2⟩ := hsc7.same HQ.out
          subst e1
          obtain rfl : i = n7 := by rw [List.length_take, HN.out] at hL7; omega
          rw [HG.out] at e2
          rw [e2]
          have HL7 := Lib.hid (show ∀ m, m < i → _ from fun m hm => (rds_of hO7 hx7 hL7 hS7).at2 hm)
          have hBw6 := hBw.trans (hB7.mono (Nat.le_trans hB1.size hB.size))
          have hB16 := hB.trans (hB7.mono hB.size)
          have h01 := hB1.size
          have h76 := hB7.size
          clear hO hRb hR6 hsc7 hO7 hS7 hx7 hL7 HE hB hBw HQ e2 hB7
          go_wp2_with fail
          go_loopw [14] (fun ii wr => ∃ m : Nat, m ≤ i ∧ ii = .int .i64 m ∧ Below w6.heap.size w6 wr) (fun ii _ => i - (intOf ii).toNat)
          case atStart => exact ⟨0, by omega, rfl, Below.refl _ _⟩
          case round =>
            obtain ⟨m, hm, rfl, hBq⟩ := hrel
            by_cases hlt2 : m < i
            · obtain ⟨b7, o7, A8, c8, s, rfl, hb7, hL8, hc8, _, _, hR8⟩ := HL7.out m hlt2
              obtain ⟨b, o, Aj, cj, s', rfl, hbB, hLj, hcell0, _, _, hRj⟩ := HL.out m (by omega)
              have hss : s' = s := by
                rw [List.getElem?_take, if_pos hlt2, hLj] at hL8
                exact Option.some.inj hL8
              subst hss
              have hcl1 : wr.cell? ⟨b7, o7 + m, none⟩ = some (.slice A8 s'.length c8) := by rw [hBq.cell (p := ⟨b7, o7 + m, none⟩) hb7]; exact hc8
              have hcl2 : wr.cell? ⟨b, o + m, none⟩ = some (.slice Aj s'.length cj) := by rw [hBq.cell (p := ⟨b, o + m, none⟩) (by have := hB16.size; show b < _; omega), hB16.cell (p := ⟨b, o + m, none⟩) hbB]; exact hcell0
              have hR8q := hR8.on hBq hBq.size
              have hRjq := (hRj.on hB16 hB16.size).on hBq hBq.size
              have hv1 := fun a => run_string_rd (P := Try.prog) (wr.drewN a) 22 5 9 Try.underlying22 Try.underlying5 Try.underlying9 wr.heap.size A8 s'.length c8 s' hR8q
              have hv2 := fun a => run_string_rd (P := Try.prog) (wr.drewN a) 22 5 9 Try.underlying22 Try.underlying5 Try.underlying9 wr.heap.size Aj s'.length cj s' hRjq
              generalize strOfNums s' = T at *
              generalize s'.length = ls at *
              clear hR8q hRjq hc8 hcell0 hR8 hRj hL8 hLj
              go_upto_region 25 with (fail)
              go_quiet (fail)
              go_wp2_with fail
              go_roundw
              case rel => exact ⟨m + 1, by omega, by go_num, below_drewN hBq _⟩
              case measure => simp [intOf]; omega
            · obtain rfl : m = i := by omega
              go_wp2_with fail
              go_ret
              exact ⟨rfl, hBw6.trans (hBq.mono (Nat.le_trans h01 (Nat.le_trans hB16.size (Nat.le_refl _))))⟩
end Go.Proofs.Ytcjaffdjhbhhaaa.frameLaw
