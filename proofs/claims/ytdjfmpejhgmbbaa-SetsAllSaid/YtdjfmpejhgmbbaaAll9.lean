/- What sets of nodes are, and what is told of them: as the document's answer (antipodelaw9.SetsAll). -/
import Derived.Test.YtdjfmpejhgmbbaaBack9
namespace Go.Proofs.Ytdjfmpejhgmbbaa.law9
open Go Go.RowKit Go.Proofs.Ytdjfmpejhgmbbaa.kit Go.Proofs.Ytdjfmpejhgmbbaa.nums Go.Proofs.Ytdjfmpejhgmbbaa.se Go.Proofs.Ytdjfmpejhgmbbaa.ref9 Go.Proofs.Ytdjfmpejhgmbbaa.seti
set_option linter.unusedVariables false

theorem own_blk {w : World} {b : Nat} {A : Option Addr} {c : Nat} {l : List Int} (h : OwnV 3 w b (.slice A l.length c) (i64s l)) (hl : 0 < l.length) :
    ∃ g cur, A = some ⟨g, 0, none⟩ ∧ b ≤ g ∧ Blk 3 w g cur ∧ ∀ i, i < l.length → cur[i]? = (i64s l)[i]? := by
  obtain ⟨_, h | ⟨g, cap, cur, e, hb, hg, h1, h2, h3, h4⟩⟩ := h
  · obtain ⟨_, h⟩ := h
    rw [i64s_length] at h
    omega
  · injection e with e1 _ _
    subst e1
    rw [i64s_length] at h4
    refine ⟨g, cur.toList, rfl, hb, by simpa [Blk] using hg, fun i hi => ?_⟩
    rw [← h4, List.getElem?_take_of_lt (by omega)]
theorem i64s_at {l : List Int} {j : Nat} (hj : j < l.length) : (i64s l)[j]? = some (.int .i64 l[j]) := by simp [i64s, hj]
set_option maxHeartbeats 4000000 in
theorem all_nat (A : Option Addr) (k c : Nat) (l : List Int) (s : Nat) (n : Int) (w : World) (hR : RdV w w.heap.size A k (i64s l)) (hI : Ints l) (hs : s < 65536)
    (n0 : -9223372036854775808 ≤ n) (n1 : n ≤ 9223372036854775807) :
    Calls Try.prog 3 #[.slice A k c, .int .u16 (s : Int), .int .i64 n] w fun e w' => e = .returned (.bool true) ∧ Below w.heap.size w w' := by
  have CB := Lib.hid begun_any
  have C1 := Lib.hid (fun (hk : k ≤ 30) w b (h : RdV w b A k (i64s l)) => seti.of_any A k c l w b h hI (by omega))
  have D1 := Lib.hid (fun (hk : k ≤ 30) w b (h : RdV w b A k (i64s l)) => ref9.of_any A k c l w b h hI (by omega))
  have C2 := Lib.hid (fun w => seti.list_any s w hs)
  have D2 := Lib.hid (fun w => ref9.list_any s w hs)
  have C3 := Lib.hid (fun w => seti.count_any s w hs)
  have C4 := Lib.hid (fun w => seti.has_any s n w hs n0 n1)
  have D4 := Lib.hid (fun w => ref9.has_any s n w hs n0 n1)
  have C5 := Lib.hid (fun w => seti.with_any s n w hs n0 n1)
  have D5 := Lib.hid (fun w => ref9.with_any s n w hs n0 n1)
  have C6 := Lib.hid (fun w => seti.less_any s n w hs n0 n1)
  have D6 := Lib.hid (fun w => ref9.less_any s n w hs n0 n1)
  have C7 := Lib.hid (fun w => seti.may_any s w hs)
  have D7 := Lib.hid (fun w => ref9.may_any s w hs)
  have HR := Lib.hid hR
  have hl := list_len s
  generalize ofF 0 l = o at *
  generalize listF s = m at *
  generalize hasF s n = y at *
  generalize withF s n = v at *
  generalize lessF s n = u at *
  generalize mayF s = x at *
  clear hR
  unfold IsIs at C2 D2
  by_cases hlong : 30 < k
  · go_enter Try.func3, Try.ntmps3
    go_wp2_with fail
    refine (CB.out _).mono ?_
    rintro e w1 ⟨rfl, hB⟩
    go_wp2_with fail
    go_ret
    exact ⟨rfl, hB⟩
  have hov : ∃ z e, ofV o = .tuple #[.int .u16 z, .int .i64 e] := by
    cases o
    · exact ⟨_, _, rfl⟩
    · exact ⟨_, _, rfl⟩
  obtain ⟨z, er, hov⟩ := hov
  have C1 := Lib.hid (C1.out (by omega))
  have D1 := Lib.hid (D1.out (by omega))
  rw [hov] at C1 D1
  clear hov
  go_enter Try.func3, Try.ntmps3
  go_wp2_with fail
  refine (CB.out _).mono ?_
  rintro e w1 ⟨rfl, hB⟩
  have E1 := Lib.hid (C1.out _ _ (HR.out.below hB))
  go_wp2_with fail
  refine E1.out.mono ?_
  rintro e w2 ⟨rfl, hB2⟩
  have hB := hB.trans (hB2.mono hB.size)
  have E2 := Lib.hid (D1.out _ _ (HR.out.below hB))
  have hs02 := hB.size
  clear hB2 E1 C1 D1 CB HR
  go_wp2_with fail
  refine E2.out.mono ?_
  rintro e w2' ⟨rfl, rfl⟩
  clear E2
  go_wp2_with fail
  refine (C2.out _).mono ?_
  rintro e w3 ⟨Aa, ca, rfl, hOa, hB2⟩
  have hB := hB.trans (hB2.mono hB.size)
  clear hB2
  go_wp2_with fail
  refine (D2.out _).mono ?_
  rintro e w4 ⟨Ab, cb, rfl, hOb, hB2⟩
  have hB := hB.trans (hB2.mono hB.size)
  have HA := Lib.hid (fun h => own_blk hOa h)
  have HBk := Lib.hid (fun h => own_blk hOb h)
  have HB34 := Lib.hid hB2
  have hT : Below w4.heap.size w4 w4 := Below.refl _ _
  clear hB2 hOa hOb C2 D2
  obtain ⟨K, hK⟩ : ∃ K, m.length = K := ⟨_, rfl⟩
  rw [hK] at C3 hl HA HBk ⊢
  go_wp2_with fail
  refine (C3.out _).mono ?_
  rintro e w5 ⟨rfl, hB2⟩
  have hT := hT.trans (hB2.mono hT.size)
  clear hB2 C3
  go_wp2_with fail
  refine (C4.out _).mono ?_
  rintro e w6 ⟨rfl, hB2⟩
  have hT := hT.trans (hB2.mono hT.size)
  clear hB2 C4
  go_wp2_with fail
  refine (D4.out _).mono ?_
  rintro e w6' ⟨rfl, rfl⟩
  clear D4
  go_wp2_with fail
  refine (C5.out _).mono ?_
  rintro e w7 ⟨rfl, hB2⟩
  have hT := hT.trans (hB2.mono hT.size)
  clear hB2 C5
  go_wp2_with fail
  refine (D5.out _).mono ?_
  rintro e w7' ⟨rfl, rfl⟩
  clear D5
  go_wp2_with fail
  refine (C6.out _).mono ?_
  rintro e w8 ⟨rfl, hB2⟩
  have hT := hT.trans (hB2.mono hT.size)
  clear hB2 C6
  go_wp2_with fail
  refine (D6.out _).mono ?_
  rintro e w8' ⟨rfl, rfl⟩
  clear D6
  go_wp2_with fail
  refine (C7.out _).mono ?_
  rintro e w9 ⟨rfl, hB2⟩
  have hT := hT.trans (hB2.mono hT.size)
  clear hB2 C7
  go_wp2_with fail
  refine (D7.out _).mono ?_
  rintro e w10 ⟨rfl, hB2⟩
  have hT := hT.trans (hB2.mono hT.size)
  clear hB2 D7
  have hB := hB.trans (hT.mono hB.size)
  by_cases hK0 : K = 0
  · subst hK0
    go_wp2_with fail
    go_loopw [13] (fun iv wr => iv = .int .i64 0 ∧ Below w.heap.size w wr) (fun _ _ => 0)
    case atStart => exact ⟨rfl, hB⟩
    case round =>
      obtain ⟨rfl, hBr⟩ := hrel
      go_wp2_with fail
      go_ret
      exact ⟨rfl, hBr⟩
  obtain ⟨g, cur, rfl, hg, kg, hcg⟩ := HA.out (by omega)
  obtain ⟨g2, cur2, rfl, hg2, kg2, hcg2⟩ := HBk.out (by omega)
  have hgl := kg.lt
  have hne : g ≠ g2 := by omega
  have hs34 := HB34.out.size
  have kg := (kg.below HB34.out hgl).below hT (by omega)
  have kg2 := kg2.below hT kg2.lt
  have hgw : w.heap.size ≤ g := by omega
  clear HA HBk HB34 hT
  have HM := Lib.hid (fun j (hj : j < K) => i64s_at (l := m) (j := j) (by omega))
  have HC2 := Lib.hid hcg2
  have HC1 := Lib.hid hcg
  clear hcg hcg2
  go_wp2_with fail
  go_loopw [13] (fun iv wr => ∃ (j : Nat) (cr : List Value), j ≤ K ∧ iv = .int .i64 j ∧ Blk 3 wr g cr ∧ Hid (∀ i, j ≤ i → i < K → cr[i]? = (i64s m)[i]?) ∧ Blk 3 wr g2 cur2 ∧ Below w.heap.size w wr) (fun iv _ => K - (intOf iv).toNat)
  case atStart => exact ⟨0, cur, by omega, rfl, kg, fun i _ hi => HC1.out i hi, kg2, hB⟩
  case round =>
    obtain ⟨j, cr, hj, rfl, hk1, hcr, hk2, hBr⟩ := hrel
    by_cases hlt : j < K
    · have e1 := hcr.out j (Nat.le_refl _) hlt
      have e2 := HC2.out j hlt
      have c1 := hk1.cell j
      have c2 := hk2.cell j
      rw [e1, HM.out j hlt] at c1
      rw [e2, HM.out j hlt] at c2
      generalize m[j] = q at *
      have df := hk1.frozen j
      clear e1 e2
      go_wp2_with fail
      go_quiet (fail)
      have k1 : Blk 3 (wr.drewN nq) g cr := hk1.below (below_drewN (Below.refl _ _) _) hk1.lt
      have k2 : Blk 3 (wr.drewN nq) g2 cur2 := hk2.below (below_drewN (Below.refl _ _) _) hk2.lt
      have hBd : Below w.heap.size w (wr.drewN nq) := below_drewN hBr _
      clear c1 c2 df hk1 hk2 hBr
      generalize wr.drewN nq = z at *
      have c1 := k1.cell j
      have df := k1.frozen j
      rw [hcr.out j (Nat.le_refl _) hlt] at c1
      rw [HM.out j hlt] at c1
      have k3 := k1.set_ j (.int .i64 0)
      have k4 := k2.far (p := ⟨g, j, none⟩) (Ne.symm hne) (.int .i64 0)
      have hB3 := hBd.setCell (p := ⟨g, j, none⟩) hgw (.int .i64 0)
      go_wp2_with fail
      go_roundw
      case rel => exact ⟨j + 1, _, by omega, by go_num, k3, fun i h1 h2 => by rw [List.getElem?_set_ne (by omega)]; exact hcr.out i (by omega) h2, k4, hB3⟩
      case measure => simp [intOf]; omega
    · obtain rfl : j = K := by omega
      go_wp2_with fail
      go_ret
      exact ⟨rfl, hBr⟩
theorem i64_wf {n : Int} (h : (Lit.int .i64 n).wf = true) : -9223372036854775808 ≤ n ∧ n ≤ 9223372036854775807 := by simpa [Lit.wf, IntKind.min, IntKind.max, IntKind.signed, IntKind.bits] using h
theorem u16_wf {n : Int} (h : (Lit.int .u16 n).wf = true) : ∃ s : Nat, n = (s : Int) ∧ s < 65536 := by
  have b : 0 ≤ n ∧ n ≤ 65535 := by simpa [Lit.wf, IntKind.min, IntKind.max, IntKind.signed, IntKind.bits] using h
  exact ⟨n.toNat, by omega, by omega⟩
theorem all_walk (A : Option Addr) (k c : Nat) (l : List Int) (s n : Int) (w : World) (hR : RdV w w.heap.size A k (l.map (Value.int .i64))) (hI : ∀ z ∈ l, -9223372036854775808 ≤ z ∧ z ≤ 9223372036854775807) (hc : k ≤ c) (hm : c ≤ maxLen)
    (w1 : (Lit.int .u16 s).wf = true) (w2 : (Lit.int .i64 n).wf = true) :
    Calls Try.prog 3 #[.slice A k c, .int .u16 s, .int .i64 n] w fun e w' => e = .returned (.bool true) ∧ Below w.heap.size w w' := by
  obtain ⟨s, rfl, hs⟩ := u16_wf w1
  exact all_nat A k c l s n w hR hI hs (i64_wf w2).1 (i64_wf w2).2
theorem back_walk (s n m : Int) (w : World) (w0 : (Lit.int .u16 s).wf = true) (w1 : (Lit.int .i64 n).wf = true) (w2 : (Lit.int .i64 m).wf = true) :
    Calls Try.prog 4 #[.int .u16 s, .int .i64 n, .int .i64 m] w fun e w' => e = .returned (.bool true) ∧ Below w.heap.size w w' := by
  obtain ⟨s, rfl, hs⟩ := u16_wf w0
  exact back_nat s n m w hs (i64_wf w1).1 (i64_wf w1).2 (i64_wf w2).1 (i64_wf w2).2
end Go.Proofs.Ytdjfmpejhgmbbaa.law9
