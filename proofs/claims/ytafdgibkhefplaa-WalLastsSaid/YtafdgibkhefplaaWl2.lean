/- What the program's own wal.whole comes to: the bytes of a whole file, or too many. Conditions: those that each theorem names. -/
import Derived.Test.YtafdgibkhefplaaWl
namespace Go.Proofs.Ytafdgibkhefplaa.wal
open Go.RowKit Go.Proofs.Ytafdgibkhefplaa.kit Go.Proofs.Ytafdgibkhefplaa.nums Go.Proofs.Ytafdgibkhefplaa.ds Go.Proofs.Ytafdgibkhefplaa.disk Go.Proofs.Ytafdgibkhefplaa.ws Go.Proofs.Ytafdgibkhefplaa.rec_ Go.Proofs.Ytafdgibkhefplaa.bytes
set_option linter.unusedVariables false

theorem pre_more (g : Int) (L : List (List Int)) (j : Nat) (r : List Int) (h : L[j]? = some r) : (recB (71 :: beB g 8) ++ ((L.take j).map recR).flatten) ++ recB (82 :: r) = recB (71 :: beB g 8) ++ ((L.take (j + 1)).map recR).flatten := by
  rw [List.take_add_one, h]
  simp [recR]
theorem flat_take_le (L : List (List Int)) (j : Nat) : (L.take j).length ≤ L.length ∧ (L.take j).flatten.length ≤ L.flatten.length := by
  refine ⟨by rw [List.length_take]; omega, ?_⟩
  have := congrArg List.length (congrArg List.flatten (List.take_append_drop j L))
  rw [List.flatten_append, List.length_append] at this
  omega
theorem pre_len (g : Int) (L : List (List Int)) (j : Nat) : (recB (71 :: beB g 8) ++ ((L.take j).map recR).flatten).length ≤ 17 + 9 * L.length + L.flatten.length := by
  rw [List.length_append, recB_length, flat_len, List.length_cons, beB_length]
  have := flat_take_le L j
  omega
/-- What whole writes: the file, or the beginning of one that is greater than any file may be. -/
def Whole (g : Int) (L : List (List Int)) (B : List Int) : Prop := Byt B ∧ B.length ≤ 1000000026 ∧ (B = rwB g L ∨ 4194304 < B.length ∧ 4194304 < (rwB g L).length)
theorem whole_pre {g : Int} {L : List (List Int)} {j : Nat} (hL : ∀ r ∈ L, Byt r) (hsum : 9 * L.length + L.flatten.length ≤ 1000000000) (h : L.take j = L ∨ 4194304 < (recB (71 :: beB g 8) ++ ((L.take j).map recR).flatten).length) : Whole g L ((recB (71 :: beB g 8) ++ ((L.take j).map recR).flatten) ++ recB [69]) := by
  have h1 := pre_len g L j
  have h2 : (recB ([69] : List Int)).length = 9 := by rw [recB_length]; rfl
  refine ⟨((recB_byt ((Byt.one (by decide) (by decide) : Byt [71]).append (beB_byt _ _))).append (fun x hx => ?_)).append (recB_byt (Byt.one (by decide) (by decide))), by rw [List.length_append, h2]; omega, ?_⟩
  · obtain ⟨s, hs, hx⟩ := List.mem_flatten.1 hx
    obtain ⟨r, hr, rfl⟩ := List.mem_map.1 hs
    exact recR_byt (hL r (List.mem_of_mem_take hr)) x hx
  rcases h with h | h
  · left; rw [h]; unfold rwB; rw [List.append_assoc]
  · right
    refine ⟨by rw [List.length_append]; omega, ?_⟩
    rw [rwB_len]
    rw [List.length_append, recB_length, flat_len, List.length_cons, beB_length] at h
    have := flat_take_le L j
    omega
set_option maxRecDepth 100000 in
set_option maxHeartbeats 1000000 in
theorem whole_any (G : Int) (A : Option Addr) (n c : Nat) (L : List (List Int)) (w : World) (hR : RdS w w.heap.size A n L) (hY : ∀ l ∈ L, Byt l) (hr : ∀ r ∈ L, r.length ≤ 1048575) (hg0 : 0 ≤ G) (hg1 : G ≤ 18446744073709551615) (hsum : 9 * n + L.flatten.length ≤ 1000000000) :
    Calls Try.prog 54 #[.int .u64 G, .slice A n c] w fun e w' => ∃ A' m c' B, e = .returned (.slice A' m c') ∧ B.length = m ∧ Own 5 w' w.heap.size (.slice A' m c') B ∧ Below w.heap.size w w' ∧ Whole G L B := by
  have HL := Lib.hid hR.len
  have HR := Lib.hid hR
  have hln := hR.len
  have HS := Lib.hid hr
  have HY := Lib.hid hY
  have hYG : Byt (71 :: beB G 8) := (Byt.one (by decide) (by decide) : Byt [71]).append (beB_byt _ _)
  have HW := Lib.hid (fun j => whole_pre (g := G) (j := j) hY (by omega : 9 * L.length + L.flatten.length ≤ 1000000000))
  have HPL := Lib.hid (fun j => pre_len G L j)
  have HMR := Lib.hid (fun j r h => pre_more G L j r h)
  have C := Lib.hid (put_ok none 0 0 [] G 8 w (Rd.nil _ _ _) (by omega) hg0 hg1 (by omega) (by omega) (by
    have : G / 2 ^ (8 * 8) = 0 := by simp only [Nat.reduceMul, Int.reducePow]; omega
    rw [this]; rfl))
  clear hR hr hY
  go_enter Try.func54, Try.ntmps54
  go_wp2_with fail
  refine C.out.mono ?_
  clear C
  rintro e w1 ⟨A1, c1, rfl, hl1, hO1, hB1⟩
  rw [List.nil_append, Nat.zero_add] at hl1 hO1
  rw [Nat.zero_add]
  have C := Lib.hid (put_any w1.heap.size none 0 0 [] 71 A1 8 c1 (beB G 8) w1 (Own.nil _ _ _) rfl (Nat.le_refl _) (hO1.rd hl1) hYG (by omega) (by omega))
  clear hO1
  go_wp2_with fail
  refine C.out.mono ?_
  clear C
  rintro e w2 ⟨A2, c2, rfl, hl2, hO2, hB2⟩
  have HB2 := Lib.hid (hB1.trans (hB2.mono hB1.size))
  have hO2' : Own 5 w2 w.heap.size (.slice A2 17 c2) (recB (71 :: beB G 8) ++ ((L.take 0).map recR).flatten) := by
    simpa using hO2.more hB1.size
  have hl2' : (recB (71 :: beB G 8) ++ ((L.take 0).map recR).flatten).length = 17 := by simpa using hl2
  clear hO2 hl2 hB2 hB1
  go_wp2_with fail
  go_loopw [7, 19] (fun s i wr => ∃ (j : Nat) (Ab : Option Addr) (nb cb : Nat), j ≤ n ∧ i = .int .i64 j ∧ s = .slice Ab nb cb ∧ Hid ((recB (71 :: beB G 8) ++ ((L.take j).map recR).flatten).length = nb) ∧ Own 5 wr w.heap.size (.slice Ab nb cb) (recB (71 :: beB G 8) ++ ((L.take j).map recR).flatten) ∧ Below w.heap.size w wr) (fun _ i _ => n - (intOf i).toNat)
  case atStart => exact ⟨0, _, 17, _, by omega, rfl, rfl, hl2', hO2', HB2.out⟩
  case round =>
    obtain ⟨j, Ab, nb, cb, hj, rfl, rfl, hnb, hO, hB⟩ := hrel
    clear hO2' hl2' HB2
    have hnb2 : nb ≤ 1000000017 := by have := HPL.out j; have := hnb.out; omega
    have hend : (L.take j = L ∨ 4194304 < nb) → Hid (Whole G L ((recB (71 :: beB G 8) ++ ((L.take j).map recR).flatten) ++ recB [69])) := fun h => HW.out j (by rw [hnb.out]; exact h)
    by_cases hlt : j < n
    · obtain ⟨b, o, Ar, cr, r, rfl, hr, hcell, hr1, hr2, hRr⟩ := (HR.out.on hB hB.size).at_ hlt
      have hrl := HS.out r (List.mem_of_getElem? hr)
      have i0 : (0 : Int) ≤ j ∧ (j : Int) < n := by omega
      by_cases hbig : 4194304 < nb
      · have HE := hend (.inr hbig)
        have C := Lib.hid (put_any w.heap.size Ab nb cb _ 69 none 0 0 [] wr hO hnb.out hB.size (Rd.nil _ _ _) (Byt.one (by decide) (by decide)) (by omega) (by omega))
        clear hO hend hr hRr
        go_wp2_with fail
        refine C.out.mono ?_
        clear C
        rintro e w3 ⟨A3, c3, rfl, hl3, hO3, hB3⟩
        go_wp2_with fail
        go_ret
        exact ⟨A3, _, c3, _, rfl, hl3, hO3, hB.trans hB3, HE.out⟩
      · have hYr : Byt (82 :: r) := (Byt.one (by decide) (by decide) : Byt [82]).append (HY.out r (List.mem_of_getElem? hr))
        have C := Lib.hid (put_any w.heap.size Ab nb cb _ 82 Ar r.length cr r wr hO hnb.out hB.size hRr hYr (by omega) (by omega))
        rw [HMR.out j r hr] at C
        clear hO hend hr hRr
        go_wp2_with fail
        refine C.out.mono ?_
        clear C
        rintro e w3 ⟨A3, c3, rfl, hl3, hO3, hB3⟩
        go_wp2_with fail
        go_roundw
        case rel => exact ⟨j + 1, A3, _, c3, by omega, by go_num, rfl, hl3, hO3, hB.trans hB3⟩
        case measure => simp [intOf]; omega
    · obtain rfl : j = n := by omega
      have HE := hend (.inl (by rw [List.take_of_length_le]; omega))
      have C := Lib.hid (put_any w.heap.size Ab nb cb _ 69 none 0 0 [] wr hO hnb.out hB.size (Rd.nil _ _ _) (Byt.one (by decide) (by decide)) (by omega) (by omega))
      clear hO hend
      go_wp2_with fail
      refine C.out.mono ?_
      clear C
      rintro e w3 ⟨A3, c3, rfl, hl3, hO3, hB3⟩
      go_wp2_with fail
      go_ret
      exact ⟨A3, _, c3, _, rfl, hl3, hO3, hB.trans hB3, HE.out⟩
end Go.Proofs.Ytafdgibkhefplaa.wal
