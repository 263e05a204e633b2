/- The statements' own whole: a whole file by hand. Conditions: what the slices read as. -/
import Derived.Test.YtafdgibkhefplaaRef5c
import Derived.Test.YtafdgibkhefplaaJoin0
import Derived.Test.YtafdgibkhefplaaKitS
import Derived.Lib.SmallJoins
namespace Go.Proofs.Ytafdgibkhefplaa.law5
open Go.RowKit Go.Proofs.Ytafdgibkhefplaa.kit Go.Proofs.Ytafdgibkhefplaa.nums Go.Proofs.Ytafdgibkhefplaa.ds Go.Proofs.Ytafdgibkhefplaa.ws Go.Proofs.Ytafdgibkhefplaa.rec_ Go.Proofs.Ytafdgibkhefplaa.ref5 Go.Proofs.Ytafdgibkhefplaa.bytes
set_option linter.unusedVariables false

/-- 'append(s, xs...)' where nothing is appended. -/
theorem wpList_append_empty {P : Program} {w : World} {ops : Array Oper} {rest : List Oper} {o : Oper} {a : Act} {Q : Exit → Act → World → Prop} (hgd : o.guard = none) (s x : Operand) (t : TypeId)
    (ho : o.op = .call { callee := .builtin .append, args := #[s, x], argTypes := #[t, t] }) (e : TypeId) (ht : P.underlying t = some (.slice e)) (i : TypeInfo) (hi : P.info? e = some i)
    (A : Option Addr) (n c : Nat) (hs : a.eval s = .slice A n c) (hnc : n ≤ c) (X : Option Addr) (xc : Nat) (hx : a.eval x = .slice X 0 xc)
    (h : wpList P ops Q rest (a.put o.dst (.slice A n c)) w) : wpList P ops Q (o :: rest) a w := by
  refine wpList_plain hgd fun K hK => ?_
  have hrun : (Builtin.append_ #[t, t] o.type #[.slice A n c, .slice X 0 xc]).run P w = .ok (.slice A n c) w := by
    cases A <;> cases X <;> simp [Builtin.append_, run_underlying ht, sizeOf, typeInfo, hi, Builtin.lenOf, Builtin.firstCells, hnc, storeCells, loadCells, loadCellsFrom]
  unfold Oper.wp execOp
  simp only [ho, resolve, invoke, builtin, Sem.run_bind, Sem.run_pure, Result.andThen_ok, List.map_toArray, List.map_cons, List.map_nil, hs, hx, hrun]
  exact hK _ _ h
set_option maxRecDepth 100000 in
set_option maxHeartbeats 1000000 in
theorem whole_any (G : Int) (A : Option Addr) (n c : Nat) (L : List (List Int)) (T : Option Addr) (m ct : Nat) (t : List Int) (w : World) (hR : RdS w w.heap.size A n L) (hT : Rd w w.heap.size T m t) (hY : ∀ l ∈ L, Byt l) (hg0 : 0 ≤ G) (hg1 : G ≤ 18446744073709551615) (hn : n ≤ 1000) (hlf : L.flatten.length ≤ 100000) (hm : m ≤ 1000000) :
    Calls Try.prog 32 #[.int .u64 G, .slice A n c, .slice T m ct] w fun e w' => ∃ A' n' c', e = .returned (.slice A' n' c') ∧ (rwB G L ++ t).length = n' ∧ Own 5 w' w.heap.size (.slice A' n' c') (rwB G L ++ t) ∧ Below w.heap.size w w' := by
  have HL := Lib.hid hR.len
  have HLs := Lib.hid (show ∀ l ∈ L, l.length ≤ 100000 from fun l hl => by
    obtain ⟨a, b, e⟩ := List.append_of_mem hl
    rw [e, List.flatten_append, List.flatten_cons, List.length_append, List.length_append] at hlf
    omega)
  have HR := Lib.hid hR
  have HT := Lib.hid hT
  have hln := hR.len
  have hBx := Lib.hid (show rwB G L = (recB (71 :: beB G 8) ++ ((L.take n).map recR).flatten) ++ recB [69] by unfold rwB; rw [List.take_of_length_le (by omega), List.append_assoc])
  have hYG : Byt (71 :: beB G 8) := (Byt.one (by decide) (by decide) : Byt [71]).append (beB_byt _ _)
  clear hR hT
  go_enter Try.func32, Try.ntmps32
  have hOl : Rd (w.alloc (.cells #[.int .u8 71] 5 (1, 2))) (w.heap.size + 1) (some ⟨w.heap.size, 0, none⟩) 1 [71] := rd_lit w 5 [71] 1 (1, 2) rfl
  have hBl : Below w.heap.size w (w.alloc (.cells #[.int .u8 71] 5 (1, 2))) := (Below.refl _ _).alloc (Nat.le_refl _) _
  have hsl1 : (w.alloc (.cells #[.int .u8 71] 5 (1, 2))).heap.size = w.heap.size + 1 := by simp
  have kc := fun (w : World) (C : Array Value) (n c g : Nat) (hg : g = w.heap.size) => Joins.run_convert_bytes_const_at (P := Try.prog) w 35 5 C n c g hg Try.underlying35 Try.underlying5
  have CE := Lib.hid (fun W => eight_any G W hg0 hg1)
  go_wp2_with fail
  refine (CE.out _).mono ?_
  rintro e w4 ⟨A4, c4, rfl, hl4, hO4, hB4⟩
  have hOl4 : Rd w4 w4.heap.size (some ⟨w.heap.size, 0, none⟩) 1 [71] := (hOl.more (Nat.le_of_eq hsl1.symm)).on hB4 hB4.size
  have hs4 : w.heap.size ≤ w4.heap.size := Nat.le_trans hBl.size hB4.size
  have hR4 := hO4.rd hl4
  have HB4 := Lib.hid (hBl.trans (hB4.mono hBl.size))
  clear hOl hO4
  go_wp2_with (at_builtin; with_reducible refine wpList_append_full rfl (.tmp 12) (.tmp 14) 35 rfl 5 Try.underlying35 info5 _ 1 _ [71] rfl hOl4 _ A4 8 c4 _ rfl hR4 (by omega) (by omega) ?_)
  intro A5 c5 w5 hO5 hB5
  have hl5 : (([71] : List Int) ++ beB G 8).length = 9 := by simp [beB_length]
  have hc5 := hO5.caps hl5
  have C6 := Lib.hid (ref3.put3_any none 0 0 [] A5 9 c5 (71 :: beB G 8) w5 (Rd.nil _ _ _) (hO5.rd hl5) hYG (by omega) (by omega) hc5.1 hc5.2)
  have HB5 := Lib.hid (HB4.out.trans (hB5.mono hs4))
  clear hOl4 hO5 hB4 hB5 hl4 hR4 hsl1
  go_wp2_with fail
  refine C6.out.mono ?_
  rintro e w6 ⟨A6, c6, rfl, hl6, hO6, hB6⟩
  rw [List.nil_append] at hl6 hO6
  have HB6 := Lib.hid (HB5.out.trans (hB6.mono HB5.out.size))
  have hO6' : Own 5 w6 w.heap.size (.slice A6 17 c6) (recB (71 :: beB G 8) ++ ((L.take 0).map recR).flatten) := by
    simpa using hO6.more HB5.out.size
  have hl6' : (recB (71 :: beB G 8) ++ ((L.take 0).map recR).flatten).length = 17 := by simpa using hl6
  have HPL := Lib.hid (fun j => part_len G L j)
  have HMR := Lib.hid (fun j r h => rwB_more G L j r h)
  clear C6 hO6 hl6 CE kc
  go_wp2_with fail
  go_loopw [7, 9] (fun s i wr => ∃ (j : Nat) (Ab : Option Addr) (nb cb : Nat), j ≤ n ∧ i = .int .i64 j ∧ s = .slice Ab nb cb ∧ Hid ((recB (71 :: beB G 8) ++ ((L.take j).map recR).flatten).length = nb) ∧ Own 5 wr w.heap.size (.slice Ab nb cb) (recB (71 :: beB G 8) ++ ((L.take j).map recR).flatten) ∧ Below w.heap.size w wr) (fun _ i _ => n - (intOf i).toNat)
  case atStart => exact ⟨0, _, 17, _, by omega, rfl, rfl, hl6', hO6', HB6.out⟩
  case round =>
    obtain ⟨j, Ab, nb, cb, hj, rfl, rfl, hnb, hO, hB⟩ := hrel
    have hnb2 : nb ≤ 1000000 := by have := HPL.out j; have := hnb.out; omega
    have hcap := hO.caps hnb.out
    have hRb := hO.rd hnb.out
    have kc := fun (w : World) (C : Array Value) (n c g : Nat) (hg : g = w.heap.size) => Joins.run_convert_bytes_const_at (P := Try.prog) w 35 5 C n c g hg Try.underlying35 Try.underlying5
    by_cases hlt : j < n
    · have hBa : Below wr.heap.size wr (wr.alloc (.cells #[.int .u8 82] 5 (1, 2))) := (Below.refl _ _).alloc (Nat.le_refl _) _
      have hOa : Rd (wr.alloc (.cells #[.int .u8 82] 5 (1, 2))) (wr.heap.size + 1) (some ⟨wr.heap.size, 0, none⟩) 1 [82] := rd_lit wr 5 [82] 1 (1, 2) rfl
      have hsa : (wr.alloc (.cells #[.int .u8 82] 5 (1, 2))).heap.size = wr.heap.size + 1 := by simp
      obtain ⟨b, o, Ar, cr, r, rfl, hr, hcell, hr1, hr2, hRr⟩ := (HR.out.on (hB.trans (hBa.mono hB.size)) (show w.heap.size ≤ (wr.alloc (.cells #[.int .u8 82] 5 (1, 2))).heap.size by have := hB.size; omega)).at_ hlt
      have hrl := HLs.out r (List.mem_of_getElem? hr)
      have hYr : Byt (82 :: r) := (Byt.one (by decide) (by decide) : Byt [82]).append (hY r (List.mem_of_getElem? hr))
      obtain ⟨mr, hmr⟩ : ∃ mr, r.length = mr := ⟨_, rfl⟩
      rw [hmr] at hcell hRr hr1
      have i0 : (0 : Int) ≤ j ∧ (j : Int) < n := by omega
      have HRr := Lib.hid hr
      clear hr
      obtain ⟨i5, hi5, _, _, _⟩ := info_parts info5
      rcases Nat.eq_zero_or_pos mr with h0 | h0
      · subst h0
        obtain rfl : r = [] := List.eq_nil_of_length_eq_zero hmr
        go_wp2_with (at_builtin; with_reducible refine wpList_append_empty rfl (.tmp 28) (.tmp 32) 35 rfl 5 Try.underlying35 i5 hi5 _ 1 1 rfl (Nat.le_refl _) _ cr rfl ?_)
        have C6 := Lib.hid (ref3.put3_any Ab nb cb _ (some ⟨wr.heap.size, 0, none⟩) 1 1 [82] (wr.alloc (.cells #[.int .u8 82] 5 (1, 2))) (hRb.on hBa hBa.size) (hOa.more (Nat.le_of_eq hsa.symm)) hYr (by omega) (by omega) (by omega) (by unfold maxLen; omega))
        clear hRr hRb hOa
        refine C6.out.mono ?_
        rintro e y2 ⟨A3, c3, rfl, hl3, hO3, hB3⟩
        rw [HMR.out j [] HRr.out] at hl3 hO3
        clear C6
        go_wp2_with fail
        go_roundw
        case rel => exact ⟨j + 1, A3, _, c3, by omega, by go_num, rfl, hl3, hO3.more (Nat.le_trans hB.size hBa.size), hB.trans ((hBa.trans (hB3.mono hBa.size)).mono hB.size)⟩
        case measure => simp [intOf]; omega
      · have hmb : mr ≤ 100000 := by omega
        go_wp2_with (at_builtin; generalize wr.alloc (.cells #[.int .u8 82] 5 (1, 2)) = w4 at *; with_reducible refine wpList_append_full rfl (.tmp 28) (.tmp 32) 35 rfl 5 Try.underlying35 info5 _ 1 _ [82] rfl hOa _ Ar mr cr r rfl hRr h0 (by omega) ?_)
        intro A2 c2 y1 hO2 hB2
        have hl2 : (([82] : List Int) ++ r).length = 1 + mr := by rw [List.length_append, hmr]; rfl
        have hc2 := hO2.caps hl2
        have hB4' : Below wr.heap.size wr y1 := hBa.trans (hB2.mono (by omega))
        have C6 := Lib.hid (ref3.put3_any Ab nb cb _ A2 (1 + mr) c2 (82 :: r) y1 (hRb.on hB4' hB4'.size) (hO2.rd hl2) hYr (by omega) (by omega) hc2.1 hc2.2)
        clear hRr hRb hOa hO2
        go_wp2_with fail
        refine C6.out.mono ?_
        rintro e y2 ⟨A3, c3, rfl, hl3, hO3, hB3⟩
        rw [HMR.out j r HRr.out] at hl3 hO3
        clear C6
        go_wp2_with fail
        go_roundw
        case rel => exact ⟨j + 1, A3, _, c3, by omega, by go_num, rfl, hl3, hO3.more (Nat.le_trans hB.size hB4'.size), hB.trans ((hB4'.trans (hB3.mono hB4'.size)).mono hB.size)⟩
        case measure => simp [intOf]; omega
    · obtain rfl : j = n := by omega
      have hO7 : Rd (wr.alloc (.cells #[.int .u8 69] 5 (1, 2))) (wr.heap.size + 1) (some ⟨wr.heap.size, 0, none⟩) 1 [69] := rd_lit wr 5 [69] 1 (1, 2) rfl
      have hB7 : Below wr.heap.size wr (wr.alloc (.cells #[.int .u8 69] 5 (1, 2))) := (Below.refl _ _).alloc (Nat.le_refl _) _
      have hs7 : (wr.alloc (.cells #[.int .u8 69] 5 (1, 2))).heap.size = wr.heap.size + 1 := by simp
      have C6' := ref3.put3_any Ab nb cb _ (some ⟨wr.heap.size, 0, none⟩) 1 1 [69] (wr.alloc (.cells #[.int .u8 69] 5 (1, 2))) (hRb.on hB7 hB7.size) (hO7.more (Nat.le_of_eq hs7.symm)) (Byt.one (by decide) (by decide)) (by omega) (by omega) (by omega) (by unfold maxLen; omega)
      rw [← hBx.out] at C6'
      have C6'' := Lib.hid C6'
      clear C6' hO7 hRb
      go_wp2_with fail
      refine C6''.out.mono ?_
      rintro e y3 ⟨A3, c3, rfl, hl3, hO3, hB3⟩
      clear C6'' kc
      have hB17 := hB7.trans (hB3.mono hB7.size)
      have hB37 : Below w.heap.size w y3 := hB.trans (hB17.mono hB.size)
      have hsw := hB.size
      have hs73 := hB7.size
      have hOz := hO3.more (show w.heap.size ≤ (wr.alloc (.cells #[.int .u8 69] 5 (1, 2))).heap.size by omega)
      have hTz := HT.out.below hB37
      have hsz := hB37.size
      clear hO3 hO
      go_wp2_with (at_builtin; with_reducible refine wpList_append_rd rfl (.tmp 44) (.tmp 45) 35 rfl w.heap.size 5 Try.underlying35 info5 _ _ c3 _ hl3 rfl hOz _ _ m _ _ rfl hTz ?hd ?he ?_)
      case hd => omega
      case he => omega
      intro A8 c8 w8 hO8 hB8 hG8
      go_wp2_with fail
      go_ret
      exact ⟨A8, _, c8, rfl, by rw [List.length_append, hl3, HT.out.len], hO8, hB37.trans hB8⟩
end Go.Proofs.Ytafdgibkhefplaa.law5
