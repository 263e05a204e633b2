/- The statements of sum answer true: SumAll, SumCuts, SumBursts, SumLines, SumOnward. Conditions: what the slices read as. -/
import Derived.Test.YtgejdnkfbleakaaSumW
import Derived.Test.YtgejdnkfbleakaaLaw0
import Derived.Deep.Cut
import Derived.Lib.SmallJoins
import Derived.StillTailTactics
import Derived.Test.YtgejdnkfbleakaaBits32
import Derived.Test.YtgejdnkfbleakaaFlow
namespace Go.Proofs.Ytgejdnkfbleakaa.sumLaw
open Go.RowKit Go.Proofs.Ytgejdnkfbleakaa.kit Go.Proofs.Ytgejdnkfbleakaa.nums Go.Proofs.Ytgejdnkfbleakaa.crc Go.Proofs.Ytgejdnkfbleakaa.bytes Go.Proofs.Ytgejdnkfbleakaa.law0
set_option linter.unusedVariables false

/-- A slice of slices that the call has laid: two, one. -/
theorem rds_one {w : World} {x : Value} {l : List Int} {E : TypeId} (hx : Sl w w.heap.size x l) : RdS (w.alloc (.cells #[x] E)) (w.heap.size + 1) (some ⟨w.heap.size, 0, none⟩) 1 [l] := by
  refine ⟨[x], RdV.one w E x, rfl, fun j y m hy hm => ?_⟩
  match j with
  | 0 => simp at hy hm; subst hy; subst hm; exact (hx.below ((Below.refl _ _).alloc (Nat.le_refl _) _)).more (by omega)
  | j + 1 => simp at hy
theorem RdV.two (w : World) (E : TypeId) (y z : Value) : RdV (w.alloc (.cells #[y, z] E)) (w.heap.size + 1) (some ⟨w.heap.size, 0, none⟩) 2 [y, z] := by
  refine ⟨rfl, fun _ => ⟨_, 0, rfl, by omega, fun j hj => ?_⟩⟩
  have hb : Blk E (w.alloc (.cells #[y, z] E)) w.heap.size [y, z] := heap_alloc_new w _
  rw [hb.cell, Nat.zero_add]
theorem rds_two {w : World} {x y : Value} {l m : List Int} {E : TypeId} (hx : Sl w w.heap.size x l) (hy : Sl w w.heap.size y m) : RdS (w.alloc (.cells #[x, y] E)) (w.heap.size + 1) (some ⟨w.heap.size, 0, none⟩) 2 [l, m] := by
  refine ⟨[x, y], RdV.two w E x y, rfl, fun j z k hz hk => ?_⟩
  match j with
  | 0 => simp at hz hk; subst hz; subst hk; exact (hx.below ((Below.refl _ _).alloc (Nat.le_refl _) _)).more (by omega)
  | 1 => simp at hz hk; subst hz; subst hk; exact (hy.below ((Below.refl _ _).alloc (Nat.le_refl _) _)).more (by omega)
  | j + 2 => simp at hz
/-- A slice of bytes that the call has laid. -/
theorem Rd.lit (w : World) (E : TypeId) (l : List Int) (n : Nat) (fr : Nat × Nat) (hn : l.length = n) : Rd (w.alloc (.cells (u8s l).toArray E fr)) (w.heap.size + 1) (some ⟨w.heap.size, 0, none⟩) n l := by
  refine ⟨hn, fun _ => ⟨_, 0, rfl, by omega, fun j hj => ?_⟩⟩
  rw [World.cell?_alloc_mark, Nat.zero_add, List.getElem?_toArray, u8s_getElem? l j (by omega)]
theorem of_begun : ofC [[49, 50, 51, 52], [53, 54, 55, 56, 57]].flatten = 3808858755 := by decide +kernel

theorem allB_one {l : List Int} (h : Byt l) (hl : l.length ≤ 1099511627776) : AllB [l] := fun x hx => by
  rw [List.mem_singleton] at hx; subst hx; exact ⟨h, hl⟩
theorem allB_two {l m : List Int} (h : Byt l) (hl : l.length ≤ 1099511627776) (k : Byt m) (hm : m.length ≤ 1099511627776) : AllB [l, m] := fun x hx => by
  simp only [List.mem_cons, List.not_mem_nil, or_false] at hx
  rcases hx with rfl | rfl
  · exact ⟨h, hl⟩
  · exact ⟨k, hm⟩
/-- Of, of slices that the call lays in a row for it. -/
theorem of_one {w : World} {x : Value} {l : List Int} (hx : Sl w w.heap.size x l) (h : Byt l) (hl : l.length ≤ 1099511627776) :
    Calls Try.prog 12 #[.slice (some ⟨w.heap.size, 0, none⟩) 1 1] (w.alloc (.cells #[x] 27)) fun e w' => e = .returned (.int .u32 ((ofC l : Nat) : Int)) ∧ Below w.heap.size w w' := by
  have := sum.of_any (some ⟨w.heap.size, 0, none⟩) 1 1 [l] (w.alloc (.cells #[x] 27)) (by simpa using rds_one (E := 27) hx) (allB_one h hl) (by omega)
  rw [show [l].flatten = l by simp] at this
  exact this.mono fun e w' ⟨h1, h2⟩ => ⟨h1, ((Below.refl _ _).alloc (Nat.le_refl _) _).trans (h2.mono (by simp))⟩
theorem of_two {w : World} {x y : Value} {l m : List Int} (hx : Sl w w.heap.size x l) (hy : Sl w w.heap.size y m) (h : Byt l) (hl : l.length ≤ 1099511627776) (k : Byt m) (hm : m.length ≤ 1099511627776) :
    Calls Try.prog 12 #[.slice (some ⟨w.heap.size, 0, none⟩) 2 2] (w.alloc (.cells #[x, y] 27)) fun e w' => e = .returned (.int .u32 ((ofC [l, m].flatten : Nat) : Int)) ∧ Below w.heap.size w w' := by
  have := sum.of_any (some ⟨w.heap.size, 0, none⟩) 2 2 [l, m] (w.alloc (.cells #[x, y] 27)) (by simpa using rds_two (E := 27) hx hy) (allB_two h hl k hm) (by omega)
  exact this.mono fun e w' ⟨h1, h2⟩ => ⟨h1, ((Below.refl _ _).alloc (Nat.le_refl _) _).trans (h2.mono (by simp))⟩
instance decByt (l : List Int) : Decidable (Byt l) := by unfold Byt; infer_instance

set_option maxHeartbeats 400000 in
theorem begun_any (w : World) :
    Calls Try.prog 8 #[] w fun e w' => e = .returned (.bool true) ∧ Below w.heap.size w w' := by
  have kc := fun (w : World) (C : Array Value) (n c g : Nat) (hg : g = w.heap.size) => Joins.run_convert_bytes_const_at (P := Try.prog) w 27 5 C n c g hg Try.underlying27 Try.underlying5
  have h1 := Rd.lit w 5 [49, 50, 51, 52] 4 (4, 5) rfl
  have h2 := Rd.lit (w.alloc (.cells (u8s [49, 50, 51, 52]).toArray 5 (4, 5))) 5 [53, 54, 55, 56, 57] 5 (5, 6) rfl
  have hb2 := ((Below.refl w.heap.size w).alloc (Nat.le_refl _) (.cells (u8s [49, 50, 51, 52]).toArray 5 (4, 5))).alloc (by simp) (.cells (u8s [53, 54, 55, 56, 57]).toArray 5 (5, 6))
  have hd := (Below.refl (w.heap.size + 1) (w.alloc (.cells (u8s [49, 50, 51, 52]).toArray 5 (4, 5)))).alloc (by simp) (.cells (u8s [53, 54, 55, 56, 57]).toArray 5 (5, 6))
  have C := of_two (w := (w.alloc (.cells (u8s [49, 50, 51, 52]).toArray 5 (4, 5))).alloc (.cells (u8s [53, 54, 55, 56, 57]).toArray 5 (5, 6))) (x := .slice (some ⟨w.heap.size, 0, none⟩) 4 4) (y := .slice (some ⟨w.heap.size + 1, 0, none⟩) 5 5) (l := [49, 50, 51, 52]) (m := [53, 54, 55, 56, 57])
    ⟨_, 4, rfl, by simp, by unfold maxLen; omega, (h1.below hd).more (by simp)⟩ ⟨_, 5, rfl, by simp, by unfold maxLen; omega, by simpa using h2⟩ (by decide) (by decide) (by decide) (by decide)
  rw [show ofC [[49, 50, 51, 52], [53, 54, 55, 56, 57]].flatten = 3808858755 from of_begun] at C
  have HC := Lib.hid C
  have HB := Lib.hid hb2
  clear h1 h2 hb2 hd C
  go_enter Try.func8, Try.ntmps8
  go_wp2_with fail
  refine Calls.mono (by simpa [u8s] using HC.out) ?_
  rintro e w2 ⟨rfl, hB⟩
  go_wp2_with fail
  go_ret
  exact ⟨rfl, HB.out.trans (hB.mono (by omega))⟩

theorem len_le_flat {L : List (List Int)} {l : List Int} (h : l ∈ L) : l.length ≤ L.flatten.length := by
  obtain ⟨a, b, rfl⟩ := List.append_of_mem h
  simp only [List.flatten_append, List.flatten_cons, List.length_append]
  omega
theorem twins_rds {w : World} {base n c : Nat} {A : Option Addr} {xs : List Value} {L : List (List Int)} (hO : OwnV 27 w base (.slice A n c) xs) (hx : xs.length = n) (hL : L.length = n) (hT : TwinsOf w base xs L) (hm : ∀ l ∈ L, l.length ≤ 1099511627776) : RdS w w.heap.size A n L := by
  obtain ⟨X', c', hv, hc1, hc2, hV⟩ := hO.slice
  rw [hx] at hv hV
  simp only [Value.slice.injEq] at hv
  obtain ⟨rfl, -, rfl⟩ := hv
  refine ⟨xs, hV, hL, fun j x l hxj hlj => ?_⟩
  obtain ⟨g, rfl, hg, _⟩ := hT j x l hxj hlj
  have := hm l (List.mem_of_getElem? hlj)
  exact ⟨_, _, rfl, by omega, by unfold maxLen; omega, hg.rd rfl hg.lt⟩
theorem own_rd {l : List Int} {A : Option Addr} {n c base : Nat} {w : World} (hO : Own 5 w base (.slice A n c) l) (hn : l.length = n) : Rd w w.heap.size A n l := by
  obtain ⟨A', c', hv, hc, _, hR⟩ := hO.slice
  simp only [Value.slice.injEq] at hv
  obtain ⟨rfl, rfl, rfl⟩ := hv
  exact hR

set_option maxHeartbeats 400000 in
theorem all_small (A : Option Addr) (n c : Nat) (L : List (List Int)) (z : Nat) (w : World) (hR : RdS w w.heap.size A n L) (hY : ∀ l ∈ L, Byt l) (hn : n ≤ 1024) (hz : z < 4294967296) :
    Calls Try.prog 3 #[.slice A n c, .int .u32 z] w fun e w' => e = .returned (.bool true) ∧ Below w.heap.size w w' := by
  have HR := Lib.hid hR
  have HY := Lib.hid hY
  clear hR hY
  go_enter Try.func3, Try.ntmps3
  go_wp2_with fail
  refine (begun_any w).mono ?_
  rintro e w1 ⟨rfl, hB1⟩
  have C : Calls Try.prog 9 #[.slice A n c, .int .i64 4096] w1 (SumR L 4096 w1) := by simpa using sum_any A n c L 4096 w1 w1.heap.size (HR.out.on hB1 hB1.size) (by omega) (by omega)
  have HC := Lib.hid C
  clear C
  go_wp2_with fail
  refine HC.out.mono ?_
  rintro e w2 ⟨r, rfl, hr, rfl⟩
  by_cases h : 4096 < r
  · go_wp2_with fail
    go_ret
    exact ⟨rfl, hB1⟩
  · have hfl := hr (by omega)
    have HA := Lib.hid (show AllB L from fun l hl => ⟨HY.out l hl, by have := len_le_flat hl; omega⟩)
    have HF := Lib.hid hfl
    have hr2 : r ≤ 4096 := by omega
    clear hr hfl HC
    go_wp2_with fail
    refine (twins_any A n c L w1 (HR.out.on hB1 hB1.size) (by omega) (fun l hl => (HA.out l hl).2)).mono ?_
    rintro e w3 ⟨T, tn, tc, xs, rfl, hxn, hLn, hTO, hTT, hTB⟩
    obtain rfl : tn = n := by rw [← hLn]; exact HR.out.len
    have hB3 := hB1.trans (hTB.mono hB1.size)
    have CJ := joined_any A tn c L w3 (HR.out.on hB3 hB3.size) (by omega) (by rw [HF.out]; omega)
    rw [HF.out] at CJ
    have HCJ := Lib.hid CJ
    clear CJ
    go_wp2_with fail
    refine HCJ.out.mono ?_
    rintro e w4 ⟨J, jc, rfl, hjl, hJO, hJB⟩
    clear HCJ
    have hB4 := hB3.trans (hJB.mono hB3.size)
    have hTO4 := hTO.below hJB
    have hTT4 := hTT.below hJB
    have hR4 := twins_rds hTO4 hxn hLn hTT4 (fun l hl => (HA.out l hl).2)
    go_wp2_with fail
    refine (sum.of_any T tn tc L w4 hR4 HA.out (by omega)).mono ?_
    rintro e w5 ⟨rfl, hB45⟩
    have hB5 := hB4.trans (hB45.mono hB4.size)
    go_wp2_with fail
    refine (ref2.of_any A tn c L w5 w5.heap.size (HR.out.on hB5 hB5.size) HA.out (by omega)).mono ?_
    rintro e w6 ⟨rfl, rfl⟩
    have hJ5 := (own_rd hJO HF.out).on hB45 hB45.size
    have HJ := Lib.hid hJ5
    go_wp2_with fail
    refine (sum.more_any z J r jc L.flatten w5 HJ.out HA.out.flat (by omega) hz).mono ?_
    rintro e w7 ⟨rfl, hB57⟩
    have hB7 := hB5.trans (hB57.mono hB5.size)
    go_wp2_with fail
    refine (ref2.more_any z J r jc L.flatten w7 w7.heap.size (HJ.out.on hB57 hB57.size) HA.out.flat (by omega) hz).mono ?_
    rintro e w8 ⟨rfl, rfl⟩
    have hB47 := hB45.trans (hB57.mono hB45.size)
    go_wp2_with fail
    refine (allkept_any T tn tc xs A c L w7 _ (hTO4.below hB47) hxn (hTT4.below hB47) (HR.out.on hB7 hB7.size) (by omega) (fun l hl => (HA.out l hl).2)).mono ?_
    rintro e w9 ⟨rfl, hB79⟩
    go_wp2_with fail
    go_ret
    exact ⟨rfl, hB7.trans (hB79.mono hB7.size)⟩

theorem all_great (A : Option Addr) (n c : Nat) (z : Nat) (w : World) (hn : 1024 < n) (hm : n ≤ 9223372036854775807) :
    Calls Try.prog 3 #[.slice A n c, .int .u32 z] w fun e w' => e = .returned (.bool true) ∧ Below w.heap.size w w' := by
  go_enter Try.func3, Try.ntmps3
  go_wp2_with fail
  refine (begun_any w).mono ?_
  rintro e w1 ⟨rfl, hB1⟩
  go_wp2_with fail
  go_ret
  exact ⟨rfl, hB1⟩
theorem all_walk (A : Option Addr) (n c : Nat) (L : List (List Int)) (z : Int) (w : World) (hR : RdS w w.heap.size A n L) (hY : ∀ l ∈ L, Byt l) (hc : n ≤ c) (hm : c ≤ maxLen) (w1 : (Lit.int .u32 z).wf = true) :
    Calls Try.prog 3 #[.slice A n c, .int .u32 z] w fun e w' => e = .returned (.bool true) ∧ Below w.heap.size w w' := by
  have b : 0 ≤ z ∧ z ≤ 4294967295 := by simpa [Lit.wf, IntKind.min, IntKind.max, IntKind.signed, IntKind.bits] using w1
  unfold maxLen at hm
  obtain ⟨k, rfl⟩ : ∃ k : Nat, z = k := ⟨z.toNat, by omega⟩
  by_cases h : 1024 < n
  · exact all_great A n c k w h (by omega)
  · exact all_small A n c L k w hR hY (by omega) (by omega)

set_option maxHeartbeats 400000 in
theorem cuts_small (A : Option Addr) (n c : Nat) (l : List Int) (S : Option Addr) (k cs : Nat) (zs : List Int) (w : World) (hR : Rd w w.heap.size A n l) (hY : Byt l) (hnc : n ≤ c) (hcm : c ≤ maxLen) (hZ : RdV w w.heap.size S k (zs.map (Value.int .i64))) (hz : ∀ z ∈ zs, -9223372036854775808 ≤ z ∧ z ≤ 9223372036854775807) (hn : n ≤ 8192) (hk : k ≤ 512) :
    Calls Try.prog 4 #[.slice A n c, .slice S k cs] w fun e w' => e = .returned (.bool true) ∧ Below w.heap.size w w' := by
  obtain rfl : n = l.length := hR.len.symm
  have HR := Lib.hid hR
  have HZ := Lib.hid hZ
  clear hR hZ
  go_enter Try.func4, Try.ntmps4
  go_wp2_with fail
  refine (begun_any w).mono ?_
  rintro e w1 ⟨rfl, hB1⟩
  have C1 := Lib.hid (cut_any A l.length c l S k cs zs w1 (HR.out.on hB1 hB1.size) hnc hcm (HZ.out.on hB1 hB1.size) hz (by omega) (by omega))
  clear HZ hz
  go_wp2_with fail
  refine C1.out.mono ?_
  rintro e w2 ⟨P, pn, pc, L, rfl, hpn, hpc, hRS, hf, hB2⟩
  clear C1
  have hB12 := hB1.trans (hB2.mono hB1.size)
  have HA := Lib.hid (show AllB L from fun x hx => by
    have h1 := len_le_flat hx
    rw [hf] at h1
    refine ⟨fun y hy => hY y ?_, by omega⟩
    rw [← hf]; exact List.mem_flatten.2 ⟨x, hx, hy⟩)
  have HF := Lib.hid hf
  have HRS := Lib.hid hRS
  have HY := Lib.hid hY
  clear hf hRS hY
  go_wp2_with fail
  refine (sum.of_any none 0 0 [] w2 (RdS.nil _ _ _) (fun x hx => by cases hx) (by omega)).mono ?_
  rintro e w3 ⟨rfl, hB3⟩
  rw [show ofC ([] : List (List Int)).flatten = 0 from moreC_nil 0]
  have hB13 := hB12.trans (hB3.mono hB12.size)
  go_wp2_with fail
  go_loopw [6, 7] (fun s i wr => ∃ j r : Nat, j ≤ pn ∧ i = .int .i64 j ∧ s = .int .u32 r ∧ r < 4294967296 ∧ Hid (moreC 0 (L.take j).flatten = r) ∧ Below w2.heap.size w2 wr) (fun _ i _ => pn - (intOf i).toNat)
  case atStart => exact ⟨0, 0, by omega, rfl, rfl, by omega, moreC_nil 0, hB3⟩
  case round =>
    obtain ⟨j, r, hj, rfl, rfl, hr, HRj, hBr⟩ := hrel
    by_cases hlt : j < pn
    · have hRw := HRS.out.on hBr hBr.size
      obtain ⟨b, o, Aj, cj, x, rfl, hLj, hx, hl1, hl2, hRx⟩ := hRw.at_ hlt
      have hxm := HA.out x (List.mem_of_getElem? hLj)
      have C := Lib.hid (sum.more_any r Aj x.length cj x wr hRx hxm.1 hxm.2 hr)
      have HN : Hid (moreC 0 (L.take (j + 1)).flatten = moreC r x) := by show _ = _; rw [flat_take hLj, moreC_append, HRj.out]
      have hr2 := moreC_lt hr hxm.1
      clear hRx hLj hRw hxm
      generalize moreC r x = r2 at *
      go_wp2_with fail
      refine C.out.mono ?_
      rintro e w4 ⟨rfl, hB4⟩
      clear C
      go_wp2_with fail
      go_roundw
      case rel => exact ⟨j + 1, r2, by omega, by go_num, rfl, hr2, HN, hBr.trans (hB4.mono hBr.size)⟩
      case measure => simp [intOf]; omega
    · obtain rfl : j = pn := by omega
      have hTake : L.take j = L := List.take_of_length_le (by rw [HRS.out.len]; exact Nat.le_refl _)
      have HV : Hid (ofC l = r) := by
        show _ = _
        have := HRj.out
        rw [hTake, HF.out] at this
        exact this
      clear HRj hTake
      have hB1r := hB12.trans (hBr.mono hB12.size)
      have C := of_one (w := wr) (x := .slice A l.length c) ⟨A, c, rfl, hnc, hcm, HR.out.on hB1r hB1r.size⟩ HY.out (by omega)
      rw [HV.out] at C
      have HC := Lib.hid C
      clear C
      go_wp2_with fail
      refine HC.out.mono ?_
      rintro e w5 ⟨rfl, hB5⟩
      clear HC
      have hB25 := hBr.trans (hB5.mono hBr.size)
      have C := sum.of_any P j pc L w5 (HRS.out.on hB25 hB25.size) HA.out (by omega)
      rw [HF.out, HV.out] at C
      have HC := Lib.hid C
      clear C
      go_wp2_with fail
      refine HC.out.mono ?_
      rintro e w6 ⟨rfl, hB6⟩
      clear HC
      go_wp2_with fail
      go_ret
      exact ⟨rfl, hB1r.trans ((hB5.trans (hB6.mono hB5.size)).mono hB1r.size)⟩
theorem cuts_great (A : Option Addr) (n c : Nat) (S : Option Addr) (k cs : Nat) (w : World) (hn : 8192 < n ∨ 512 < k) (hm : n ≤ 9223372036854775807) (hk : k ≤ 9223372036854775807) :
    Calls Try.prog 4 #[.slice A n c, .slice S k cs] w fun e w' => e = .returned (.bool true) ∧ Below w.heap.size w w' := by
  by_cases h : 8192 < n
  · go_enter Try.func4, Try.ntmps4
    go_wp2_with fail
    refine (begun_any w).mono ?_
    rintro e w1 ⟨rfl, hB1⟩
    go_wp2_with fail
    go_ret
    exact ⟨rfl, hB1⟩
  · have h2 : 512 < k := by omega
    go_enter Try.func4, Try.ntmps4
    go_wp2_with fail
    refine (begun_any w).mono ?_
    rintro e w1 ⟨rfl, hB1⟩
    go_wp2_with fail
    go_ret
    exact ⟨rfl, hB1⟩
theorem cuts_walk (A : Option Addr) (n c : Nat) (l : List Int) (S : Option Addr) (k cs : Nat) (zs : List Int) (w : World) (hR : Rd w w.heap.size A n l) (hY : Byt l) (hnc : n ≤ c) (hcm : c ≤ maxLen) (hZ : RdV w w.heap.size S k (zs.map (Value.int .i64))) (hz : ∀ z ∈ zs, -9223372036854775808 ≤ z ∧ z ≤ 9223372036854775807) (hkc : k ≤ cs) (hkm : cs ≤ maxLen) :
    Calls Try.prog 4 #[.slice A n c, .slice S k cs] w fun e w' => e = .returned (.bool true) ∧ Below w.heap.size w w' := by
  have h1 : c ≤ 9223372036854775807 := hcm
  have h2 : cs ≤ 9223372036854775807 := hkm
  by_cases h : 8192 < n ∨ 512 < k
  · exact cuts_great A n c S k cs w h (by omega) (by omega)
  · exact cuts_small A n c l S k cs zs w hR hY hnc hcm hZ hz (by omega) (by omega)

set_option maxHeartbeats 400000 in
theorem bursts_small (A : Option Addr) (n c : Nat) (l : List Int) (t : Int) (mask : Nat) (w : World) (hR : Rd w w.heap.size A n l) (hY : Byt l) (hnc : n ≤ c) (hcm : c ≤ maxLen) (h5 : 5 ≤ n) (hn : n ≤ 4096) (ht : -9223372036854775808 ≤ t ∧ t ≤ 9223372036854775807) (hk : mask < 4294967296) :
    Calls Try.prog 5 #[.slice A n c, .int .i64 t, .int .u32 mask] w fun e w' => e = .returned (.bool true) ∧ Below w.heap.size w w' := by
  obtain rfl : n = l.length := hR.len.symm
  have HR := Lib.hid hR
  clear hR
  go_enter Try.func5, Try.ntmps5
  go_wp2_with fail
  refine (begun_any w).mono ?_
  rintro e w1 ⟨rfl, hB1⟩
  have hE := Own.empty w1 5 (base := w1.heap.size) (Nat.le_refl _)
  have hR1 := (HR.out.on hB1 hB1.size).on ((Below.refl w1.heap.size w1).alloc (Nat.le_refl _) (.cells #[] 5)) (Nat.le_refl _)
  go_wp2_with (at_builtin; with_reducible refine wpList_append_rd rfl (.tmp 19) (.tmp 20) 27 rfl w1.heap.size 5 Try.underlying27 info5 _ 0 0 [] rfl rfl hE _ A l.length c l rfl hR1 ?h2 ?h3 ?_)
  case h2 => omega
  case h3 => simp
  intro A3 c3 w3 hO3 hB3 _
  have hB13 : Below w.heap.size w w3 := hB1.trans (((Below.refl _ _).alloc hB1.size _).trans (hB3.mono hB1.size))
  have hp := place_in t (8 * ((l.length : Int) - 4)) (by omega)
  have C := place_any t (8 * ((l.length : Int) - 4)) w3 ht.1 ht.2 (by omega)
  obtain ⟨a, ha⟩ : ∃ a : Nat, placeF t (8 * ((l.length : Int) - 4)) = a := ⟨(placeF t (8 * ((l.length : Int) - 4))).toNat, by omega⟩
  rw [ha] at hp C
  obtain ⟨-, hO4⟩ := hO3
  rcases hO4 with ⟨-, hO4⟩ | ⟨g, cap, cur, hv, hbg, hg, hnc3, hcm3, hcs, htake⟩
  · omega
  simp only [Value.slice.injEq] at hv
  obtain ⟨rfl, -, rfl⟩ := hv
  have hD0 : Blk 5 w3 g (u8s l ++ cur.toList.drop l.length) := by
    have e : u8s l ++ cur.toList.drop l.length = cur.toList := by
      rw [← htake, Nat.mul_one, List.take_append_drop]
    unfold Blk; rw [e]; simpa using hg
  generalize cur.toList.drop l.length = rest at *
  have HC := Lib.hid C
  have hgw : w.heap.size ≤ g := Nat.le_trans hB1.size hbg
  clear C ha hg hcs htake hE hR1 hB3 ht
  go_wp2_with fail
  refine HC.out.mono ?_
  rintro e w4 ⟨rfl, rfl⟩
  clear HC
  go_wp2_with fail
  go_loopw [8] (fun i wr => ∃ (j : Nat) (m : List Int), j ≤ 32 ∧ i = .int .i64 j ∧ Hid (m.length = l.length) ∧ Byt m ∧ Blk 5 wr g (u8s m ++ rest) ∧ Hid (numC m = numC l ^^^ mask % 2 ^ j * 2 ^ a) ∧ Below w.heap.size w wr) (fun i _ => 32 - (intOf i).toNat)
  case atStart => exact ⟨0, l, by omega, rfl, rfl, hY, hD0, by show _ = _; simp [Nat.mod_one], hB13⟩
  case round =>
    obtain ⟨j, m, hj, rfl, HM, hYm, hD, HN, hB⟩ := hrel
    by_cases hlt : j < 32
    · have hq : mask / 2 ^ j < 4294967296 := Nat.lt_of_le_of_lt (Nat.div_le_self _ _) hk
      have hand := and_one_u32 (mask / 2 ^ j) hq
      rw [← div_pow_cast] at hand
      rcases Nat.mod_two_eq_zero_or_one (mask / 2 ^ j) with h2 | h2
      · have ho : (bits BinOp.and IntKind.u32 ((mask : Int) / 2 ^ j) 1 == 1) = false := by rw [hand, h2]; rfl
        have HN2 : Hid (numC m = numC l ^^^ mask % 2 ^ (j + 1) * 2 ^ a) := by
          show _ = _
          rw [HN.out, Nat.mod_pow_succ, h2, Nat.mul_zero, Nat.add_zero]
        clear hand h2 hq HN
        go_wp2_with fail
        go_roundw
        case rel => exact ⟨j + 1, m, by omega, by go_num, HM, hYm, hD, HN2, hB⟩
        case measure => simp [intOf]; omega
      · have ho : (bits BinOp.and IntKind.u32 ((mask : Int) / 2 ^ j) 1 == 1) = true := by rw [hand, h2]; rfl
        obtain ⟨e, he⟩ : ∃ e : Nat, e = a + j := ⟨_, rfl⟩
        obtain ⟨p, hpe⟩ : ∃ p : Nat, p = e / 8 := ⟨_, rfl⟩
        obtain ⟨q, hqe⟩ : ∃ q : Nat, q = e % 8 := ⟨_, rfl⟩
        have hpl : p < m.length := by rw [HM.out]; omega
        have hcell : wr.cell? ⟨g, p, none⟩ = some (.int .u8 (m.getD p 0)) := by
          rw [hD.cell, List.getElem?_append_left (by rw [u8s_length]; exact hpl), u8s_getElem? _ _ hpl]
        have hfr := hD.frozen p
        have hx := hYm.at_ p
        obtain ⟨x, hxx⟩ : ∃ x : Nat, m.getD p 0 = x := ⟨(m.getD p 0).toNat, by omega⟩
        have hb : 2 ^ q ≤ 128 := Nat.pow_le_pow_right (by decide) (by omega : q ≤ 7)
        have hw1 : IntKind.i64.wrap ((a : Int) + j) = (e : Int) := by simp [IntKind.wrap, IntKind.bits, IntKind.signed]; omega
        have hw2 : (e : Int).tdiv 8 = (p : Int) := by rw [hpe]; exact Int.tdiv_eq_ediv_of_nonneg (by omega)
        have hw3 : IntKind.i64.wrap (p : Int) = (p : Int) := by simp [IntKind.wrap, IntKind.bits, IntKind.signed]; omega
        have hw4 : (e : Int).tmod 8 = (q : Int) := by rw [hqe]; exact Int.tmod_eq_emod_of_nonneg (by omega)
        have hp0 : (0 : Int) ≤ p := by omega
        have hp1 : (p : Int) < l.length := by have := HM.out; omega
        have hq0 : (0 : Int) ≤ q := by omega
        have hq1 : (q : Int) < 8 := by omega
        rw [hxx] at hcell hx
        clear hand hq ho
        have ho : (bits BinOp.and IntKind.u32 ((mask : Int) / 2 ^ j) 1 == 1) = true := by rw [div_pow_cast, and_one_u32 _ (Nat.lt_of_le_of_lt (Nat.div_le_self _ _) hk), h2]; rfl
        have hval : bits BinOp.xor IntKind.u8 (x : Int) (2 ^ q % 256) = ((x ^^^ 2 ^ q : Nat) : Int) := by
          have hc : ((2 ^ q : Nat) : Int) = (2 : Int) ^ q := by simp
          rw [← hc, show ((2 ^ q : Nat) : Int) % 256 = ((2 ^ q : Nat) : Int) from Int.emod_eq_of_lt (Int.natCast_nonneg _) (Int.ofNat_lt.2 (Nat.lt_of_le_of_lt hb (by omega) : 2 ^ q < 256))]
          exact bits_xor_u8_nat _ _ (by omega) (by omega)
        have hxq : x ^^^ 2 ^ q < 256 := Nat.xor_lt_two_pow (n := 8) (by omega) (by omega)
        have HD2 : Hid (Blk 5 (wr.setCell ⟨g, p, none⟩ (.int .u8 (((x ^^^ 2 ^ q : Nat) : Int)))) g (u8s (m.set p ((x ^^^ 2 ^ q : Nat) : Int)) ++ rest)) := by
          have h := hD.set_ p (.int .u8 (((x ^^^ 2 ^ q : Nat) : Int)))
          rw [List.set_append_left _ _ (by rw [u8s_length]; exact hpl)] at h
          show Blk _ _ _ _
          rw [show u8s (m.set p ((x ^^^ 2 ^ q : Nat) : Int)) = (u8s m).set p (.int .u8 (((x ^^^ 2 ^ q : Nat) : Int))) from List.map_set]
          exact h
        have HN2 : Hid (numC (m.set p ((x ^^^ 2 ^ q : Nat) : Int)) = numC l ^^^ mask % 2 ^ (j + 1) * 2 ^ a) := by
          have h := numC_set q m p hpl
          rw [hxx, Int.toNat_natCast] at h
          show _ = _
          rw [h]
          exact burst_step HN.out h2 (by omega)
        have hYm2 : Byt (m.set p ((x ^^^ 2 ^ q : Nat) : Int)) := fun y hy => by
          rcases List.mem_or_eq_of_mem_set hy with h | h
          · exact hYm y h
          · omega
        have HM2 : Hid ((m.set p ((x ^^^ 2 ^ q : Nat) : Int)).length = l.length) := by show _ = _; rw [List.length_set]; exact HM.out
        have hB2 : Below w.heap.size w (wr.setCell ⟨g, p, none⟩ (.int .u8 (((x ^^^ 2 ^ q : Nat) : Int)))) := hB.setCell hgw _
        generalize m.set p ((x ^^^ 2 ^ q : Nat) : Int) = m2 at *
        generalize ((x ^^^ 2 ^ q : Nat) : Int) = y at *
        clear h2 hxx hpe hqe he hb HN hD hYm HM
        go_wp2_with fail
        go_still_tail 14, (by kernel_rfl)
        change wpList _ _ _ _ _ wr.drew
        go_wp2_with fail
        go_roundw
        case rel => exact ⟨j + 1, m2, by omega, by go_num, HM2, hYm2, HD2.out, HN2, hB2.drew⟩
        case measure => simp [intOf]; omega
    · obtain rfl : j = 32 := by omega
      have hRd : Rd wr wr.heap.size (some ⟨g, 0, none⟩) l.length m := hD.rd (by rw [← HM.out, ← u8s_length m]; exact List.take_left) HM.out hD.lt
      have hnum : numC m = numC l ^^^ mask * 2 ^ a := by
        have := HN.out
        rwa [Nat.mod_eq_of_lt (show mask < 2 ^ 32 from hk)] at this
      have hiff := burst hY hYm HM.out.symm hk (by omega : a ≤ 8 * l.length) hnum
      have hC1 := of_one (w := wr) (x := .slice A l.length c) ⟨A, c, rfl, hnc, hcm, HR.out.on hB hB.size⟩ hY (by omega)
      have hC2 := fun (w' : World) (h : Below wr.heap.size wr w') => of_one (w := w') (x := .slice (some ⟨g, 0, none⟩) l.length c3) (l := m) ⟨_, c3, by rw [HM.out], by rw [HM.out]; exact hnc3, hcm3, by rw [HM.out]; exact hRd.on h h.size⟩ hYm (by rw [HM.out]; omega)
      generalize ofC l = r1 at *
      generalize ofC m = r2 at *
      have C1 := Lib.hid hC1
      have C2 := Lib.hid hC2
      clear hC1 hC2 hnum HN hRd hD hYm hY hp
      by_cases h0 : mask = 0
      · obtain rfl : r1 = r2 := hiff.2 h0
        subst h0
        clear hiff
        go_wp2_with fail
        refine C1.out.mono ?_
        rintro e w5 ⟨rfl, hB5⟩
        clear C1
        go_wp2_with fail
        refine (C2.out w5 hB5).mono ?_
        rintro e w6 ⟨rfl, hB6⟩
        clear C2
        go_wp2_with fail
        go_ret
        exact ⟨rfl, hB.trans ((hB5.trans (hB6.mono hB5.size)).mono hB.size)⟩
      · have hne : ¬ r1 = r2 := fun h => h0 (hiff.1 h)
        have b1 : ((r1 : Int) == r2) = false := by rw [beq_eq_false_iff_ne]; omega
        have b2 : ((mask : Int) == 0) = false := by rw [beq_eq_false_iff_ne]; omega
        clear hiff hne h0
        go_wp2_with fail
        refine C1.out.mono ?_
        rintro e w5 ⟨rfl, hB5⟩
        clear C1
        go_wp2_with fail
        refine (C2.out w5 hB5).mono ?_
        rintro e w6 ⟨rfl, hB6⟩
        clear C2
        go_wp2_with fail
        go_ret
        exact ⟨rfl, hB.trans ((hB5.trans (hB6.mono hB5.size)).mono hB.size)⟩

theorem bursts_out (A : Option Addr) (n c : Nat) (t : Int) (mask : Nat) (w : World) (h : 4096 < n ∨ n < 5) (hm : n ≤ 9223372036854775807) :
    Calls Try.prog 5 #[.slice A n c, .int .i64 t, .int .u32 mask] w fun e w' => e = .returned (.bool true) ∧ Below w.heap.size w w' := by
  by_cases h1 : 4096 < n
  · go_enter Try.func5, Try.ntmps5
    go_wp2_with fail
    refine (begun_any w).mono ?_
    rintro e w1 ⟨rfl, hB1⟩
    go_wp2_with fail
    go_ret
    exact ⟨rfl, hB1⟩
  · have h2 : n < 5 := by omega
    go_enter Try.func5, Try.ntmps5
    go_wp2_with fail
    refine (begun_any w).mono ?_
    rintro e w1 ⟨rfl, hB1⟩
    go_wp2_with fail
    go_ret
    exact ⟨rfl, hB1⟩
theorem bursts_walk (A : Option Addr) (n c : Nat) (l : List Int) (t : Int) (z : Int) (w : World) (hR : Rd w w.heap.size A n l) (hY : Byt l) (hnc : n ≤ c) (hcm : c ≤ maxLen) (w1 : (Lit.int .i64 t).wf = true) (w2 : (Lit.int .u32 z).wf = true) :
    Calls Try.prog 5 #[.slice A n c, .int .i64 t, .int .u32 z] w fun e w' => e = .returned (.bool true) ∧ Below w.heap.size w w' := by
  have b1 : -9223372036854775808 ≤ t ∧ t ≤ 9223372036854775807 := by simpa [Lit.wf, IntKind.min, IntKind.max, IntKind.signed, IntKind.bits] using w1
  have b2 : 0 ≤ z ∧ z ≤ 4294967295 := by simpa [Lit.wf, IntKind.min, IntKind.max, IntKind.signed, IntKind.bits] using w2
  have h1 : c ≤ 9223372036854775807 := hcm
  obtain ⟨k, rfl⟩ : ∃ k : Nat, z = k := ⟨z.toNat, by omega⟩
  by_cases h : 4096 < n ∨ n < 5
  · exact bursts_out A n c t k w h (by omega)
  · exact bursts_small A n c l t k w hR hY hnc hcm (by omega) (by omega) b1 (by omega)
end Go.Proofs.Ytgejdnkfbleakaa.sumLaw
