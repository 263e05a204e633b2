/- The landed zone, its small parts: a set's lowest node (math/bits.TrailingZeros16 over its table), elements of lists, the node with the least load. Conditions: the library's table reads as its text lays it; sets have nodes only. -/
import Derived.Test.YtfcljdpjjabhjaaDoorProg
import Derived.Test.YtfcljdpjjabhjaaDoorKitV
import Derived.Test.YtfcljdpjjabhjaaDoorRef9
import Derived.Test.YtfcljdpjjabhjaaDoorZn
import Derived.Outline
import Derived.Handy
namespace Go.Proofs.YtfcljdpjjabhjaaDoor.zoni
open Go Go.RowKit Go.Proofs.YtfcljdpjjabhjaaDoor.kit Go.Proofs.YtfcljdpjjabhjaaDoor.nums Go.Proofs.YtfcljdpjjabhjaaDoor.se Go.Proofs.YtfcljdpjjabhjaaDoor.cf Go.Proofs.YtfcljdpjjabhjaaDoor.zn Go.Proofs.YtfcljdpjjabhjaaDoor.ref9
set_option linter.unusedVariables false

/-- The library's table, as its text lays it. -/
def TabW (w : World) : Prop := ∀ j, j < 32 → w.cell? ⟨0, j, none⟩ = some (.int .u8 ((Lib.deBruijn32tab.getD j 0 : Nat) : Int))
theorem TabW.lt {w : World} (h : TabW w) : 0 < w.heap.size := World.block_lt_of_cell? w (a := ⟨0, 0, none⟩) (h 0 (by omega))
theorem TabW.on {w w' : World} (h : TabW w) (hb : Below w.heap.size w w') : TabW w' := fun j hj => (hb.cell (p := ⟨0, j, none⟩) h.lt).trans (h j hj)
theorem wrap_u32_ (n : Int) : IntKind.u32.wrap n = n % 4294967296 := by simp [IntKind.wrap, IntKind.signed, IntKind.bits]
theorem wrap_u16_ (n : Int) : IntKind.u16.wrap n = n % 65536 := by simp [IntKind.wrap, IntKind.signed, IntKind.bits]
set_option maxHeartbeats 1000000 in
theorem tz_core (x a k idx : Nat) (w : World) (hx0 : ((x : Int) == 0) = false) (hx : x < 65536) (ha : a < 65536)
    (k1 : bits .and .u16 (x : Int) (IntKind.u16.wrap (-(x : Int))) = (a : Int)) (k2 : (a : Int) * 125613361 % 4294967296 / 134217728 = (idx : Int)) (k3 : (a : Int) % 4294967296 = (a : Int))
    (hi : idx < 32) (hk : k < 32) (hcell : w.cell? ⟨0, idx, none⟩ = some (.int .u8 (k : Int))) :
    Calls Tryd.prog 64 #[.int .u16 (x : Int)] w fun e w' => e = .returned (.int .i64 (k : Int)) ∧ w = w' := by
  go_enter Tryd.func64, Tryd.ntmps64
  go_wp2_with (simp only [k1, k3, k2])
  go_ret
  exact ⟨rfl, rfl⟩
theorem tz_any (x : Nat) (w : World) (h0 : x ≠ 0) (hx : x < 65536) (hT : TabW w) :
    Calls Tryd.prog 64 #[.int .u16 (x : Int)] w fun e w' => e = .returned (.int .i64 ((Lib.ctz 16 x : Nat) : Int)) ∧ w = w' := by
  obtain ⟨hlow, hk⟩ := Lib.lowest_bit 16 x h0 hx
  obtain ⟨hi, htab⟩ := Lib.deBruijn32_at (Lib.ctz 16 x) (by omega)
  have hcell := hT _ hi
  rw [htab] at hcell
  have h16 : 2 ^ Lib.ctz 16 x < 65536 := Nat.pow_lt_pow_right (by decide) hk
  obtain ⟨a, hp⟩ : ∃ a, 2 ^ Lib.ctz 16 x = a := ⟨_, rfl⟩
  rw [hp] at hlow hi hcell h16
  have e2 : (a : Int) * 125613361 % 4294967296 / 134217728 = ((a * 125613361 % 4294967296 / 134217728 : Nat) : Int) := by rw [Int.natCast_ediv, Int.natCast_emod, Int.natCast_mul]; rfl
  have e3 : (a : Int) % 4294967296 = (a : Int) := by omega
  refine tz_core x a (Lib.ctz 16 x) _ w (by rw [beq_eq_false_iff_ne]; omega) hx h16 ?_ e2 e3 hi (Nat.lt_trans hk (by decide)) hcell
  have e1 : IntKind.u16.wrap (-(x : Int)) = ((65536 - x : Nat) : Int) := by rw [wrap_u16_]; omega
  rw [e1, bits_and_u16_nat x _ hx (by omega), ← hlow]
theorem lowest_any (x : Nat) (w : World) (h0 : x ≠ 0) (hx : x < 65536) (hT : TabW w) :
    Calls Tryd.prog 62 #[.int .u16 (x : Int)] w fun e w' => e = .returned (.int .i64 ((Lib.ctz 16 x : Nat) : Int)) ∧ w = w' := by
  have C := Lib.hid (fun w hT => tz_any x w h0 hx hT)
  generalize Lib.ctz 16 x = k at *
  go_enter Tryd.func62, Tryd.ntmps62
  go_wp2_with fail
  refine (C.out _ hT).mono ?_
  rintro e w2 ⟨rfl, rfl⟩
  go_wp2_with fail
  go_ret
  exact ⟨rfl, rfl⟩
/-- An element of a slice of ints. -/
theorem rd_at {w : World} {B n : Nat} {A : Option Addr} {l : List Int} (h : RdV w B A n (i64s l)) (i : Nat) (hi : i < n) : ∃ b o, A = some ⟨b, o, none⟩ ∧ w.cell? ⟨b, o + i, none⟩ = some (.int .i64 (l.getD i 0)) := by
  obtain ⟨b, o, u, h1, h2, h3⟩ := h.at_ hi
  refine ⟨b, o, h1, ?_⟩
  rw [h3]
  simp only [i64s, List.getElem?_map, Option.map_eq_some_iff] at h2
  obtain ⟨x, hx, rfl⟩ := h2
  rw [List.getD_eq_getElem?_getD, hx]; rfl
theorem rd_len {w : World} {B n : Nat} {A : Option Addr} {l : List Int} (h : RdV w B A n (i64s l)) : l.length = n := by
  have := h.1; rwa [i64s_length] at this
theorem at_any (A : Option Addr) (n c : Nat) (l : List Int) (i : Nat) (w : World) (B : Nat) (hR : RdV w B A n (i64s l)) (hn : n ≤ 1099511627776) (hi : i ≤ 1099511627776) :
    Calls Tryd.prog 27 #[.slice A n c, .int .i64 (i : Int)] w fun e w' => e = .returned (.int .i64 (l.getD i 0)) ∧ w = w' := by
  have hl := rd_len hR
  by_cases h : i < n
  · obtain ⟨b, o, rfl, hc⟩ := rd_at hR i h
    generalize l.getD i 0 = x at *
    clear hR
    go_enter Tryd.func27, Tryd.ntmps27
    go_wp2_with fail
    go_ret
    exact ⟨rfl, rfl⟩
  · have e : l.getD i 0 = 0 := by rw [List.getD_eq_getElem?_getD, List.getElem?_eq_none (by omega)]; rfl
    rw [e]
    clear hR
    go_enter Tryd.func27, Tryd.ntmps27
    go_wp2_with fail
    go_ret
    exact ⟨rfl, rfl⟩
set_option maxHeartbeats 1000000 in
theorem lightest_any (s : Nat) (A : Option Addr) (n c : Nat) (ld : List Int) (w : World) (B : Nat) (hm : mayF s = true) (h0 : s ≠ 0) (hR : RdV w B A n (i64s ld)) (hn : n ≤ 1099511627776) (hT : TabW w) :
    Calls Tryd.prog 49 #[.int .u16 (s : Int), .slice A n c] w fun e w' => e = .returned (.int .i64 ((pickF s ld : Nat) : Int)) ∧ w = w' := by
  have hs := may_lt hm
  have CL := Lib.hid (fun (x : Nat) (h0 : x ≠ 0) (hx : x < 65536) => lowest_any x w h0 hx hT)
  have CA := Lib.hid (fun (i : Nat) (hi : i ≤ 9) => at_any A n c ld i w B hR hn (by omega))
  have HN := Lib.hid (fun (m : Nat) (h1 : 1 ≤ m) (hx : hiF s m ≠ 0) => light_next (ld := ld) hm h1 hx)
  have HE := Lib.hid (fun (m : Nat) (h1 : 1 ≤ m) (h2 : m ≤ 10) (hx : hiF s m = 0) => light_end (ld := ld) hm h0 h1 h2 hx)
  have HB := Lib.hid (fun (m : Nat) => best_node ld m hm h0)
  have HH := Lib.hid (fun (m : Nat) => hi_le s m)
  have C0 := Lib.hid (CL.out s h0 (by omega))
  have hone := Lib.hid (hi_one hm)
  have hbest : Hid (bestF s ld 1 = Lib.ctz 16 s) := Lib.hid rfl
  clear hR hT hm
  generalize Lib.ctz 16 s = k0 at *
  go_enter Tryd.func49, Tryd.ntmps49
  go_wp2_with fail
  refine C0.out.mono ?_
  rintro e w2 ⟨rfl, rfl⟩
  go_wp2_with fail
  go_loop [5, 6] (fun bv rv => ∃ m : Nat, 1 ≤ m ∧ m ≤ 10 ∧ bv = .int .i64 ((bestF s ld m : Nat) : Int) ∧ rv = .int .u16 ((hiF s m : Nat) : Int)) (fun _ rv => (intOf rv).toNat)
  case atStart => exact ⟨1, by omega, by omega, by rw [hbest.out], by rw [hone.out]⟩
  case round =>
    obtain ⟨m, h1, h10, rfl, rfl⟩ := hrel
    have hh := HH.out m
    by_cases hx : hiF s m = 0
    · have HF := Lib.hid (HE.out m h1 h10 hx)
      rw [HF.out, hx]
      go_wp2_with fail
      go_ret
      exact ⟨rfl, rfl⟩
    · obtain ⟨n1, n2, n3, n4⟩ := HN.out m h1 hx
      obtain ⟨b1, b9⟩ := HB.out m
      have cL := Lib.hid (CL.out _ hx (by omega))
      generalize hk : Lib.ctz 16 (hiF s m) = k at *
      obtain ⟨j, rfl⟩ : ∃ j, k = j + 1 := ⟨k - 1, by omega⟩
      have N3 := Lib.hid n3
      have N4 := Lib.hid n4
      clear n3 n4 hk
      generalize hiF s m = x at *
      generalize bestF s ld m = b at *
      obtain ⟨i, rfl⟩ : ∃ i, b = i + 1 := ⟨b - 1, by omega⟩
      have cj := Lib.hid (CA.out j (by omega))
      have ci := Lib.hid (CA.out i (by omega))
      have ex : IntKind.u16.wrap ((x : Int) - 1) = ((x - 1 : Nat) : Int) := by rw [wrap_u16_]; omega
      have ea := bits_and_u16_nat x (x - 1) (by omega) (by omega)
      have hle : x &&& (x - 1) ≤ x - 1 := Nat.and_le_right
      have hne : ((x : Int) != 0) = true := by rw [bne_iff_ne]; omega
      have e1 : ((j + 1 : Nat) : Int) - 1 = (j : Int) := by omega
      have e2 : ((i + 1 : Nat) : Int) - 1 = (i : Int) := by omega
      generalize hz : x &&& (x - 1) = z at *
      have L1 : nodeLd ld (j + 1) = ld.getD j 0 := rfl
      have L2 : nodeLd ld (i + 1) = ld.getD i 0 := rfl
      rw [L1, L2] at N4
      generalize ld.getD j 0 = lj at *
      generalize ld.getD i 0 = li at *
      clear CL CA HN HE HB HH C0 hone hbest L1 L2
      go_wp2_with fail
      refine cL.out.mono ?_
      rintro e w2 ⟨rfl, rfl⟩
      go_wp2_with fail
      refine cj.out.mono ?_
      rintro e w2 ⟨rfl, rfl⟩
      go_wp2_with fail
      refine ci.out.mono ?_
      rintro e w2 ⟨rfl, rfl⟩
      by_cases hl : lj < li
      · rw [if_pos hl] at N4
        go_wp2_with fail
        go_round
        case rel => exact ⟨j + 1 + 1, by omega, by omega, by rw [N4.out]; rfl, by rw [N3.out]⟩
        case measure => simp [intOf]; omega
      · rw [if_neg hl] at N4
        go_wp2_with fail
        go_round
        case rel => exact ⟨j + 1 + 1, by omega, by omega, by rw [N4.out]; rfl, by rw [N3.out]⟩
        case measure => simp [intOf]; omega
end Go.Proofs.YtfcljdpjjabhjaaDoor.zoni
