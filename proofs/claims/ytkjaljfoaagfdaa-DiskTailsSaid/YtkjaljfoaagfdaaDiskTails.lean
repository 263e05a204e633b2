/- DiskTails answers true: which beginning of what waits is left. Conditions: what the slices read as. -/
import Derived.Test.YtkjaljfoaagfdaaBegunD
namespace Go.Proofs.Ytkjaljfoaagfdaa.both
open Go.RowKit Go.Proofs.Ytkjaljfoaagfdaa.kit Go.Proofs.Ytkjaljfoaagfdaa.nums Go.Proofs.Ytkjaljfoaagfdaa.ds Go.Proofs.Ytkjaljfoaagfdaa.disk Go.Proofs.Ytkjaljfoaagfdaa.bytes Go.Proofs.Ytkjaljfoaagfdaa.law0
set_option linter.unusedVariables false

/-- The disk that holds what waits. -/
def waitS (a b : List Int) (k : Nat) : DS := ⟨a, b, 0, 0, false, -1, 0, k⟩
theorem wait_a (a : List Int) (h : a.length ≤ 1000) : DS.fresh.appS 0 a = waitS a [] 1 ∧ DS.fresh.appE 0 a = 0 := by
  have hf : ¬ DS.fresh.full 0 a.length := by unfold DS.full; show ¬ (4194304 - ((0 : Nat) : Int) < a.length); omega
  have hm : DS.fresh.may 0 = 0 := rfl
  constructor
  · unfold DS.appS; rw [if_neg (by rw [hm]; decide), if_neg hf, if_neg (by show ¬ (-1 : Int) = 0; decide)]; rfl
  · unfold DS.appE; rw [if_neg (by rw [hm]; decide), if_neg hf]; rfl
theorem wait_b (a b : List Int) (h : b.length ≤ 1000) : (waitS a [] 1).appS 1 b = waitS a b 2 ∧ (waitS a [] 1).appE 1 b = 0 := by
  have hf : ¬ (waitS a [] 1).full 1 b.length := by unfold DS.full; show ¬ (4194304 - ((0 : Nat) : Int) < b.length); omega
  have hm : (waitS a [] 1).may 1 = 0 := rfl
  constructor
  · unfold DS.appS; rw [if_neg (by rw [hm]; decide), if_neg hf, if_neg (by show ¬ (-1 : Int) = 0; decide)]; rfl
  · unfold DS.appE; rw [if_neg (by rw [hm]; decide), if_neg hf]; rfl
theorem wait_good {a b : List Int} {k : Nat} (ha : Byt a) (hb : Byt b) (h1 : a.length ≤ 1000) (h2 : b.length ≤ 1000) (hk : k ≤ 10) : (waitS a b k).Good :=
  ⟨ha, hb, Nat.zero_le _, Nat.zero_le _, by show a.length ≤ 4194304; omega, by show b.length ≤ 4194304; omega, by show (-1 : Int) ≤ -1; decide, by show (-1 : Int) ≤ 9223372036854775807; decide, Nat.zero_le _, by show k ≤ 1000000000; omega⟩
theorem wait_read (a b : List Int) (k : Nat) (zs : List Int) : ((waitS a b k).powS zs).readL 0 = a.take (min (DS.keepN zs 0) a.length) ∧ ((waitS a b k).powS zs).readL 1 = b.take (min (DS.keepN zs 1) b.length) ∧ ((waitS a b k).powS zs).may 0 = 0 ∧ ((waitS a b k).powS zs).may 1 = 0 := by
  refine ⟨?_, ?_, rfl, rfl⟩
  · show a.take (0 + min (DS.keepN zs 0) (a.length - 0)) = _
    rw [Nat.zero_add, Nat.sub_zero]
  · show b.take (0 + min (DS.keepN zs 1) (b.length - 0)) = _
    rw [Nat.zero_add, Nat.sub_zero]
theorem keepN_none (zs : List Int) (f : Nat) (h : zs.length ≤ f) : DS.keepN zs f = 0 := by
  unfold DS.keepN
  rw [List.getD_eq_getElem?_getD, List.getElem?_eq_none h]
  rfl

set_option maxHeartbeats 2000000 in
theorem tails_walk (A : Option Addr) (n c : Nat) (l : List Int) (A' : Option Addr) (n' c' : Nat) (l' : List Int) (K : Option Addr) (k ck : Nat) (zs : List Int) (w : World) (hR : Rd w w.heap.size A n l) (hY : Byt l) (hnc : n ≤ c) (hcm : c ≤ maxLen) (hR' : Rd w w.heap.size A' n' l') (hY' : Byt l') (hnc' : n' ≤ c') (hcm' : c' ≤ maxLen) (hZ : RdV w w.heap.size K k (zs.map (Value.int .i64))) (hz : ∀ z ∈ zs, -9223372036854775808 ≤ z ∧ z ≤ 9223372036854775807) (hkc : k ≤ ck) (hkm : ck ≤ maxLen) :
    Calls Try.prog 5 #[.slice A n c, .slice A' n' c', .slice K k ck] w fun e w' => e = .returned (.bool true) ∧ Below w.heap.size w w' := by
  have hx1 := hcm
  have hx2 := hcm'
  have hx3 := hkm
  unfold maxLen at hx1 hx2 hx3
  have HN := Lib.hid hR.len
  have HN' := Lib.hid hR'.len
  have HK : Hid (zs.length = k) := by show _ = _; have := hZ.1; rwa [List.length_map] at this
  go_enter Try.func5, Try.ntmps5
  go_wp2_with fail
  refine (begun_any w).mono ?_
  rintro e w1 ⟨rfl, hB1⟩
  by_cases h1 : 1000 < n
  · go_wp2_with fail
    go_ret
    exact ⟨rfl, hB1⟩
  by_cases h2 : 1000 < n'
  · go_wp2_with fail
    go_ret
    exact ⟨rfl, hB1⟩
  by_cases h3 : 10 < k
  · go_wp2_with fail
    go_ret
    exact ⟨rfl, hB1⟩
  have hla : l.length ≤ 1000 := by rw [HN.out]; omega
  have hlb : l'.length ≤ 1000 := by rw [HN'.out]; omega
  go_wp2_with fail
  refine (disk.new_any w1).mono ?_
  rintro e w2 ⟨a, fp, rfl, hd, hf, hB2⟩
  have hB12 := hB1.trans (hB2.mono hB1.size)
  have hge : ∀ q, fp q → w.heap.size ≤ q := fun q hq => Nat.le_trans hB1.size (hf q hq)
  have apart : ∀ {fp : Nat → Prop} {A : Option Addr} {n : Nat} {l : List Int}, (∀ q, fp q → w.heap.size ≤ q) → Rd w w.heap.size A n l → 0 < n → ∀ b o, A = some ⟨b, o, none⟩ → ¬ fp b := fun hq hr hn b o e hfb => by
    obtain ⟨b', o', e', hlt, _⟩ := hr.2 hn
    rw [e] at e'
    simp only [Option.some.injEq, Addr.mk.injEq, and_true] at e'
    have := hq b hfb
    omega
  have C1 := Lib.hid (disk.append_any a DS.fresh fp w2 hd DS.Good.fresh (by decide) (by decide) 0 A n c l (hR.on hB12 hB12.size) hY (by omega) hnc hcm (apart hge hR))
  rw [(wait_a l hla).1, (wait_a l hla).2] at C1
  go_wp2_with fail
  refine C1.out.mono ?_
  clear C1
  rintro e w3 ⟨fp3, rfl, hd3, hc3⟩
  have step : ∀ {fp fp' : Nat → Prop} {x y : World}, (∀ q, fp q → w.heap.size ≤ q) → w.heap.size ≤ x.heap.size → Chg fp fp' x y → (∀ q, fp' q → w.heap.size ≤ q) ∧ Below w.heap.size x y := fun hq hs hc =>
    ⟨fun q hq' => by rcases hc.new q hq' with h | h; exact hq q h; omega, ⟨hc.os, hc.tape, hc.output, hc.size, fun q hq' => hc.block q (by omega) (fun hfq => by have := hq q hfq; omega)⟩⟩
  obtain ⟨hge3, hB3⟩ := step hge hB12.size hc3
  have hB13 := hB12.trans hB3
  have C2 := Lib.hid (disk.append_any a _ fp3 w3 hd3 (wait_good hY Byt.nil hla (by decide) (by decide)) (show (1 : Nat) ≤ 1000000 by decide) (show (0 : Nat) ≤ 1000000 by decide) 1 A' n' c' l' (hR'.on hB13 hB13.size) hY' (by omega) hnc' hcm' (apart hge3 hR'))
  rw [(wait_b l l' hlb).1, (wait_b l l' hlb).2] at C2
  go_wp2_with fail
  refine C2.out.mono ?_
  clear C2
  rintro e w4 ⟨fp4, rfl, hd4, hc4⟩
  obtain ⟨hge4, hB4⟩ := step hge3 hB13.size hc4
  have hB14 := hB13.trans hB4
  have C3 := Lib.hid (disk.power_any a _ fp4 w4 hd4 (wait_good hY hY' hla hlb (by decide)) (show (2 : Nat) ≤ 1000000 by decide) (show (0 : Nat) ≤ 1000000 by decide) K k ck zs (hZ.on hB14 hB14.size) hz (fun hn b o e hfb => by
    obtain ⟨b', o', e', hlt, _⟩ := hZ.2 hn
    rw [e] at e'
    simp only [Option.some.injEq, Addr.mk.injEq, and_true] at e'
    have := hge4 b hfb
    omega) (by omega))
  go_wp2_with fail
  refine C3.out.mono ?_
  clear C3
  rintro e w5 ⟨fp5, rfl, hd5, hc5⟩
  obtain ⟨hge5, hB5⟩ := step hge4 hB14.size hc5
  have hB15 := hB14.trans hB5
  obtain ⟨r1, r2, r3, r4⟩ := wait_read l l' 2 zs
  have hgood := (wait_good hY hY' hla hlb (show (2 : Nat) ≤ 10 by decide)).pow (show (0 : Nat) ≤ 1000000 by decide) zs
  have C4 := Lib.hid (disk.read_any a _ fp5 w5 hd5 hgood (show (2 : Nat) ≤ 1000000 by decide) (show (1 : Nat) ≤ 1000000 by decide) 0)
  rw [r1, r3] at C4
  go_wp2_with fail
  refine C4.out.mono ?_
  clear C4
  rintro e w6 ⟨A6, n6, c6, rfl, hl6, hO6, hB6⟩
  have hd6 := hd5.keep (w' := w6) (fun q hq => hB6.block q (hd5.lt q hq))
  have C5 := Lib.hid (disk.read_any a _ fp5 w6 hd6 hgood (show (2 : Nat) ≤ 1000000 by decide) (show (1 : Nat) ≤ 1000000 by decide) 1)
  rw [r2, r4] at C5
  go_wp2_with fail
  refine C5.out.mono ?_
  clear C5
  rintro e w7 ⟨A7, n7, c7, rfl, hl7, hO7, hB7⟩
  have hB17 := (hB15.trans (hB6.mono hB15.size)).trans (hB7.mono (Nat.le_trans hB15.size hB6.size))
  have hO6b := hO6.below hB7
  obtain ⟨r0, hr0⟩ : ∃ r0, min (DS.keepN zs 0) l.length = r0 := ⟨_, rfl⟩
  obtain ⟨s0, hs0⟩ : ∃ s0, min (DS.keepN zs 1) l'.length = s0 := ⟨_, rfl⟩
  rw [hr0] at hl6 hO6b
  rw [hs0] at hl7 hO7
  have hr0n : r0 ≤ n := by have := HN.out; omega
  have hs0n : s0 ≤ n' := by have := HN'.out; omega
  have hR7 := (hR.on hB17 hB17.size).upto hr0n
  have hR7' := (hR'.on hB17 hB17.size).upto hs0n
  have hv1 := fun q => str_of_own (w := w7.drewN q) hO6b hl6
  have hv2 := fun q => run_string_rd (P := Try.prog) (w7.drewN q) 30 5 9 Try.underlying30 Try.underlying5 Try.underlying9 w7.heap.size A r0 c (l.take r0) hR7
  have hv3 := fun q => str_of_own (w := w7.drewN q) hO7 hl7
  have hv4 := fun q => run_string_rd (P := Try.prog) (w7.drewN q) 30 5 9 Try.underlying30 Try.underlying5 Try.underlying9 w7.heap.size A' s0 c' (l'.take s0) hR7'
  have hZ7 := hZ.on hB17 hB17.size
  have HZ := Lib.hid (show ∀ j, j < k → ∃ b o, K = some ⟨b, o, none⟩ ∧ w7.cell? ⟨b, o + j, none⟩ = some (.int .i64 (zs.getD j 0)) from fun j hj => by
    obtain ⟨b, o, u, e, hu, hc⟩ := hZ7.at_ hj
    rw [List.getElem?_map] at hu
    have hz' : zs[j]? = some (zs.getD j 0) := by rw [List.getD_eq_getElem?_getD, List.getElem?_eq_getElem (by have := HK.out; omega)]; rfl
    rw [hz'] at hu
    simp only [Option.map_some, Option.some.injEq] at hu
    exact ⟨b, o, e, by rw [hu]; exact hc⟩)
  have hk0 : ((DS.keepN zs 0 : Nat) : Int) = max (zs.getD 0 0) 0 := by unfold DS.keepN; omega
  have hk1 : ((DS.keepN zs 1 : Nat) : Int) = max (zs.getD 1 0) 0 := by unfold DS.keepN; omega
  have hnl : (l.length : Int) = n := by rw [HN.out]
  have hnl' : (l'.length : Int) = n' := by rw [HN'.out]
  have q0 : (0 : Int) ≤ r0 ∧ (r0 : Int) ≤ c := by omega
  have q1 : (0 : Int) ≤ s0 ∧ (s0 : Int) ≤ c' := by omega
  generalize strOfNums (l.take r0) = T0 at *
  generalize strOfNums (l'.take s0) = T1 at *
  clear hR hR' hZ hZ7 hO6 hO6b hO7 hR7 hR7' apart step hd hd3 hd4 hd5 hd6 hc3 hc4 hc5 hf hge hge3 hge4 hge5 hl6 hl7 hgood r1 r2 r3 r4
  by_cases g0 : 0 < k
  · obtain ⟨b, o, rfl, z0⟩ := HZ.out 0 g0
    rw [Nat.add_zero] at z0
    have m0 : max (zs.getD 0 0) 0 = ((DS.keepN zs 0 : Nat) : Int) := by omega
    have m0b : (if zs.getD 0 0 < 0 then 0 else zs.getD 0 0) = ((DS.keepN zs 0 : Nat) : Int) := by split <;> omega
    have m1 : (if (n : Int) < ((DS.keepN zs 0 : Nat) : Int) then (n : Int) else ((DS.keepN zs 0 : Nat) : Int)) = r0 := by split <;> omega
    have m1b : (if n < DS.keepN zs 0 then (n : Int) else ((DS.keepN zs 0 : Nat) : Int)) = r0 := by split <;> omega
    generalize zs.getD 0 0 = zz0 at *
    generalize DS.keepN zs 0 = kk0 at *
    by_cases g1 : 1 < k
    · obtain ⟨b', o', e', z1⟩ := HZ.out 1 g1
      simp only [Option.some.injEq, Addr.mk.injEq, and_true] at e'
      obtain ⟨rfl, rfl⟩ := e'
      have m2 : max (zs.getD 1 0) 0 = ((DS.keepN zs 1 : Nat) : Int) := by omega
      have m2b : (if zs.getD 1 0 < 0 then 0 else zs.getD 1 0) = ((DS.keepN zs 1 : Nat) : Int) := by split <;> omega
      have m3 : (if (n' : Int) < ((DS.keepN zs 1 : Nat) : Int) then (n' : Int) else ((DS.keepN zs 1 : Nat) : Int)) = s0 := by split <;> omega
      have m3b : (if n' < DS.keepN zs 1 then (n' : Int) else ((DS.keepN zs 1 : Nat) : Int)) = s0 := by split <;> omega
      generalize zs.getD 1 0 = zz1 at *
      generalize DS.keepN zs 1 = kk1 at *
      clear hk0 hk1 hr0 hs0
      go_upto_region 16 with (fail)
      go_quiet (fail)
      go_wp2_with fail
      go_ret
      exact ⟨rfl, hB17.trans (below_drewN (Below.refl _ _) _)⟩
    · obtain rfl : s0 = 0 := by rw [keepN_none zs 1 (by have := HK.out; omega)] at hs0; omega
      clear hk0 hk1 hr0 hs0
      go_upto_region 16 with (fail)
      go_quiet (fail)
      go_wp2_with fail
      go_ret
      exact ⟨rfl, hB17.trans (below_drewN (Below.refl _ _) _)⟩
  · obtain rfl : s0 = 0 := by rw [keepN_none zs 1 (by have := HK.out; omega)] at hs0; omega
    obtain rfl : r0 = 0 := by rw [keepN_none zs 0 (by have := HK.out; omega)] at hr0; omega
    have g1 : ¬ 1 < k := by omega
    clear hk0 hk1 hr0 hs0
    go_upto_region 16 with (fail)
    go_quiet (fail)
    go_wp2_with fail
    go_ret
    exact ⟨rfl, hB17.trans (below_drewN (Below.refl _ _) _)⟩
end Go.Proofs.Ytkjaljfoaagfdaa.both
