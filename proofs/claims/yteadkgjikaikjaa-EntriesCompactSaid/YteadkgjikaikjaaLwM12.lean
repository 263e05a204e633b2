/- What the statements' made comes to: a log of terms that rise. Conditions: the numbers are small. -/
import Derived.Test.YteadkgjikaikjaaEntA
import Derived.Test.YteadkgjikaikjaaMd12
import Derived.Test.YteadkgjikaikjaaTail
import Derived.Test.YteadkgjikaikjaaRefA12
import Derived.Test.YteadkgjikaikjaaKitLg
import Derived.Test.YteadkgjikaikjaaTk
import Derived.Deep.RegionHeld3
import Derived.Deep.Cut
import Derived.Lib.Hide
namespace Go.Proofs.Yteadkgjikaikjaa.law12
open Go Go.RowKit Go.Proofs.Yteadkgjikaikjaa.kit Go.Proofs.Yteadkgjikaikjaa.nums Go.Proofs.Yteadkgjikaikjaa.cf Go.Proofs.Yteadkgjikaikjaa.lg
set_option linter.unusedVariables false
set_option maxHeartbeats 2000000 in
theorem made_any (A : Option Addr) (n c : Nat) (l : List Int) (b t : Int) (w : World) (hR : Rd w w.heap.size A n l) (hY : Byt l) (hn : n ≤ 1000) (hb : 0 ≤ b ∧ b ≤ 1099511627776) (ht : 0 ≤ t ∧ t ≤ 1000000) : Calls Try.prog 35 #[.slice A n c, .int .i64 b, .int .i64 t] w fun e w' => ∃ A' c', e = .returned (lgV (madeL b t l) (.slice A' n c')) ∧ OwnE w' w.heap.size (.slice A' n c') (madeL b t l).es ∧ Below w.heap.size w w' := by
  have HR := Lib.hid hR
  have hl := Lib.hid hR.1
  have HY := Lib.hid hY
  obtain ⟨m, hm⟩ : ∃ m, m = max t 1 := ⟨_, rfl⟩
  have HRt : Hid (madeL b t l = ⟨b, t, zeroJ, madeE m l⟩) := by show _ = _; rw [hm]; rfl
  rw [HRt.out]
  have HZ0 : Hid (riseT m (l.take 0) = m) := rfl
  have HTs : Hid (∀ i, i < n → riseT m (l.take (i + 1)) = riseT m (l.take i) + l.getD i 0 % 3) := fun i hi => riseT_snoc (by rw [hR.1]; exact hi)
  have HTb : Hid (∀ i, m ≤ riseT m (l.take i) ∧ riseT m (l.take i) ≤ m + 2 * n) := fun i => by have h := riseT_le (t := m) (l := l.take i); rw [List.length_take] at h; have := hR.1; omega
  have HSn : Hid (∀ i, i < n → (madeE m l).take (i + 1) = (madeE m l).take i ++ [⟨riseT m (l.take (i + 1)), 1, strOfNums [l.getD i 0], zeroJ⟩]) := fun i hi => madeE_snoc (by rw [hR.1]; exact hi)
  have HAll : Hid ((madeE m l).take n = madeE m l) := by show _ = _; rw [List.take_of_length_le (by rw [madeE_length, hR.1]; exact Nat.le_refl _)]
  have HLn : Hid ((madeE m l).length = n) := by show _ = _; rw [madeE_length, hR.1]
  generalize madeE m l = es at *
  have hlen : ∀ i, l.getD i 0 = l.getD i 0 := fun _ => rfl
  clear hlen
  obtain ⟨f, hf⟩ : ∃ f : Nat → Int, f = fun i => riseT m (l.take i) := ⟨_, rfl⟩
  have HZ0 : Hid (f 0 = m) := by show _ = _; rw [hf]; rfl
  have HTs : Hid (∀ i, i < n → f (i + 1) = f i + l.getD i 0 % 3) := by rw [hf]; exact HTs
  have HTb : Hid (∀ i, m ≤ f i ∧ f i ≤ m + 2 * n) := by rw [hf]; exact HTb
  have HSn : Hid (∀ i, i < n → es.take (i + 1) = es.take i ++ [⟨f (i + 1), 1, strOfNums [l.getD i 0], zeroJ⟩]) := by rw [hf]; exact HSn
  clear hf hR hY
  unfold lgV
  dsimp only
  have hmb : 1 ≤ m ∧ m ≤ 1000001 := by omega
  have k0 : Blk 30 (w.alloc (.cells #[.int .i64 0, .int .i64 0, .int .u16 0, .int .u16 0, .int .u16 0, .int .i64 0, .int .i64 0, .int .u16 0, .int .u16 0, .int .u16 0, .int .i64 0, .int .i64 0, .bool false, .slice none 0 0] 30)) w.heap.size [.int .i64 0, .int .i64 0, .int .u16 0, .int .u16 0, .int .u16 0, .int .i64 0, .int .i64 0, .int .u16 0, .int .u16 0, .int .u16 0, .int .i64 0, .int .i64 0, .bool false, .slice none 0 0] := (heap_alloc_new w (.cells #[.int .i64 0, .int .i64 0, .int .u16 0, .int .u16 0, .int .u16 0, .int .i64 0, .int .i64 0, .int .u16 0, .int .u16 0, .int .u16 0, .int .i64 0, .int .i64 0, .bool false, .slice none 0 0] 30))
  replace k0 : Blk 30 ((w.alloc (.cells #[.int .i64 0, .int .i64 0, .int .u16 0, .int .u16 0, .int .u16 0, .int .i64 0, .int .i64 0, .int .u16 0, .int .u16 0, .int .u16 0, .int .i64 0, .int .i64 0, .bool false, .slice none 0 0] 30)).alloc (.cells #[.int .i64 b, .int .i64 t, .int .u16 0, .int .u16 0, .int .u16 0, .int .i64 0, .int .i64 0, .int .u16 0, .int .u16 0, .int .u16 0, .int .i64 0, .int .i64 0, .bool false, .slice none 0 0] 30)) w.heap.size [.int .i64 0, .int .i64 0, .int .u16 0, .int .u16 0, .int .u16 0, .int .i64 0, .int .i64 0, .int .u16 0, .int .u16 0, .int .u16 0, .int .i64 0, .int .i64 0, .bool false, .slice none 0 0] := k0.alloc _
  have k1 : Blk 30 ((w.alloc (.cells #[.int .i64 0, .int .i64 0, .int .u16 0, .int .u16 0, .int .u16 0, .int .i64 0, .int .i64 0, .int .u16 0, .int .u16 0, .int .u16 0, .int .i64 0, .int .i64 0, .bool false, .slice none 0 0] 30)).alloc (.cells #[.int .i64 b, .int .i64 t, .int .u16 0, .int .u16 0, .int .u16 0, .int .i64 0, .int .i64 0, .int .u16 0, .int .u16 0, .int .u16 0, .int .i64 0, .int .i64 0, .bool false, .slice none 0 0] 30)) (w.heap.size + 1) [.int .i64 b, .int .i64 t, .int .u16 0, .int .u16 0, .int .u16 0, .int .i64 0, .int .i64 0, .int .u16 0, .int .u16 0, .int .u16 0, .int .i64 0, .int .i64 0, .bool false, .slice none 0 0] := (by have h := heap_alloc_new (w.alloc (.cells #[.int .i64 0, .int .i64 0, .int .u16 0, .int .u16 0, .int .u16 0, .int .i64 0, .int .i64 0, .int .u16 0, .int .u16 0, .int .u16 0, .int .i64 0, .int .i64 0, .bool false, .slice none 0 0] 30)) (.cells #[.int .i64 b, .int .i64 t, .int .u16 0, .int .u16 0, .int .u16 0, .int .i64 0, .int .i64 0, .int .u16 0, .int .u16 0, .int .u16 0, .int .i64 0, .int .i64 0, .bool false, .slice none 0 0] 30); rwa [show (w.alloc (.cells #[.int .i64 0, .int .i64 0, .int .u16 0, .int .u16 0, .int .u16 0, .int .i64 0, .int .i64 0, .int .u16 0, .int .u16 0, .int .u16 0, .int .i64 0, .int .i64 0, .bool false, .slice none 0 0] 30)).heap.size = w.heap.size + 1 by simp] at h)
  have hB : Below w.heap.size w ((w.alloc (.cells #[.int .i64 0, .int .i64 0, .int .u16 0, .int .u16 0, .int .u16 0, .int .i64 0, .int .i64 0, .int .u16 0, .int .u16 0, .int .u16 0, .int .i64 0, .int .i64 0, .bool false, .slice none 0 0] 30)).alloc (.cells #[.int .i64 b, .int .i64 t, .int .u16 0, .int .u16 0, .int .u16 0, .int .i64 0, .int .i64 0, .int .u16 0, .int .u16 0, .int .u16 0, .int .i64 0, .int .i64 0, .bool false, .slice none 0 0] 30)) := (((Below.refl w.heap.size w).alloc (by first | exact Nat.le_refl _ | (simp; done) | (simp; omega)) (.cells #[.int .i64 0, .int .i64 0, .int .u16 0, .int .u16 0, .int .u16 0, .int .i64 0, .int .i64 0, .int .u16 0, .int .u16 0, .int .u16 0, .int .i64 0, .int .i64 0, .bool false, .slice none 0 0] 30)).alloc (by first | exact Nat.le_refl _ | (simp; done) | (simp; omega)) (.cells #[.int .i64 b, .int .i64 t, .int .u16 0, .int .u16 0, .int .u16 0, .int .i64 0, .int .i64 0, .int .u16 0, .int .u16 0, .int .u16 0, .int .i64 0, .int .i64 0, .bool false, .slice none 0 0] 30))
  have HB := Lib.hid hB
  have HS : Hid (∀ wq, Below ((w.alloc (.cells #[.int .i64 0, .int .i64 0, .int .u16 0, .int .u16 0, .int .u16 0, .int .i64 0, .int .i64 0, .int .u16 0, .int .u16 0, .int .u16 0, .int .i64 0, .int .i64 0, .bool false, .slice none 0 0] 30)).alloc (.cells #[.int .i64 b, .int .i64 t, .int .u16 0, .int .u16 0, .int .u16 0, .int .i64 0, .int .i64 0, .int .u16 0, .int .u16 0, .int .u16 0, .int .i64 0, .int .i64 0, .bool false, .slice none 0 0] 30)).heap.size ((w.alloc (.cells #[.int .i64 0, .int .i64 0, .int .u16 0, .int .u16 0, .int .u16 0, .int .i64 0, .int .i64 0, .int .u16 0, .int .u16 0, .int .u16 0, .int .i64 0, .int .i64 0, .bool false, .slice none 0 0] 30)).alloc (.cells #[.int .i64 b, .int .i64 t, .int .u16 0, .int .u16 0, .int .u16 0, .int .i64 0, .int .i64 0, .int .u16 0, .int .u16 0, .int .u16 0, .int .i64 0, .int .i64 0, .bool false, .slice none 0 0] 30)) wq → (wq.cell? ⟨w.heap.size, 0, none⟩ = some (.int .i64 0) ∧ wq.cell? ⟨w.heap.size, 1, none⟩ = some (.int .i64 0) ∧ wq.cell? ⟨w.heap.size, 2, none⟩ = some (.int .u16 0) ∧ wq.cell? ⟨w.heap.size, 3, none⟩ = some (.int .u16 0) ∧ wq.cell? ⟨w.heap.size, 4, none⟩ = some (.int .u16 0) ∧ wq.cell? ⟨w.heap.size, 5, none⟩ = some (.int .i64 0) ∧ wq.cell? ⟨w.heap.size, 6, none⟩ = some (.int .i64 0) ∧ wq.cell? ⟨w.heap.size, 7, none⟩ = some (.int .u16 0) ∧ wq.cell? ⟨w.heap.size, 8, none⟩ = some (.int .u16 0) ∧ wq.cell? ⟨w.heap.size, 9, none⟩ = some (.int .u16 0) ∧ wq.cell? ⟨w.heap.size, 10, none⟩ = some (.int .i64 0) ∧ wq.cell? ⟨w.heap.size, 11, none⟩ = some (.int .i64 0) ∧ wq.cell? ⟨w.heap.size, 12, none⟩ = some (.bool false) ∧ wq.cell? ⟨w.heap.size, 13, none⟩ = some (.slice none 0 0)) ∧ (wq.cell? ⟨(w.heap.size + 1), 0, none⟩ = some (.int .i64 b) ∧ wq.cell? ⟨(w.heap.size + 1), 1, none⟩ = some (.int .i64 t) ∧ wq.cell? ⟨(w.heap.size + 1), 2, none⟩ = some (.int .u16 0) ∧ wq.cell? ⟨(w.heap.size + 1), 3, none⟩ = some (.int .u16 0) ∧ wq.cell? ⟨(w.heap.size + 1), 4, none⟩ = some (.int .u16 0) ∧ wq.cell? ⟨(w.heap.size + 1), 5, none⟩ = some (.int .i64 0) ∧ wq.cell? ⟨(w.heap.size + 1), 6, none⟩ = some (.int .i64 0) ∧ wq.cell? ⟨(w.heap.size + 1), 7, none⟩ = some (.int .u16 0) ∧ wq.cell? ⟨(w.heap.size + 1), 8, none⟩ = some (.int .u16 0) ∧ wq.cell? ⟨(w.heap.size + 1), 9, none⟩ = some (.int .u16 0) ∧ wq.cell? ⟨(w.heap.size + 1), 10, none⟩ = some (.int .i64 0) ∧ wq.cell? ⟨(w.heap.size + 1), 11, none⟩ = some (.int .i64 0) ∧ wq.cell? ⟨(w.heap.size + 1), 12, none⟩ = some (.bool false) ∧ wq.cell? ⟨(w.heap.size + 1), 13, none⟩ = some (.slice none 0 0))) := fun wq hq => ⟨blk14 (k0.below hq k0.lt), blk14 (k1.below hq k1.lt)⟩
  have q0 := Below.refl ((w.alloc (.cells #[.int .i64 0, .int .i64 0, .int .u16 0, .int .u16 0, .int .u16 0, .int .i64 0, .int .i64 0, .int .u16 0, .int .u16 0, .int .u16 0, .int .i64 0, .int .i64 0, .bool false, .slice none 0 0] 30)).alloc (.cells #[.int .i64 b, .int .i64 t, .int .u16 0, .int .u16 0, .int .u16 0, .int .i64 0, .int .i64 0, .int .u16 0, .int .u16 0, .int .u16 0, .int .i64 0, .int .i64 0, .bool false, .slice none 0 0] 30)).heap.size ((w.alloc (.cells #[.int .i64 0, .int .i64 0, .int .u16 0, .int .u16 0, .int .u16 0, .int .i64 0, .int .i64 0, .int .u16 0, .int .u16 0, .int .u16 0, .int .i64 0, .int .i64 0, .bool false, .slice none 0 0] 30)).alloc (.cells #[.int .i64 b, .int .i64 t, .int .u16 0, .int .u16 0, .int .u16 0, .int .i64 0, .int .i64 0, .int .u16 0, .int .u16 0, .int .u16 0, .int .i64 0, .int .i64 0, .bool false, .slice none 0 0] 30))
  have K0 := Lib.hid k0
  have K1 := Lib.hid k1
  clear hB k0 k1
  by_cases ht1 : t < 1
  · skip
    have hmx : m = 1 := by omega
    go_enter Try.func35, Try.ntmps35
    go_upto_region 2 with (fail)
    generalize ((w.alloc (.cells #[.int .i64 0, .int .i64 0, .int .u16 0, .int .u16 0, .int .u16 0, .int .i64 0, .int .i64 0, .int .u16 0, .int .u16 0, .int .u16 0, .int .i64 0, .int .i64 0, .bool false, .slice none 0 0] 30)).alloc (.cells #[.int .i64 b, .int .i64 t, .int .u16 0, .int .u16 0, .int .u16 0, .int .i64 0, .int .i64 0, .int .u16 0, .int .u16 0, .int .u16 0, .int .i64 0, .int .i64 0, .bool false, .slice none 0 0] 30)) = w2 at *
    have HB2 := Lib.hid HB.out
    have l2 := Lib.hid K1.out.lt
    have l0 := Lib.hid K0.out.lt
    replace hmx := Lib.hid hmx
    replace hm := Lib.hid hm
    go_wp2_with fail
    go_loopw [8, 9] (fun tv iv wr => ∃ (i : Nat) (A' : Option Addr) (c' : Nat), i ≤ n ∧ tv = .int .i64 (f i) ∧ iv = .int .i64 (i : Int) ∧ Hid (Blk 30 wr (w.heap.size + 1) [.int .i64 b, .int .i64 t, .int .u16 0, .int .u16 0, .int .u16 0, .int .i64 0, .int .i64 0, .int .u16 0, .int .u16 0, .int .u16 0, .int .i64 0, .int .i64 0, .bool false, .slice A' i c']) ∧ Hid (OwnE wr (w.heap.size + 2) (.slice A' i c') (es.take i)) ∧ Hid (Below (w.heap.size + 1) w2 wr)) (fun _ iv _ => n - (intOf iv).toNat)
    case atStart => exact ⟨0, none, 0, Nat.zero_le _, congrArg (Value.int .i64) (by have := HZ0.out; have := hmx.out; omega), rfl, K1, Lib.hid (OwnE.nil _ _), Lib.hid (Below.refl _ _)⟩
    case round =>
      obtain ⟨i, A', c', hi, rfl, rfl, HK, HO, HYr⟩ := hrel
      have c14 := blk14 HK.out
      by_cases hin : i < n
      · skip
        obtain ⟨bs, os, rfl, hbs, hcs⟩ := HR.out.2 (by omega)
        have hci : wr.cell? ⟨bs, os + i, none⟩ = some (.int .u8 (l.getD i 0)) := by rw [(HB2.out.trans (HYr.out.mono (Nat.le_succ _))).cell (p := ⟨bs, os + i, none⟩) hbs]; exact hcs i hin
        have hxb := HY.out.at_ i
        have hts := HTs.out i hin
        have HSi := Lib.hid (HSn.out i hin)
        have htb := HTb.out i
        have htb2 := HTb.out (i + 1)
        generalize l.getD i 0 = x at *
        have hrm : Int.tmod x 3 = x % 3 := Int.tmod_eq_emod_of_nonneg hxb.1
        obtain ⟨y, hy⟩ : ∃ y, y = x % 3 := ⟨_, rfl⟩
        have hy2 : 0 ≤ y ∧ y ≤ 2 := by omega
        rw [← hy] at hrm hts
        replace hy := Lib.hid hy
        obtain ⟨f2, hf2⟩ : ∃ f2, f2 = f (i + 1) := ⟨_, rfl⟩
        rw [← hf2] at hts HSi htb2
        obtain ⟨f1, hf1⟩ : ∃ f1, f1 = f i := ⟨_, rfl⟩
        rw [← hf1] at hts htb
        rw [← hf1]
        replace hf1 := Lib.hid hf1
        replace hf2 := Lib.hid hf2
        have wy : wrap64 y = y := by unfold wrap64; omega
        have wi : wrap64 (f1 + y) = f2 := by unfold wrap64; omega
        replace hts := Lib.hid hts
        have hin1 : (i : Int) < (n : Int) := by omega
        replace htb := Lib.hid htb
        replace htb2 := Lib.hid htb2
        replace hy2 := Lib.hid hy2
        replace hmb := Lib.hid hmb
        clear HTs HSn HTb HAll HZ0 hcs
        go_upto_region 7 with (fail)
        have hg1 := Lib.hid (show w.heap.size + 1 < w.heap.size + 2 by omega)
        have hg2 := Lib.hid (show w.heap.size + 2 ≤ wr.heap.size from Nat.le_trans (by have := l2.out; omega) HYr.out.size)
        have HT2 : Hid (∀ wq, Below (w.heap.size + 2) wr wq → wq.cell? ⟨w.heap.size + 1, 13, none⟩ = some (.slice A' i c') ∧ wq.cell? ⟨bs, os + i, none⟩ = some (.int .u8 x)) := fun wq hq => ⟨(HK.out.below hq (by omega)).cell 13, by rw [hq.cell (p := ⟨bs, os + i, none⟩) (by show bs < _; omega)]; exact hci⟩
        have HT : Hid (∀ wq, Below wr.heap.size wr wq → wq.cell? ⟨w.heap.size + 1, 13, none⟩ = some (.slice A' i c') ∧ wq.cell? ⟨bs, os + i, none⟩ = some (.int .u8 x)) := fun wq hq => HT2.out wq (hq.mono hg2.out)
        refine tail.region (S := fun wq => wq.cell? ⟨w.heap.size + 1, 13, none⟩ = some (.slice A' i c') ∧ wq.cell? ⟨bs, os + i, none⟩ = some (.int .u8 x)) [13] (by kernel_rfl) (HT.out _ ((Below.refl _ _).drew)) (fun hHeld => ?_)
        refine tail.take (i := 0) (oi := { dst := some 29, op := .fieldAddr 30 (.tmp 7) 3, type := 0, pos := "law.go:94", after := #[], guard := none }) (v := ?v_0_10) rfl (by kernel_rfl) (by kernel_rfl) (by kernel_rfl) (fun _ _ _ h => h) (Or.inl ⟨by rfl, ?y_0_10⟩) (by assumption) (by kernel_rfl) (by kernel_rfl) ?_
        case y_0_10 => (intro wq hSw; (try dsimp only at hSw); go_simp; first | done | with_reducible rfl)
        try simp only [Act.put, List.setIfInBounds_toArray, List.set_cons_zero, List.set_cons_succ]
        refine tail.take (i := 1) (oi := { dst := some 30, op := .load 28 (.tmp 29), type := 28, pos := "law.go:94", after := #[{ on := 0, ground := .data }], guard := none }) (v := ?v_1_10) rfl (by kernel_rfl) (by kernel_rfl) (by kernel_rfl) (fun _ _ _ h => h) (Or.inl ⟨by rfl, ?y_1_10⟩) (by assumption) (by kernel_rfl) (by kernel_rfl) ?_
        case y_1_10 => (intro wq hSw; (try dsimp only at hSw); go_simp; first | done | with_reducible rfl)
        try simp only [Act.put, List.setIfInBounds_toArray, List.set_cons_zero, List.set_cons_succ]
        refine tail.take (i := 2) (oi := { dst := some 31, op := .move (.tmp 8), type := 3, pos := "law.go:94", after := #[], guard := none }) (v := ?v_2_10) rfl (by kernel_rfl) (by kernel_rfl) (by kernel_rfl) (fun _ _ _ h => h) (Or.inl ⟨by rfl, ?y_2_10⟩) (by assumption) (by kernel_rfl) (by kernel_rfl) ?_
        case y_2_10 => (intro wq hSw; (try dsimp only at hSw); go_simp; first | done | with_reducible rfl)
        try simp only [Act.put, List.setIfInBounds_toArray, List.set_cons_zero, List.set_cons_succ]
        refine tail.take (i := 3) (oi := { dst := some 32, op := .move (.tmp 0), type := 56, pos := "law.go:94", after := #[], guard := none }) (v := ?v_3_10) rfl (by kernel_rfl) (by kernel_rfl) (by kernel_rfl) (fun _ _ _ h => h) (Or.inl ⟨by rfl, ?y_3_10⟩) (by assumption) (by kernel_rfl) (by kernel_rfl) ?_
        case y_3_10 => (intro wq hSw; (try dsimp only at hSw); go_simp; first | done | with_reducible rfl)
        try simp only [Act.put, List.setIfInBounds_toArray, List.set_cons_zero, List.set_cons_succ]
        refine tail.take (i := 4) (oi := { dst := some 33, op := .move (.tmp 9), type := 3, pos := "law.go:94", after := #[], guard := none }) (v := ?v_4_10) rfl (by kernel_rfl) (by kernel_rfl) (by kernel_rfl) (fun _ _ _ h => h) (Or.inl ⟨by rfl, ?y_4_10⟩) (by assumption) (by kernel_rfl) (by kernel_rfl) ?_
        case y_4_10 => (intro wq hSw; (try dsimp only at hSw); go_simp; first | done | with_reducible rfl)
        try simp only [Act.put, List.setIfInBounds_toArray, List.set_cons_zero, List.set_cons_succ]
        refine tail.take (i := 5) (oi := { dst := some 34, op := .indexAddr 56 (.tmp 32) (.tmp 33), type := 0, pos := "law.go:94", after := #[{ on := 3, ground := .data }, { on := 4, ground := .data }], guard := none }) (v := ?v_5_10) rfl (by kernel_rfl) (by kernel_rfl) (by kernel_rfl) (fun _ _ _ h => h) (Or.inl ⟨by rfl, ?y_5_10⟩) (by assumption) (by kernel_rfl) (by kernel_rfl) ?_
        case y_5_10 => (intro wq hSw; (try dsimp only at hSw); go_simp; first | done | with_reducible rfl)
        try simp only [Act.put, List.setIfInBounds_toArray, List.set_cons_zero, List.set_cons_succ]
        refine tail.take (i := 6) (oi := { dst := some 35, op := .load 5 (.tmp 34), type := 5, pos := "law.go:94", after := #[{ on := 5, ground := .data }], guard := none }) (v := ?v_6_10) rfl (by kernel_rfl) (by kernel_rfl) (by kernel_rfl) (fun _ _ _ h => h) (Or.inl ⟨by rfl, ?y_6_10⟩) (by assumption) (by kernel_rfl) (by kernel_rfl) ?_
        case y_6_10 => (intro wq hSw; (try dsimp only at hSw); go_simp; first | done | with_reducible rfl)
        try simp only [Act.put, List.setIfInBounds_toArray, List.set_cons_zero, List.set_cons_succ]
        refine tail.next (i := 7) (o := { dst := some 36, op := .buildSlice 56 1 #[(0, .tmp 35)], type := 56, pos := "law.go:94", after := #[{ on := 6, ground := .data }], guard := none }) rfl (by kernel_rfl) (fun KQ hKQ => ?_)
        go_simp
        have kb : Blk 5 ((wr.alloc (.cells #[.int .u8 x] 5)).drew) wr.heap.size [.int .u8 x] := Blk.drew (show Blk 5 (wr.alloc (.cells #[.int .u8 x] 5)) wr.heap.size [.int .u8 x] from heap_alloc_new wr _)
        have b1 := ((Below.refl wr.heap.size wr).alloc (Nat.le_refl _) (.cells #[.int .u8 x] 5)).drew
        generalize (wr.alloc (.cells #[.int .u8 x] 5)).drew = z1 at *
        have hst : (convert 56 9 (.slice (some ⟨wr.heap.size, 0, none⟩) 1 1)).run Try.prog z1 = .ok (.string (strOfNums [x])) z1 := run_string_rd z1 56 5 9 Try.underlying56 Try.underlying5 Try.underlying9 z1.heap.size (some ⟨wr.heap.size, 0, none⟩) 1 1 [x] ⟨rfl, fun _ => ⟨wr.heap.size, 0, rfl, kb.lt, fun q hq => by obtain rfl : q = 0 := (by omega); exact kb.cell 0⟩⟩
        have s1 := HT.out _ b1
        refine hKQ.out _ _ ?s_7 ?_
        case s_7 => exact .inr s1
        clear hKQ KQ
        try simp only [Act.put, List.setIfInBounds_toArray, List.set_cons_zero, List.set_cons_succ]
        refine tail.next (i := 8) (o := { dst := some 37, op := .convert 56 9 (.tmp 36), type := 9, pos := "law.go:94", after := #[{ on := 7, ground := .data }], guard := none }) rfl (by kernel_rfl) (fun KQ hKQ => ?_)
        go_simp
        refine hKQ.out _ _ ?s_8 ?_
        case s_8 => exact .inr s1
        clear hKQ KQ
        try simp only [Act.put, List.setIfInBounds_toArray, List.set_cons_zero, List.set_cons_succ]
        refine tail.take (i := 9) (oi := { dst := some 38, op := .build 37 #[(0, .tmp 31), (1, .const (.int .i64 1)), (2, .tmp 37)], type := 37, pos := "law.go:94", after := #[{ on := 2, ground := .data }, { on := 8, ground := .data }], guard := none }) (v := ?v_9_10) rfl (by kernel_rfl) (by kernel_rfl) (by kernel_rfl) (fun _ _ _ h => h) (Or.inl ⟨by rfl, ?y_9_10⟩) (by assumption) (by kernel_rfl) (by kernel_rfl) ?_
        case y_9_10 => (intro wq hSw; (try dsimp only at hSw); go_simp; first | done | with_reducible rfl)
        try simp only [Act.put, List.setIfInBounds_toArray, List.set_cons_zero, List.set_cons_succ]
        refine tail.next (i := 10) (o := { dst := some 39, op := .buildSlice 28 1 #[(0, .tmp 38)], type := 28, pos := "law.go:94", after := #[{ on := 9, ground := .data }], guard := none }) rfl (by kernel_rfl) (fun KQ hKQ => ?_)
        go_simp
        have kx : Blk 37 (z1.alloc (.cells #[.int .i64 f2, .int .i64 1, .string (strOfNums [x]), .int .u16 0, .int .u16 0, .int .u16 0, .int .i64 0, .int .i64 0, .int .u16 0, .int .u16 0, .int .u16 0, .int .i64 0, .int .i64 0, .bool false] 37)) z1.heap.size (enC ⟨f2, 1, strOfNums [x], zeroJ⟩) := heap_alloc_new z1 _
        have b2 := b1.alloc b1.size (.cells #[.int .i64 f2, .int .i64 1, .string (strOfNums [x]), .int .u16 0, .int .u16 0, .int .u16 0, .int .i64 0, .int .i64 0, .int .u16 0, .int .u16 0, .int .u16 0, .int .i64 0, .int .i64 0, .bool false] 37)
        generalize (z1.alloc (.cells #[.int .i64 f2, .int .i64 1, .string (strOfNums [x]), .int .u16 0, .int .u16 0, .int .u16 0, .int .i64 0, .int .i64 0, .int .u16 0, .int .u16 0, .int .u16 0, .int .i64 0, .int .i64 0, .bool false] 37)) = z2 at *
        have RX := ref12.rd_one kx
        have s2 := HT.out _ b2
        refine hKQ.out _ _ ?s_10 ?_
        case s_10 => exact .inr s2
        clear hKQ KQ
        try simp only [Act.put, List.setIfInBounds_toArray, List.set_cons_zero, List.set_cons_succ]
        refine tail.next (i := 11) (o := { dst := some 40, op := .call { callee := .builtin .append, args := #[.tmp 30, .tmp 39], argTypes := #[28, 28] }, type := 28, pos := "law.go:94", after := #[{ on := 1, ground := .data }, { on := 10, ground := .data }], guard := none }) rfl (by kernel_rfl) (fun KQ hKQ => ?_)
        refine step_appR rfl _ _ 28 rfl _ _ rfl rfl _ (ref12.app_E _ (HO.out.below b2) RX (by omega) (Nat.le_trans hg2.out b2.size)) ?_
        rintro v z3 ⟨A6, c6, rfl, hO6, hB6, _⟩
        have b3 := (b2.mono hg2.out).trans hB6
        have s3 := HT2.out _ b3
        refine hKQ.out _ _ ?s_11 ?_
        case s_11 => exact .inr s3
        clear hKQ KQ
        try simp only [Act.put, List.setIfInBounds_toArray, List.set_cons_zero, List.set_cons_succ]
        refine tail.take (i := 12) (oi := { dst := some 41, op := .fieldAddr 30 (.tmp 7) 3, type := 0, pos := "law.go:94", after := #[{ on := 0, ground := .phase }, { on := 1, ground := .phase }, { on := 2, ground := .phase }, { on := 3, ground := .phase }, { on := 4, ground := .phase }, { on := 5, ground := .phase }, { on := 6, ground := .phase }, { on := 7, ground := .phase }, { on := 8, ground := .phase }, { on := 9, ground := .phase }, { on := 10, ground := .phase }, { on := 11, ground := .phase }], guard := none }) (v := ?v_12_10) rfl (by kernel_rfl) (by kernel_rfl) (by kernel_rfl) (fun _ _ _ h => h) (Or.inl ⟨by rfl, ?y_12_10⟩) (by assumption) (by kernel_rfl) (by kernel_rfl) ?_
        case y_12_10 => (intro wq hSw; (try dsimp only at hSw); go_simp; first | done | with_reducible rfl)
        try simp only [Act.put, List.setIfInBounds_toArray, List.set_cons_zero, List.set_cons_succ]
        refine tail.next (i := 13) (o := { dst := none, op := .store 28 (.tmp 41) (.tmp 40), type := 0, pos := "law.go:94", after := #[{ on := 12, ground := .data }, { on := 11, ground := .data }, { on := 11, ground := .chain }, { on := 0, ground := .phase }, { on := 1, ground := .phase }, { on := 2, ground := .phase }, { on := 3, ground := .phase }, { on := 4, ground := .phase }, { on := 5, ground := .phase }, { on := 6, ground := .phase }, { on := 7, ground := .phase }, { on := 8, ground := .phase }, { on := 9, ground := .phase }, { on := 10, ground := .phase }, { on := 11, ground := .phase }], guard := none }) rfl (by kernel_rfl) (fun KQ hKQ => ?_)
        have df0 := fun q => (HK.out.below b3 hg1.out).frozen q
        have c13 := (HK.out.below b3 hg1.out).cell 13
        go_simp
        have kN := (HK.out.below b3 hg1.out).set_ 13 (.slice A6 (i + 1) c6)
        have oN := hO6.far (p := ⟨w.heap.size + 1, 13, none⟩) (by show w.heap.size + 1 < w.heap.size + 2; omega) (.slice A6 (i + 1) c6)
        have bN := (HYr.out.trans (b3.mono (Nat.le_succ _))).setCell (p := ⟨w.heap.size + 1, 13, none⟩) (Nat.le_refl _) (.slice A6 (i + 1) c6)
        refine hKQ.out _ _ ?s_13 ?_
        case s_13 => exact .inl (by decide)
        clear hKQ KQ
        try simp only [Act.put, List.setIfInBounds_toArray, List.set_cons_zero, List.set_cons_succ]
        refine tail.done (by kernel_rfl) ?_ _
        go_wp2_with fail
        go_roundw
        case rel => exact ⟨i + 1, A6, c6, by omega, congrArg (Value.int .i64) hf2.out, by go_num, Lib.hid kN, (by show OwnE _ _ _ _; rw [HSi.out]; exact oN), Lib.hid bN⟩
        case measure => simp [intOf] <;> omega
      · skip
        obtain rfl : i = n := by omega
        have hnn : ¬ ((i : Int) < (i : Int)) := by omega
        have k0q : Blk 30 wr w.heap.size [.int .i64 0, .int .i64 0, .int .u16 0, .int .u16 0, .int .u16 0, .int .i64 0, .int .i64 0, .int .u16 0, .int .u16 0, .int .u16 0, .int .i64 0, .int .i64 0, .bool false, .slice none 0 0] := K0.out.below HYr.out (Nat.lt_succ_self _)
        have c15 := blk14 k0q
        have df := fun q => k0q.frozen q
        replace k0q := Lib.hid k0q
        have hEs := HAll.out
        clear HTs HSn HTb HAll HZ0
        go_wp2_with fail
        have sF := put14 (.int .i64 b) (.int .i64 t) (.int .u16 0) (.int .u16 0) (.int .u16 0) (.int .i64 0) (.int .i64 0) (.int .u16 0) (.int .u16 0) (.int .u16 0) (.int .i64 0) (.int .i64 0) (.bool false) (.slice A' i c') k0q.out
        have bF := below14 (g := w.heap.size) (.int .i64 b) (.int .i64 t) (.int .u16 0) (.int .u16 0) (.int .u16 0) (.int .i64 0) (.int .i64 0) (.int .u16 0) (.int .u16 0) (.int .u16 0) (.int .i64 0) (.int .i64 0) (.bool false) (.slice A' i c') (HB2.out.trans (HYr.out.mono (Nat.le_succ _))) (by first | omega | simp)
        have oF := own14 (g := w.heap.size) (.int .i64 b) (.int .i64 t) (.int .u16 0) (.int .u16 0) (.int .u16 0) (.int .i64 0) (.int .i64 0) (.int .u16 0) (.int .u16 0) (.int .u16 0) (.int .i64 0) (.int .i64 0) (.bool false) (.slice A' i c') HO.out (show w.heap.size < w.heap.size + 2 by omega)
        generalize ((((((((((((((wr.setCell ⟨w.heap.size, 0, none⟩ (.int .i64 b)).setCell ⟨w.heap.size, 1, none⟩ (.int .i64 t)).setCell ⟨w.heap.size, 2, none⟩ (.int .u16 0)).setCell ⟨w.heap.size, 3, none⟩ (.int .u16 0)).setCell ⟨w.heap.size, 4, none⟩ (.int .u16 0)).setCell ⟨w.heap.size, 5, none⟩ (.int .i64 0)).setCell ⟨w.heap.size, 6, none⟩ (.int .i64 0)).setCell ⟨w.heap.size, 7, none⟩ (.int .u16 0)).setCell ⟨w.heap.size, 8, none⟩ (.int .u16 0)).setCell ⟨w.heap.size, 9, none⟩ (.int .u16 0)).setCell ⟨w.heap.size, 10, none⟩ (.int .i64 0)).setCell ⟨w.heap.size, 11, none⟩ (.int .i64 0)).setCell ⟨w.heap.size, 12, none⟩ (.bool false)).setCell ⟨w.heap.size, 13, none⟩ (.slice A' i c')) = wf at *
        (try simp only [Exit.inBlock, Exit.then])
        refine bodyPost_ret (res1 Try.results35 rfl (aggL _) (sizeL _) (ld14 sF)) rfl ?_
        exact ⟨A', c', by rfl, (by show OwnE _ _ _ _; rw [← hEs]; exact oF.more (by omega)), bF⟩
  · skip
    have hmx : m = t := by omega
    go_enter Try.func35, Try.ntmps35
    go_upto_region 2 with (fail)
    generalize ((w.alloc (.cells #[.int .i64 0, .int .i64 0, .int .u16 0, .int .u16 0, .int .u16 0, .int .i64 0, .int .i64 0, .int .u16 0, .int .u16 0, .int .u16 0, .int .i64 0, .int .i64 0, .bool false, .slice none 0 0] 30)).alloc (.cells #[.int .i64 b, .int .i64 t, .int .u16 0, .int .u16 0, .int .u16 0, .int .i64 0, .int .i64 0, .int .u16 0, .int .u16 0, .int .u16 0, .int .i64 0, .int .i64 0, .bool false, .slice none 0 0] 30)) = w2 at *
    have HB2 := Lib.hid HB.out
    have l2 := Lib.hid K1.out.lt
    have l0 := Lib.hid K0.out.lt
    replace hmx := Lib.hid hmx
    replace hm := Lib.hid hm
    go_wp2_with fail
    go_loopw [8, 9] (fun tv iv wr => ∃ (i : Nat) (A' : Option Addr) (c' : Nat), i ≤ n ∧ tv = .int .i64 (f i) ∧ iv = .int .i64 (i : Int) ∧ Hid (Blk 30 wr (w.heap.size + 1) [.int .i64 b, .int .i64 t, .int .u16 0, .int .u16 0, .int .u16 0, .int .i64 0, .int .i64 0, .int .u16 0, .int .u16 0, .int .u16 0, .int .i64 0, .int .i64 0, .bool false, .slice A' i c']) ∧ Hid (OwnE wr (w.heap.size + 2) (.slice A' i c') (es.take i)) ∧ Hid (Below (w.heap.size + 1) w2 wr)) (fun _ iv _ => n - (intOf iv).toNat)
    case atStart => exact ⟨0, none, 0, Nat.zero_le _, congrArg (Value.int .i64) (by have := HZ0.out; have := hmx.out; omega), rfl, K1, Lib.hid (OwnE.nil _ _), Lib.hid (Below.refl _ _)⟩
    case round =>
      obtain ⟨i, A', c', hi, rfl, rfl, HK, HO, HYr⟩ := hrel
      have c14 := blk14 HK.out
      by_cases hin : i < n
      · skip
        obtain ⟨bs, os, rfl, hbs, hcs⟩ := HR.out.2 (by omega)
        have hci : wr.cell? ⟨bs, os + i, none⟩ = some (.int .u8 (l.getD i 0)) := by rw [(HB2.out.trans (HYr.out.mono (Nat.le_succ _))).cell (p := ⟨bs, os + i, none⟩) hbs]; exact hcs i hin
        have hxb := HY.out.at_ i
        have hts := HTs.out i hin
        have HSi := Lib.hid (HSn.out i hin)
        have htb := HTb.out i
        have htb2 := HTb.out (i + 1)
        generalize l.getD i 0 = x at *
        have hrm : Int.tmod x 3 = x % 3 := Int.tmod_eq_emod_of_nonneg hxb.1
        obtain ⟨y, hy⟩ : ∃ y, y = x % 3 := ⟨_, rfl⟩
        have hy2 : 0 ≤ y ∧ y ≤ 2 := by omega
        rw [← hy] at hrm hts
        replace hy := Lib.hid hy
        obtain ⟨f2, hf2⟩ : ∃ f2, f2 = f (i + 1) := ⟨_, rfl⟩
        rw [← hf2] at hts HSi htb2
        obtain ⟨f1, hf1⟩ : ∃ f1, f1 = f i := ⟨_, rfl⟩
        rw [← hf1] at hts htb
        rw [← hf1]
        replace hf1 := Lib.hid hf1
        replace hf2 := Lib.hid hf2
        have wy : wrap64 y = y := by unfold wrap64; omega
        have wi : wrap64 (f1 + y) = f2 := by unfold wrap64; omega
        replace hts := Lib.hid hts
        have hin1 : (i : Int) < (n : Int) := by omega
        replace htb := Lib.hid htb
        replace htb2 := Lib.hid htb2
        replace hy2 := Lib.hid hy2
        replace hmb := Lib.hid hmb
        clear HTs HSn HTb HAll HZ0 hcs
        go_upto_region 7 with (fail)
        have hg1 := Lib.hid (show w.heap.size + 1 < w.heap.size + 2 by omega)
        have hg2 := Lib.hid (show w.heap.size + 2 ≤ wr.heap.size from Nat.le_trans (by have := l2.out; omega) HYr.out.size)
        have HT2 : Hid (∀ wq, Below (w.heap.size + 2) wr wq → wq.cell? ⟨w.heap.size + 1, 13, none⟩ = some (.slice A' i c') ∧ wq.cell? ⟨bs, os + i, none⟩ = some (.int .u8 x)) := fun wq hq => ⟨(HK.out.below hq (by omega)).cell 13, by rw [hq.cell (p := ⟨bs, os + i, none⟩) (by show bs < _; omega)]; exact hci⟩
        have HT : Hid (∀ wq, Below wr.heap.size wr wq → wq.cell? ⟨w.heap.size + 1, 13, none⟩ = some (.slice A' i c') ∧ wq.cell? ⟨bs, os + i, none⟩ = some (.int .u8 x)) := fun wq hq => HT2.out wq (hq.mono hg2.out)
        refine tail.region (S := fun wq => wq.cell? ⟨w.heap.size + 1, 13, none⟩ = some (.slice A' i c') ∧ wq.cell? ⟨bs, os + i, none⟩ = some (.int .u8 x)) [13] (by kernel_rfl) (HT.out _ ((Below.refl _ _).drew)) (fun hHeld => ?_)
        refine tail.take (i := 0) (oi := { dst := some 29, op := .fieldAddr 30 (.tmp 7) 3, type := 0, pos := "law.go:94", after := #[], guard := none }) (v := ?v_0_11) rfl (by kernel_rfl) (by kernel_rfl) (by kernel_rfl) (fun _ _ _ h => h) (Or.inl ⟨by rfl, ?y_0_11⟩) (by assumption) (by kernel_rfl) (by kernel_rfl) ?_
        case y_0_11 => (intro wq hSw; (try dsimp only at hSw); go_simp; first | done | with_reducible rfl)
        try simp only [Act.put, List.setIfInBounds_toArray, List.set_cons_zero, List.set_cons_succ]
        refine tail.take (i := 1) (oi := { dst := some 30, op := .load 28 (.tmp 29), type := 28, pos := "law.go:94", after := #[{ on := 0, ground := .data }], guard := none }) (v := ?v_1_11) rfl (by kernel_rfl) (by kernel_rfl) (by kernel_rfl) (fun _ _ _ h => h) (Or.inl ⟨by rfl, ?y_1_11⟩) (by assumption) (by kernel_rfl) (by kernel_rfl) ?_
        case y_1_11 => (intro wq hSw; (try dsimp only at hSw); go_simp; first | done | with_reducible rfl)
        try simp only [Act.put, List.setIfInBounds_toArray, List.set_cons_zero, List.set_cons_succ]
        refine tail.take (i := 2) (oi := { dst := some 31, op := .move (.tmp 8), type := 3, pos := "law.go:94", after := #[], guard := none }) (v := ?v_2_11) rfl (by kernel_rfl) (by kernel_rfl) (by kernel_rfl) (fun _ _ _ h => h) (Or.inl ⟨by rfl, ?y_2_11⟩) (by assumption) (by kernel_rfl) (by kernel_rfl) ?_
        case y_2_11 => (intro wq hSw; (try dsimp only at hSw); go_simp; first | done | with_reducible rfl)
        try simp only [Act.put, List.setIfInBounds_toArray, List.set_cons_zero, List.set_cons_succ]
        refine tail.take (i := 3) (oi := { dst := some 32, op := .move (.tmp 0), type := 56, pos := "law.go:94", after := #[], guard := none }) (v := ?v_3_11) rfl (by kernel_rfl) (by kernel_rfl) (by kernel_rfl) (fun _ _ _ h => h) (Or.inl ⟨by rfl, ?y_3_11⟩) (by assumption) (by kernel_rfl) (by kernel_rfl) ?_
        case y_3_11 => (intro wq hSw; (try dsimp only at hSw); go_simp; first | done | with_reducible rfl)
        try simp only [Act.put, List.setIfInBounds_toArray, List.set_cons_zero, List.set_cons_succ]
        refine tail.take (i := 4) (oi := { dst := some 33, op := .move (.tmp 9), type := 3, pos := "law.go:94", after := #[], guard := none }) (v := ?v_4_11) rfl (by kernel_rfl) (by kernel_rfl) (by kernel_rfl) (fun _ _ _ h => h) (Or.inl ⟨by rfl, ?y_4_11⟩) (by assumption) (by kernel_rfl) (by kernel_rfl) ?_
        case y_4_11 => (intro wq hSw; (try dsimp only at hSw); go_simp; first | done | with_reducible rfl)
        try simp only [Act.put, List.setIfInBounds_toArray, List.set_cons_zero, List.set_cons_succ]
        refine tail.take (i := 5) (oi := { dst := some 34, op := .indexAddr 56 (.tmp 32) (.tmp 33), type := 0, pos := "law.go:94", after := #[{ on := 3, ground := .data }, { on := 4, ground := .data }], guard := none }) (v := ?v_5_11) rfl (by kernel_rfl) (by kernel_rfl) (by kernel_rfl) (fun _ _ _ h => h) (Or.inl ⟨by rfl, ?y_5_11⟩) (by assumption) (by kernel_rfl) (by kernel_rfl) ?_
        case y_5_11 => (intro wq hSw; (try dsimp only at hSw); go_simp; first | done | with_reducible rfl)
        try simp only [Act.put, List.setIfInBounds_toArray, List.set_cons_zero, List.set_cons_succ]
        refine tail.take (i := 6) (oi := { dst := some 35, op := .load 5 (.tmp 34), type := 5, pos := "law.go:94", after := #[{ on := 5, ground := .data }], guard := none }) (v := ?v_6_11) rfl (by kernel_rfl) (by kernel_rfl) (by kernel_rfl) (fun _ _ _ h => h) (Or.inl ⟨by rfl, ?y_6_11⟩) (by assumption) (by kernel_rfl) (by kernel_rfl) ?_
        case y_6_11 => (intro wq hSw; (try dsimp only at hSw); go_simp; first | done | with_reducible rfl)
        try simp only [Act.put, List.setIfInBounds_toArray, List.set_cons_zero, List.set_cons_succ]
        refine tail.next (i := 7) (o := { dst := some 36, op := .buildSlice 56 1 #[(0, .tmp 35)], type := 56, pos := "law.go:94", after := #[{ on := 6, ground := .data }], guard := none }) rfl (by kernel_rfl) (fun KQ hKQ => ?_)
        go_simp
        have kb : Blk 5 ((wr.alloc (.cells #[.int .u8 x] 5)).drew) wr.heap.size [.int .u8 x] := Blk.drew (show Blk 5 (wr.alloc (.cells #[.int .u8 x] 5)) wr.heap.size [.int .u8 x] from heap_alloc_new wr _)
        have b1 := ((Below.refl wr.heap.size wr).alloc (Nat.le_refl _) (.cells #[.int .u8 x] 5)).drew
        generalize (wr.alloc (.cells #[.int .u8 x] 5)).drew = z1 at *
        have hst : (convert 56 9 (.slice (some ⟨wr.heap.size, 0, none⟩) 1 1)).run Try.prog z1 = .ok (.string (strOfNums [x])) z1 := run_string_rd z1 56 5 9 Try.underlying56 Try.underlying5 Try.underlying9 z1.heap.size (some ⟨wr.heap.size, 0, none⟩) 1 1 [x] ⟨rfl, fun _ => ⟨wr.heap.size, 0, rfl, kb.lt, fun q hq => by obtain rfl : q = 0 := (by omega); exact kb.cell 0⟩⟩
        have s1 := HT.out _ b1
        refine hKQ.out _ _ ?s_7 ?_
        case s_7 => exact .inr s1
        clear hKQ KQ
        try simp only [Act.put, List.setIfInBounds_toArray, List.set_cons_zero, List.set_cons_succ]
        refine tail.next (i := 8) (o := { dst := some 37, op := .convert 56 9 (.tmp 36), type := 9, pos := "law.go:94", after := #[{ on := 7, ground := .data }], guard := none }) rfl (by kernel_rfl) (fun KQ hKQ => ?_)
        go_simp
        refine hKQ.out _ _ ?s_8 ?_
        case s_8 => exact .inr s1
        clear hKQ KQ
        try simp only [Act.put, List.setIfInBounds_toArray, List.set_cons_zero, List.set_cons_succ]
        refine tail.take (i := 9) (oi := { dst := some 38, op := .build 37 #[(0, .tmp 31), (1, .const (.int .i64 1)), (2, .tmp 37)], type := 37, pos := "law.go:94", after := #[{ on := 2, ground := .data }, { on := 8, ground := .data }], guard := none }) (v := ?v_9_11) rfl (by kernel_rfl) (by kernel_rfl) (by kernel_rfl) (fun _ _ _ h => h) (Or.inl ⟨by rfl, ?y_9_11⟩) (by assumption) (by kernel_rfl) (by kernel_rfl) ?_
        case y_9_11 => (intro wq hSw; (try dsimp only at hSw); go_simp; first | done | with_reducible rfl)
        try simp only [Act.put, List.setIfInBounds_toArray, List.set_cons_zero, List.set_cons_succ]
        refine tail.next (i := 10) (o := { dst := some 39, op := .buildSlice 28 1 #[(0, .tmp 38)], type := 28, pos := "law.go:94", after := #[{ on := 9, ground := .data }], guard := none }) rfl (by kernel_rfl) (fun KQ hKQ => ?_)
        go_simp
        have kx : Blk 37 (z1.alloc (.cells #[.int .i64 f2, .int .i64 1, .string (strOfNums [x]), .int .u16 0, .int .u16 0, .int .u16 0, .int .i64 0, .int .i64 0, .int .u16 0, .int .u16 0, .int .u16 0, .int .i64 0, .int .i64 0, .bool false] 37)) z1.heap.size (enC ⟨f2, 1, strOfNums [x], zeroJ⟩) := heap_alloc_new z1 _
        have b2 := b1.alloc b1.size (.cells #[.int .i64 f2, .int .i64 1, .string (strOfNums [x]), .int .u16 0, .int .u16 0, .int .u16 0, .int .i64 0, .int .i64 0, .int .u16 0, .int .u16 0, .int .u16 0, .int .i64 0, .int .i64 0, .bool false] 37)
        generalize (z1.alloc (.cells #[.int .i64 f2, .int .i64 1, .string (strOfNums [x]), .int .u16 0, .int .u16 0, .int .u16 0, .int .i64 0, .int .i64 0, .int .u16 0, .int .u16 0, .int .u16 0, .int .i64 0, .int .i64 0, .bool false] 37)) = z2 at *
        have RX := ref12.rd_one kx
        have s2 := HT.out _ b2
        refine hKQ.out _ _ ?s_10 ?_
        case s_10 => exact .inr s2
        clear hKQ KQ
        try simp only [Act.put, List.setIfInBounds_toArray, List.set_cons_zero, List.set_cons_succ]
        refine tail.next (i := 11) (o := { dst := some 40, op := .call { callee := .builtin .append, args := #[.tmp 30, .tmp 39], argTypes := #[28, 28] }, type := 28, pos := "law.go:94", after := #[{ on := 1, ground := .data }, { on := 10, ground := .data }], guard := none }) rfl (by kernel_rfl) (fun KQ hKQ => ?_)
        refine step_appR rfl _ _ 28 rfl _ _ rfl rfl _ (ref12.app_E _ (HO.out.below b2) RX (by omega) (Nat.le_trans hg2.out b2.size)) ?_
        rintro v z3 ⟨A6, c6, rfl, hO6, hB6, _⟩
        have b3 := (b2.mono hg2.out).trans hB6
        have s3 := HT2.out _ b3
        refine hKQ.out _ _ ?s_11 ?_
        case s_11 => exact .inr s3
        clear hKQ KQ
        try simp only [Act.put, List.setIfInBounds_toArray, List.set_cons_zero, List.set_cons_succ]
        refine tail.take (i := 12) (oi := { dst := some 41, op := .fieldAddr 30 (.tmp 7) 3, type := 0, pos := "law.go:94", after := #[{ on := 0, ground := .phase }, { on := 1, ground := .phase }, { on := 2, ground := .phase }, { on := 3, ground := .phase }, { on := 4, ground := .phase }, { on := 5, ground := .phase }, { on := 6, ground := .phase }, { on := 7, ground := .phase }, { on := 8, ground := .phase }, { on := 9, ground := .phase }, { on := 10, ground := .phase }, { on := 11, ground := .phase }], guard := none }) (v := ?v_12_11) rfl (by kernel_rfl) (by kernel_rfl) (by kernel_rfl) (fun _ _ _ h => h) (Or.inl ⟨by rfl, ?y_12_11⟩) (by assumption) (by kernel_rfl) (by kernel_rfl) ?_
        case y_12_11 => (intro wq hSw; (try dsimp only at hSw); go_simp; first | done | with_reducible rfl)
        try simp only [Act.put, List.setIfInBounds_toArray, List.set_cons_zero, List.set_cons_succ]
        refine tail.next (i := 13) (o := { dst := none, op := .store 28 (.tmp 41) (.tmp 40), type := 0, pos := "law.go:94", after := #[{ on := 12, ground := .data }, { on := 11, ground := .data }, { on := 11, ground := .chain }, { on := 0, ground := .phase }, { on := 1, ground := .phase }, { on := 2, ground := .phase }, { on := 3, ground := .phase }, { on := 4, ground := .phase }, { on := 5, ground := .phase }, { on := 6, ground := .phase }, { on := 7, ground := .phase }, { on := 8, ground := .phase }, { on := 9, ground := .phase }, { on := 10, ground := .phase }, { on := 11, ground := .phase }], guard := none }) rfl (by kernel_rfl) (fun KQ hKQ => ?_)
        have df0 := fun q => (HK.out.below b3 hg1.out).frozen q
        have c13 := (HK.out.below b3 hg1.out).cell 13
        go_simp
        have kN := (HK.out.below b3 hg1.out).set_ 13 (.slice A6 (i + 1) c6)
        have oN := hO6.far (p := ⟨w.heap.size + 1, 13, none⟩) (by show w.heap.size + 1 < w.heap.size + 2; omega) (.slice A6 (i + 1) c6)
        have bN := (HYr.out.trans (b3.mono (Nat.le_succ _))).setCell (p := ⟨w.heap.size + 1, 13, none⟩) (Nat.le_refl _) (.slice A6 (i + 1) c6)
        refine hKQ.out _ _ ?s_13 ?_
        case s_13 => exact .inl (by decide)
        clear hKQ KQ
        try simp only [Act.put, List.setIfInBounds_toArray, List.set_cons_zero, List.set_cons_succ]
        refine tail.done (by kernel_rfl) ?_ _
        go_wp2_with fail
        go_roundw
        case rel => exact ⟨i + 1, A6, c6, by omega, congrArg (Value.int .i64) hf2.out, by go_num, Lib.hid kN, (by show OwnE _ _ _ _; rw [HSi.out]; exact oN), Lib.hid bN⟩
        case measure => simp [intOf] <;> omega
      · skip
        obtain rfl : i = n := by omega
        have hnn : ¬ ((i : Int) < (i : Int)) := by omega
        have k0q : Blk 30 wr w.heap.size [.int .i64 0, .int .i64 0, .int .u16 0, .int .u16 0, .int .u16 0, .int .i64 0, .int .i64 0, .int .u16 0, .int .u16 0, .int .u16 0, .int .i64 0, .int .i64 0, .bool false, .slice none 0 0] := K0.out.below HYr.out (Nat.lt_succ_self _)
        have c15 := blk14 k0q
        have df := fun q => k0q.frozen q
        replace k0q := Lib.hid k0q
        have hEs := HAll.out
        clear HTs HSn HTb HAll HZ0
        go_wp2_with fail
        have sF := put14 (.int .i64 b) (.int .i64 t) (.int .u16 0) (.int .u16 0) (.int .u16 0) (.int .i64 0) (.int .i64 0) (.int .u16 0) (.int .u16 0) (.int .u16 0) (.int .i64 0) (.int .i64 0) (.bool false) (.slice A' i c') k0q.out
        have bF := below14 (g := w.heap.size) (.int .i64 b) (.int .i64 t) (.int .u16 0) (.int .u16 0) (.int .u16 0) (.int .i64 0) (.int .i64 0) (.int .u16 0) (.int .u16 0) (.int .u16 0) (.int .i64 0) (.int .i64 0) (.bool false) (.slice A' i c') (HB2.out.trans (HYr.out.mono (Nat.le_succ _))) (by first | omega | simp)
        have oF := own14 (g := w.heap.size) (.int .i64 b) (.int .i64 t) (.int .u16 0) (.int .u16 0) (.int .u16 0) (.int .i64 0) (.int .i64 0) (.int .u16 0) (.int .u16 0) (.int .u16 0) (.int .i64 0) (.int .i64 0) (.bool false) (.slice A' i c') HO.out (show w.heap.size < w.heap.size + 2 by omega)
        generalize ((((((((((((((wr.setCell ⟨w.heap.size, 0, none⟩ (.int .i64 b)).setCell ⟨w.heap.size, 1, none⟩ (.int .i64 t)).setCell ⟨w.heap.size, 2, none⟩ (.int .u16 0)).setCell ⟨w.heap.size, 3, none⟩ (.int .u16 0)).setCell ⟨w.heap.size, 4, none⟩ (.int .u16 0)).setCell ⟨w.heap.size, 5, none⟩ (.int .i64 0)).setCell ⟨w.heap.size, 6, none⟩ (.int .i64 0)).setCell ⟨w.heap.size, 7, none⟩ (.int .u16 0)).setCell ⟨w.heap.size, 8, none⟩ (.int .u16 0)).setCell ⟨w.heap.size, 9, none⟩ (.int .u16 0)).setCell ⟨w.heap.size, 10, none⟩ (.int .i64 0)).setCell ⟨w.heap.size, 11, none⟩ (.int .i64 0)).setCell ⟨w.heap.size, 12, none⟩ (.bool false)).setCell ⟨w.heap.size, 13, none⟩ (.slice A' i c')) = wf at *
        (try simp only [Exit.inBlock, Exit.then])
        refine bodyPost_ret (res1 Try.results35 rfl (aggL _) (sizeL _) (ld14 sF)) rfl ?_
        exact ⟨A', c', by rfl, (by show OwnE _ _ _ _; rw [← hEs]; exact oF.more (by omega)), bF⟩
end Go.Proofs.Yteadkgjikaikjaa.law12
