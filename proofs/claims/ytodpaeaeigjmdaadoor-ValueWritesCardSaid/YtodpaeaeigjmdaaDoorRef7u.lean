/- What the document's TakeKey (antipoderef7) comes to. Conditions: at most 2^40 bytes. -/
import Derived.Test.YtodpaeaeigjmdaaDoorRef7t
import Derived.Test.YtodpaeaeigjmdaaDoorGetR
namespace Go.Proofs.YtodpaeaeigjmdaaDoor.ref7
open Go Go.RowKit Go.Proofs.YtodpaeaeigjmdaaDoor.kit Go.Proofs.YtodpaeaeigjmdaaDoor.nums Go.Proofs.YtodpaeaeigjmdaaDoor.st Go.Proofs.YtodpaeaeigjmdaaDoor.va Go.Proofs.YtodpaeaeigjmdaaDoor.bytes Go.Proofs.YtodpaeaeigjmdaaDoor.ints
set_option linter.unusedVariables false

theorem beV_lt8 (l : List Int) (h : Byt l) (hl : l.length ≤ 8) : 0 ≤ beV l ∧ beV l ≤ 18446744073709551615 := by
  obtain ⟨h0, h1⟩ := beV_bound l h
  have h2 : (((256 : Nat) ^ l.length : Nat) : Int) ≤ ((256 ^ 8 : Nat) : Int) := Int.ofNat_le.2 (Nat.pow_le_pow_right (by decide) hl)
  rw [Int.natCast_pow] at h2
  have h3 : ((256 ^ 8 : Nat) : Int) = 18446744073709551616 := by decide
  rw [h3] at h2
  have h4 : (((256 : Nat) : Int)) ^ l.length = (256 : Int) ^ l.length := rfl
  omega
set_option maxHeartbeats 2000000 in
theorem takeKey_any (A : Option Addr) (n c : Nat) (l : List Int) (w : World) (B : Nat) (hR : Rd w B A n l) (hB : B ≤ w.heap.size) (hY : Byt l) (hb : n ≤ 1099511627776) :
    Calls Tryd.prog 22 #[.slice A n c] w (RetV w (tkF l)) := by
  have hl := hR.len
  have HB : Hid (Below w.heap.size w (w.alloc (.cells #[.int .i64 0, .int .i64 0, .string { data := #[] }] 24))) := (Below.refl _ _).alloc (Nat.le_refl _) _
  obtain ⟨v, hv⟩ : ∃ v, tkF l = v := ⟨_, rfl⟩
  rw [hv]
  cases l with
  | nil =>
    obtain rfl : 0 = n := hl
    have hV : Hid (v = (zeroV, 0, 2)) := hv.symm
    clear hv
    go_enter Tryd.func22, Tryd.ntmps22
    go_wp2_with fail
    (try simp only [Exit.inBlock, Exit.then])
    refine bodyPost_ret (by simp [results, Tryd.results22, go_sem]; try rfl) rfl ?_
    exact ⟨by rw [hV.out]; rfl, (Below.refl _ _).alloc (Nat.le_refl _) _⟩
  | cons x r =>
    have hn1 : r.length + 1 = n := hl
    obtain ⟨b, o, rfl, hbB, hcell⟩ := hR.2 (by omega)
    have hx := hcell 0 (by omega)
    simp only [List.getD_cons_zero, Nat.add_zero] at hx
    have hx0 := hY x (by simp)
    have hblt : b < w.heap.size := by omega
    by_cases h0 : x = 0
    · have hV : Hid (v = (zeroV, 1, 0)) := by rw [← hv]; exact if_pos h0
      subst h0
      clear hv hR hcell hY
      go_enter Tryd.func22, Tryd.ntmps22
      go_wp2_with fail
      (try simp only [Exit.inBlock, Exit.then])
      refine bodyPost_ret (by simp [results, Tryd.results22, go_sem]; try rfl) rfl ?_
      exact ⟨by rw [hV.out]; rfl, (Below.refl _ _).alloc (Nat.le_refl _) _⟩
    have h0' : (x == 0) = false := by simpa using h0
    by_cases h1 : x = 1
    · unfold tkF at hv
      dsimp only at hv
      rw [if_neg h0, if_pos h1] at hv
      subst h1
      cases r with
      | nil =>
        have hV : Hid (v = (zeroV, 0, 2)) := hv.symm
        have hn2 : n = 1 := hn1.symm
        subst hn2
        clear hv hR hcell hY
        go_enter Tryd.func22, Tryd.ntmps22
        go_wp2_with fail
        (try simp only [Exit.inBlock, Exit.then])
        refine bodyPost_ret (by simp [results, Tryd.results22, go_sem]; try rfl) rfl ?_
        exact ⟨by rw [hV.out]; rfl, (Below.refl _ _).alloc (Nat.le_refl _) _⟩
      | cons y r =>
        dsimp only at hv
        have hn2 : 2 ≤ n := by simp at hn1; omega
        have hy := hcell 1 (by omega)
        have hy0 := hY y (by simp)
        rw [show (1 :: y :: r).getD 1 0 = y from rfl] at hy
        clear hR hcell hY hl hn1
        by_cases hy1 : 1 < y
        · have hV : Hid (v = (zeroV, 0, 9)) := by rw [← hv]; exact if_pos hy1
          clear hv
          go_enter Tryd.func22, Tryd.ntmps22
          go_wp2_with fail
          (try simp only [Exit.inBlock, Exit.then])
          refine bodyPost_ret (by simp [results, Tryd.results22, go_sem]; try rfl) rfl ?_
          exact ⟨by rw [hV.out]; rfl, (Below.refl _ _).alloc (Nat.le_refl _) _⟩
        · have hV : Hid (v = (⟨1, y, []⟩, 2, 0)) := by rw [← hv]; exact if_neg hy1
          clear hv
          go_enter Tryd.func22, Tryd.ntmps22
          go_wp2_with fail
          (try simp only [Exit.inBlock, Exit.then])
          refine bodyPost_ret (by simp [results, Tryd.results22, go_sem]; try rfl) rfl ?_
          exact ⟨by rw [hV.out]; rfl, (Below.refl _ _).alloc (Nat.le_refl _) _⟩
    have h1' : (x == 1) = false := by simpa using h1
    by_cases h2 : x = 2
    · unfold tkF at hv
      dsimp only at hv
      rw [if_neg h0, if_neg h1, if_pos h2] at hv
      subst h2
      by_cases h8 : r.length < 8
      · have hV : Hid (v = (zeroV, 0, 2)) := by rw [← hv]; exact if_pos h8
        have G := Lib.hid (fun wq => rget_short (some ⟨b, o, none⟩) n c 1 8 wq (by omega) (by omega) (by omega) (by omega) hb (by omega))
        clear hv hR hcell hY
        go_enter Tryd.func22, Tryd.ntmps22
        go_wp2_with fail
        refine (G.out _).mono ?_
        rintro e w2 ⟨rfl, rfl⟩
        go_wp2_with fail
        (try simp only [Exit.inBlock, Exit.then])
        refine bodyPost_ret (by simp [results, Tryd.results22, go_sem]; try rfl) rfl ?_
        exact ⟨by rw [hV.out]; rfl, (Below.refl _ _).alloc (Nat.le_refl _) _⟩
      · rw [if_neg h8] at hv
        have G := Lib.hid (fun (wq : World) (h : Rd wq B (some ⟨b, o, none⟩) n (2 :: r)) => rget_ok (some ⟨b, o, none⟩) n c (2 :: r) 1 8 wq B h hY hb (by omega) (by omega) (by omega))
        have t1 : ((2 :: r).drop 1).take 8 = r.take 8 := rfl
        rw [t1] at G
        have v1 := beV_lt8 (r.take 8) (fun z hz => hY z (List.mem_cons_of_mem _ (List.mem_of_mem_take hz))) (by rw [List.length_take]; omega)
        have B1 := Lib.hid (fun w => rback_any (beV (r.take 8)) w v1.1 v1.2)
        have hV := Lib.hid hv.symm
        have HR := Lib.hid hR
        clear hv hR hcell hY v1 t1
        generalize beV (r.take 8) = z at *
        go_enter Tryd.func22, Tryd.ntmps22
        go_wp2_with fail
        refine (G.out _ (HR.out.alloc hB _)).mono ?_
        rintro e w2 ⟨rfl, rfl⟩
        go_wp2_with fail
        refine (B1.out _).mono ?_
        rintro e w2 ⟨rfl, rfl⟩
        go_wp2_with fail
        (try simp only [Exit.inBlock, Exit.then])
        refine bodyPost_ret (by simp [results, Tryd.results22, go_sem]; try rfl) rfl ?_
        exact ⟨by rw [hV.out]; rfl, (Below.refl _ _).alloc (Nat.le_refl _) _⟩
    have h2' : (x == 2) = false := by simpa using h2
    by_cases h3 : x = 3
    · unfold tkF at hv
      dsimp only at hv
      rw [if_neg h0, if_neg h1, if_neg h2, if_pos h3] at hv
      subst h3
      have T := Lib.hid (fun (wq : World) (h : Below w.heap.size w wq) => takeText_any (some ⟨b, o, none⟩) n c (3 :: r) wq B (hR.below (h.mono hB)) (by have := h.size; omega) hY hb (by omega))
      rw [show (3 :: r).drop 1 = r from rfl, hv] at T
      have k0 : Hid (Blk 24 (w.alloc (.cells #[.int .i64 0, .int .i64 0, .string { data := #[] }] 24)) w.heap.size [.int .i64 0, .int .i64 0, .string { data := #[] }]) := heap_alloc_new w _
      have hs0 : w.heap.size < (w.alloc (.cells #[.int .i64 0, .int .i64 0, .string { data := #[] }] 24)).heap.size := by simp
      have hnp : 1 ≤ n := by omega
      clear hv hR hcell hY hn1 hl
      go_enter Tryd.func22, Tryd.ntmps22
      go_wp2_with fail
      refine (T.out _ HB.out).mono ?_
      generalize (w.alloc (.cells #[.int .i64 0, .int .i64 0, .string { data := #[] }] 24)) = w1 at *
      rintro e wr ⟨rfl, hB2⟩
      have hK := k0.out.below hB2 hs0
      have hBr := HB.out.trans (hB2.mono HB.out.size)
      obtain ⟨⟨vk, vn, vs⟩, vl, ve⟩ := v
      have hV : Hid (((⟨vk, vn, vs⟩, vl, ve) : VaL × Int × Int) = (⟨vk, vn, vs⟩, vl, ve)) := rfl
      unfold vaV
      dsimp only
      have d0 := hK.cell 0
      have d1 := hK.cell 1
      have d2 := hK.cell 2
      have df := fun i => hK.frozen i
      simp only [List.getElem?_cons_zero, List.getElem?_cons_succ] at d0 d1 d2
      go_wp2_with fail
      have r3 := put3 hK (.int .i64 vk) (.int .i64 vn) (.string (strOfNums vs))
      have hBf := below3 hBr (.int .i64 vk) (.int .i64 vn) (.string (strOfNums vs))
      generalize (((wr.setCell ⟨w.heap.size, 0, none⟩ (.int .i64 vk)).setCell ⟨w.heap.size, 1, none⟩ (.int .i64 vn)).setCell ⟨w.heap.size, 2, none⟩ (.string (strOfNums vs))) = wf at *
      have r0 := r3.cell 0
      have r1 := r3.cell 1
      have r2 := r3.cell 2
      simp only [List.getElem?_cons_zero, List.getElem?_cons_succ] at r0 r1 r2
      (try simp only [Exit.inBlock, Exit.then])
      show bodyPost Tryd.prog Tryd.f22 _ Exit.ret _ wf
      refine bodyPost_ret (by simp [results, Tryd.results22, go_sem, r0, r1, r2]; try rfl) rfl ?_
      exact ⟨rfl, hBf⟩
    have h3' : (x == 3) = false := by simpa using h3
    have hV0 : v = (zeroV, 0, 9) := by
      rw [← hv]
      unfold tkF
      dsimp only
      rw [if_neg h0, if_neg h1, if_neg h2, if_neg h3]
    have hV := Lib.hid hV0
    clear hV0
    clear hv hR hcell hY
    go_enter Tryd.func22, Tryd.ntmps22
    go_wp2_with fail
    (try simp only [Exit.inBlock, Exit.then])
    refine bodyPost_ret (by simp [results, Tryd.results22, go_sem]; try rfl) rfl ?_
    exact ⟨by rw [hV.out]; rfl, (Below.refl _ _).alloc (Nat.le_refl _) _⟩
end Go.Proofs.YtodpaeaeigjmdaaDoor.ref7
