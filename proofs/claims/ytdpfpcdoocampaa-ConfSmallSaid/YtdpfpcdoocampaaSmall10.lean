/- ConfSmall answers true: of one to three voting nodes, just those configurations may be whose quorums meet as they must. No condition. -/
import Derived.Test.YtdpfpcdoocampaaBegun10
import Derived.Test.YtdpfpcdoocampaaRef10f
namespace Go.Proofs.Ytdpfpcdoocampaa.law10
open Go Go.RowKit Go.Proofs.Ytdpfpcdoocampaa.kit Go.Proofs.Ytdpfpcdoocampaa.nums Go.Proofs.Ytdpfpcdoocampaa.se Go.Proofs.Ytdpfpcdoocampaa.cf
set_option linter.unusedVariables false

/-- The witnesses 2 to m + 1. -/
def witF : Nat → Nat
  | 0 => 0
  | m + 1 => withF (witF m) ((m + 2 : Nat) : Int)
theorem wit_lt (m : Nat) (hm : m ≤ 2) : witF m < 65536 := by
  rcases m with _ | _ | _ | m
  · decide
  · decide
  · decide
  · omega
theorem wit_cnt (n : Nat) (h1 : 1 ≤ n) (h3 : n ≤ 3) : cntF (2 ||| witF (n - 1)) = n ∧ mayF (2 ||| witF (n - 1)) = true ∧ 2 &&& witF (n - 1) = 0 ∧ mayF (witF (n - 1)) = true := by
  rcases n with _ | _ | _ | _ | n
  · omega
  · decide
  · decide
  · decide
  · omega
theorem small_may (n : Nat) (e k : Int) (h1 : 1 ≤ n) (h3 : n ≤ 3) : mayC ⟨2, witF (n - 1), 0, e, k⟩ = (decide (1 ≤ e) && decide (1 ≤ k) && decide (e ≤ n) && decide (k ≤ n) && decide ((n : Int) < e + k) && decide ((n : Int) < 2 * e)) := by
  obtain ⟨c1, c2, c3, c4⟩ := wit_cnt n h1 h3
  unfold mayC quoB mayQ apartB memF votF
  dsimp only
  rw [c1, c3, Nat.or_zero, c2, Nat.and_zero]
  generalize witF (n - 1) = x
  rw [Bool.eq_iff_iff]
  simp
  omega
theorem small_meet (n : Nat) (e k f : Int) (h1 : 1 ≤ n) (h3 : n ≤ 3) (e1 : 1 ≤ e) (en : e ≤ n) (k1 : 1 ≤ k) (kn : k ≤ n) : meetR (quosF (joinF 2 (witF (n - 1))) e) (quosF (joinF 2 (witF (n - 1))) k) = decide ((n : Int) < e + k) := by
  obtain ⟨c1, c2, c3, c4⟩ := wit_cnt n h1 h3
  have hm := meet_same (a := ⟨2, witF (n - 1), 0, e, k⟩) (b := ⟨2, witF (n - 1), 0, e, k⟩) (show mayF 2 = true by decide) c4 (show mayF 2 = true by decide) c4 e1 (by unfold votF; dsimp only; rw [c1]; exact en) k1 (by unfold votF; dsimp only; rw [c1]; exact kn)
  dsimp only at hm
  rw [hm]
  unfold meetC needF votF
  dsimp only
  rw [Nat.and_self, Nat.and_self, Nat.xor_self, show cntF 0 = 0 from cnt_zero 9, c1, decide_eq_decide]
  omega
set_option maxHeartbeats 4000000 in
theorem small_walk (w : World) : Calls Try.prog 8 #[] w fun e w' => e = .returned (.bool true) ∧ Below w.heap.size w w' := by
  have CB := Lib.hid (fun w => begun_any w)
  go_enter Try.func8, Try.ntmps8
  go_wp2_with fail
  refine (CB.out _).mono ?_
  rintro e y1 ⟨rfl, hY1⟩
  go_wp2_with fail
  go_loopw [1] (fun nv wr => ∃ n : Nat, 1 ≤ n ∧ n ≤ 4 ∧ nv = .int .i64 (n : Int) ∧ Below y1.heap.size y1 wr) (fun nv _ => 4 - (intOf nv).toNat)
  case atStart => exact ⟨1, by omega, by omega, rfl, Below.refl _ _⟩
  case round =>
    obtain ⟨n, hn1, hn4, rfl, hBn⟩ := hrel
    by_cases hn3 : n ≤ 3
    · have hn3i : (n : Int) ≤ 3 := by omega
      go_wp2_with fail
      go_loopw [2] (fun ev wr => ∃ ee : Int, -1 ≤ ee ∧ ee ≤ n + 2 ∧ ev = .int .i64 ee ∧ Below y1.heap.size y1 wr) (fun ev _ => ((n : Int) + 2 - intOf ev).toNat)
      case atStart => exact ⟨-1, by omega, by omega, rfl, hBn⟩
      case round =>
        obtain ⟨ee, he1, he2, rfl, hBe⟩ := hrel
        by_cases hen : ee ≤ n + 1
        · go_wp2_with fail
          go_loopw [3] (fun kv wr => ∃ kk : Int, -1 ≤ kk ∧ kk ≤ n + 2 ∧ kv = .int .i64 kk ∧ Below y1.heap.size y1 wr) (fun kv _ => ((n : Int) + 2 - intOf kv).toNat)
          case atStart => exact ⟨-1, by omega, by omega, rfl, hBe⟩
          case round =>
            obtain ⟨kk, hk1, hk2, rfl, hBk⟩ := hrel
            by_cases hkn : kk ≤ n + 1
            · have kp : Blk 25 (wr.alloc (.cells #[.int .u16 2, .int .u16 0, .int .u16 0, .int .i64 ee, .int .i64 kk] 25)) wr.heap.size [.int .u16 2, .int .u16 0, .int .u16 0, .int .i64 ee, .int .i64 kk] := heap_alloc_new wr _
              have hBp := hBk.alloc hBk.size (.cells #[.int .u16 2, .int .u16 0, .int .u16 0, .int .i64 ee, .int .i64 kk] 25)
              have hpl : y1.heap.size ≤ wr.heap.size := hBk.size
              have KP := Lib.hid kp
              have HBP := Lib.hid hBp
              clear kp hBp
              go_wp2_with fail
              generalize (wr.alloc (.cells #[.int .u16 2, .int .u16 0, .int .u16 0, .int .i64 ee, .int .i64 kk] 25)) = w5 at *
              generalize wr.heap.size = p at *
              go_loopw [5] (fun iv wr => ∃ m : Nat, m + 1 ≤ n ∧ iv = .int .i64 ((m + 2 : Nat) : Int) ∧ Blk 25 wr p [.int .u16 2, .int .u16 ((witF m : Nat) : Int), .int .u16 0, .int .i64 ee, .int .i64 kk] ∧ Below y1.heap.size y1 wr) (fun iv _ => n + 1 - (intOf iv).toNat)
              case atStart => exact ⟨0, by omega, by go_num, KP.out, HBP.out⟩
              case round =>
                obtain ⟨m, hm, rfl, kq, hBq⟩ := hrel
                by_cases hmn : m + 2 ≤ n
                · have hx := wit_lt m (by omega)
                  have CW := Lib.hid (fun w => ref9.with_any (witF m) ((m + 2 : Nat) : Int) w hx (by omega) (by omega))
                  have hwe : withF (witF m) ((m + 2 : Nat) : Int) = witF (m + 1) := rfl
                  rw [hwe] at CW
                  generalize hy : witF (m + 1) = y at *
                  generalize witF m = x at *
                  obtain ⟨c0, c1, c2, c3, c4⟩ := blk5 kq
                  have df := fun i => kq.frozen i
                  have KQ := Lib.hid kq
                  clear kq hwe
                  go_wp2_with fail
                  refine (CW.out _).mono ?_
                  rintro e z1 ⟨rfl, rfl⟩
                  go_wp2_with fail
                  have kf := KQ.out.set_ 1 (.int .u16 (y : Int))
                  have bf := hBq.setCell (p := ⟨p, 1, none⟩) hpl (.int .u16 (y : Int))
                  go_round
                  case rel => exact ⟨m + 1, by omega, by go_num, by rw [hy]; exact kf, bf⟩
                  case measure => simp [intOf]; omega
                · obtain rfl : m = n - 1 := by omega
                  have hx := wit_lt (n - 1) (by omega)
                  have SM := Lib.hid (small_may n ee kk hn1 hn3)
                  have S1 := Lib.hid (fun a b c d => small_meet n ee kk 0 hn1 hn3 a b c d)
                  have S2 := Lib.hid (fun a b => small_meet n ee ee 0 hn1 hn3 a b a b)
                  have i1 : In64 ee := by unfold In64; omega
                  have i2 : In64 kk := by unfold In64; omega
                  have ok1 : CfL.ok ⟨2, witF (n - 1), 0, ee, kk⟩ := ⟨by show 2 < 65536; omega, hx, by show 0 < 65536; omega, i1, i2⟩
                  have ok2 : CfL.ok ⟨2, witF (n - 1), 0, ee, ee⟩ := ⟨by show 2 < 65536; omega, hx, by show 0 < 65536; omega, i1, i1⟩
                  have CM := Lib.hid (fun w => confi.may_any ⟨2, witF (n - 1), 0, ee, kk⟩ w ok1)
                  have CA := Lib.hid (fun w => ref10.meet_any ⟨2, witF (n - 1), 0, ee, kk⟩ ⟨2, witF (n - 1), 0, ee, kk⟩ w ok1 ok1)
                  have CE := Lib.hid (fun w => ref10.meet_any ⟨2, witF (n - 1), 0, ee, kk⟩ ⟨2, witF (n - 1), 0, ee, ee⟩ w ok1 ok2)
                  dsimp only at CA CE
                  generalize meetR (quosF (joinF 2 (witF (n - 1))) ee) (quosF (joinF 2 (witF (n - 1))) kk) = b1 at *
                  generalize meetR (quosF (joinF 2 (witF (n - 1))) ee) (quosF (joinF 2 (witF (n - 1))) ee) = b2 at *
                  rw [SM.out] at CM
                  clear SM ok1 ok2 i1 i2
                  generalize witF (n - 1) = x at *
                  unfold cfV at *
                  dsimp only at CM CA CE
                  have r0 := blk5 kq
                  have HS : Hid (∀ wq, Below wr.heap.size wr wq → (wq.cell? ⟨p, 0, none⟩ = some (.int .u16 2) ∧ wq.cell? ⟨p, 1, none⟩ = some (.int .u16 (x : Int)) ∧ wq.cell? ⟨p, 2, none⟩ = some (.int .u16 0) ∧ wq.cell? ⟨p, 3, none⟩ = some (.int .i64 ee) ∧ wq.cell? ⟨p, 4, none⟩ = some (.int .i64 kk))) := fun wq hq => blk5 (kq.below hq kq.lt)
                  have q0 := Below.refl wr.heap.size wr
                  clear kq KP HBP
                  by_cases t0 : 1 ≤ ee
                  · by_cases t1 : 1 ≤ kk
                    · by_cases t2 : ee ≤ (n : Int)
                      · by_cases t3 : kk ≤ (n : Int)
                        · obtain rfl : b1 = decide ((n : Int) < ee + kk) := S1.out t0 t2 t1 t3
                          obtain rfl : b2 = decide ((n : Int) < ee + ee) := S2.out t0 t2
                          rw [show (decide (1 ≤ ee) && decide (1 ≤ kk) && decide (ee ≤ (n : Int)) && decide (kk ≤ (n : Int)) && decide ((n : Int) < ee + kk) && decide ((n : Int) < 2 * ee)) = (decide ((n : Int) < ee + kk) && decide ((n : Int) < ee + ee)) by rw [Bool.eq_iff_iff]; simp; omega] at CM
                          clear S1 S2
                          generalize decide ((n : Int) < ee + kk) = b1 at *
                          generalize decide ((n : Int) < ee + ee) = b2 at *
                          cases b1
                          · go_wp2_with fail
                            refine (CA.out _).mono ?_
                            rintro e y11 ⟨rfl, hY11⟩
                            have q11 := q0.trans (hY11.mono q0.size)
                            have r11 := HS.out _ q11
                            go_wp2_with fail
                            refine (CM.out _).mono ?_
                            rintro e y12 ⟨rfl, hY12⟩
                            have q12 := q11.trans (hY12.mono q11.size)
                            have r12 := HS.out _ q12
                            go_wp2_with fail
                            go_round
                            case rel => exact ⟨kk + 1, by omega, by omega, by go_num, hBq.trans (q12.mono hBq.size)⟩
                            case measure => simp [intOf]; omega
                          · go_wp2_with fail
                            refine (CA.out _).mono ?_
                            rintro e y11 ⟨rfl, hY11⟩
                            have q11 := q0.trans (hY11.mono q0.size)
                            have r11 := HS.out _ q11
                            go_wp2_with fail
                            refine (CE.out _).mono ?_
                            rintro e y12 ⟨rfl, hY12⟩
                            have q12 := q11.trans (hY12.mono q11.size)
                            have r12 := HS.out _ q12
                            go_wp2_with fail
                            cases b2
                            · go_wp2_with fail
                              refine (CM.out _).mono ?_
                              rintro e y13 ⟨rfl, hY13⟩
                              have q13 := q12.trans (hY13.mono q12.size)
                              have r13 := HS.out _ q13
                              go_wp2_with fail
                              go_round
                              case rel => exact ⟨kk + 1, by omega, by omega, by go_num, hBq.trans (q13.mono hBq.size)⟩
                              case measure => simp [intOf]; omega
                            · go_wp2_with fail
                              refine (CM.out _).mono ?_
                              rintro e y13 ⟨rfl, hY13⟩
                              have q13 := q12.trans (hY13.mono q12.size)
                              have r13 := HS.out _ q13
                              go_wp2_with fail
                              go_round
                              case rel => exact ⟨kk + 1, by omega, by omega, by go_num, hBq.trans (q13.mono hBq.size)⟩
                              case measure => simp [intOf]; omega
                        · have hf : (decide (1 ≤ ee) && decide (1 ≤ kk) && decide (ee ≤ (n : Int)) && decide (kk ≤ (n : Int)) && decide ((n : Int) < ee + kk) && decide ((n : Int) < 2 * ee)) = false := by simp; omega
                          rw [hf] at CM
                          clear hf
                          go_wp2_with fail
                          refine (CM.out _).mono ?_
                          rintro e y11 ⟨rfl, hY11⟩
                          have q11 := q0.trans (hY11.mono q0.size)
                          have r11 := HS.out _ q11
                          go_wp2_with fail
                          go_round
                          case rel => exact ⟨kk + 1, by omega, by omega, by go_num, hBq.trans (q11.mono hBq.size)⟩
                          case measure => simp [intOf]; omega
                      · have hf : (decide (1 ≤ ee) && decide (1 ≤ kk) && decide (ee ≤ (n : Int)) && decide (kk ≤ (n : Int)) && decide ((n : Int) < ee + kk) && decide ((n : Int) < 2 * ee)) = false := by simp; omega
                        rw [hf] at CM
                        clear hf
                        go_wp2_with fail
                        refine (CM.out _).mono ?_
                        rintro e y11 ⟨rfl, hY11⟩
                        have q11 := q0.trans (hY11.mono q0.size)
                        have r11 := HS.out _ q11
                        go_wp2_with fail
                        go_round
                        case rel => exact ⟨kk + 1, by omega, by omega, by go_num, hBq.trans (q11.mono hBq.size)⟩
                        case measure => simp [intOf]; omega
                    · have hf : (decide (1 ≤ ee) && decide (1 ≤ kk) && decide (ee ≤ (n : Int)) && decide (kk ≤ (n : Int)) && decide ((n : Int) < ee + kk) && decide ((n : Int) < 2 * ee)) = false := by simp; omega
                      rw [hf] at CM
                      clear hf
                      go_wp2_with fail
                      refine (CM.out _).mono ?_
                      rintro e y11 ⟨rfl, hY11⟩
                      have q11 := q0.trans (hY11.mono q0.size)
                      have r11 := HS.out _ q11
                      go_wp2_with fail
                      go_round
                      case rel => exact ⟨kk + 1, by omega, by omega, by go_num, hBq.trans (q11.mono hBq.size)⟩
                      case measure => simp [intOf]; omega
                  · have hf : (decide (1 ≤ ee) && decide (1 ≤ kk) && decide (ee ≤ (n : Int)) && decide (kk ≤ (n : Int)) && decide ((n : Int) < ee + kk) && decide ((n : Int) < 2 * ee)) = false := by simp; omega
                    rw [hf] at CM
                    clear hf
                    go_wp2_with fail
                    refine (CM.out _).mono ?_
                    rintro e y11 ⟨rfl, hY11⟩
                    have q11 := q0.trans (hY11.mono q0.size)
                    have r11 := HS.out _ q11
                    go_wp2_with fail
                    go_round
                    case rel => exact ⟨kk + 1, by omega, by omega, by go_num, hBq.trans (q11.mono hBq.size)⟩
                    case measure => simp [intOf]; omega
            · go_wp2_with fail
              go_round
              case rel => exact ⟨ee + 1, by omega, by omega, by go_num, hBk⟩
              case measure => simp [intOf]; omega
        · go_wp2_with fail
          go_round
          case rel => exact ⟨n + 1, by omega, by omega, by go_num, hBe⟩
          case measure => simp [intOf]; omega
    · go_wp2_with fail
      go_ret
      exact ⟨rfl, hY1.trans (hBn.mono hY1.size)⟩
end Go.Proofs.Ytdpfpcdoocampaa.law10
