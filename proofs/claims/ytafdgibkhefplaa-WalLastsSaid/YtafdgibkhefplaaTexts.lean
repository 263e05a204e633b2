/- The statements' own texts and alike: lists of bytes as strings, and whether they are the same. Conditions: what the slices read as. -/
import Derived.Test.YtafdgibkhefplaaRef5
import Derived.BigQuiet
import Derived.Deep.Cut
namespace Go.Proofs.Ytafdgibkhefplaa.law5
open Go.RowKit Go.Proofs.Ytafdgibkhefplaa.kit Go.Proofs.Ytafdgibkhefplaa.nums Go.Proofs.Ytafdgibkhefplaa.ref5
set_option linter.unusedVariables false

theorem texts_any (A : Option Addr) (n c : Nat) (L : List (List Int)) (w : World) (hR : RdS w w.heap.size A n L) (hn : n ≤ 1099511627776) :
    Calls Try.prog 23 #[.slice A n c] w fun e w' => ∃ A' c', e = .returned (.slice A' n c') ∧ OwnV 9 w' w.heap.size (.slice A' n c') (L.map strV) ∧ Below w.heap.size w w' := by
  have HL := Lib.hid hR.len
  have HR := Lib.hid hR
  clear hR
  go_enter Try.func23, Try.ntmps23
  go_wp2_with fail
  go_loopw [3, 4] (fun s i wr => ∃ (j : Nat) (A' : Option Addr) (c' : Nat), j ≤ n ∧ i = .int .i64 j ∧ s = .slice A' j c' ∧ Hid (((L.take j).map strV).length = j) ∧ OwnV 9 wr w.heap.size (.slice A' j c') ((L.take j).map strV) ∧ Below w.heap.size w wr) (fun _ i _ => n - (intOf i).toNat)
  case atStart => exact ⟨0, none, 0, by omega, rfl, rfl, rfl, OwnV.nil _ _ _, Below.refl _ _⟩
  case round =>
    obtain ⟨j, A', c', hj, rfl, rfl, hlj, hO, hB⟩ := hrel
    by_cases hlt : j < n
    · obtain ⟨b, o, Aj, cj, l, rfl, hb, hl, hcell, hcj, hcjm, hRj⟩ := (HR.out.below hB).at2 hlt
      have hcv := run_string_rd wr 35 5 9 Try.underlying35 Try.underlying5 Try.underlying9 _ Aj l.length cj l hRj
      have HT := Lib.hid (show (L.take (j + 1)).map strV = (L.take j).map strV ++ [strV l] by rw [List.take_add_one, hl]; simp)
      have i0 : (0 : Int) ≤ j ∧ (j : Int) < n := by omega
      have hO6 := hO.alloc (.cells #[.string (strOfNums l)] 9)
      clear hl hRj
      generalize l.length = kl at *
      generalize (L.take j).map strV = xs at *
      go_wp2_with (at_builtin; with_reducible refine wpList_append_v rfl (.tmp 11) (.tmp 17) 44 rfl w.heap.size 9 (.string ⟨#[]⟩) 16 Try.underlying44 infoS rfl A' j c' xs hlj.out rfl hO6 _ _ 1 1 [_] rfl (RdV.one _ _ _) ?k1 ?k2 ?k3 ?k4 ?_)
      case k1 => first | rfl | (intro u hu; rw [List.mem_singleton] at hu; subst hu; rfl)
      case k2 => omega
      case k3 => unfold maxLen; omega
      case k4 => have := hB.size; first | omega | (simp; omega)
      intro A3 c3 w3 hO3 hB3 _
      go_wp2_with fail
      go_roundw
      case rel => exact ⟨j + 1, A3, c3, by omega, by go_num, rfl, by show _ = _; rw [HT.out, List.length_append, hlj.out]; rfl, by rw [HT.out]; exact hO3, hB.trans (Below.trans ((Below.refl _ _).alloc hB.size _) hB3)⟩
      case measure => simp [intOf]; omega
    · obtain rfl : j = n := by omega
      have HT : Hid (L.take j = L) := by show _ = _; rw [List.take_of_length_le (by have := HL.out; omega)]
      rw [HT.out] at hO
      go_wp2_with fail
      go_ret
      exact ⟨A', c', rfl, hO, hB⟩
theorem alike_any (A : Option Addr) (n c : Nat) (L : List (List Int)) (S : Option Addr) (cs : Nat) (w : World) (B1 B2 : Nat) (hR : RdS w B1 A n L) (hS : RdV w B2 S n (L.map strV)) (hn : n ≤ 1099511627776) :
    Calls Try.prog 25 #[.slice A n c, .slice S n cs] w fun e w' => e = .returned (.bool true) ∧ ∃ q, w' = w.drewN q := by
  have HL := Lib.hid hR.len
  have HR := Lib.hid hR
  have HS := Lib.hid hS
  clear hR hS
  go_enter Try.func25, Try.ntmps25
  go_wp2_with fail
  go_loopw [5] (fun i wr => ∃ j : Nat, j ≤ n ∧ i = .int .i64 j ∧ ∃ q, wr = w.drewN q) (fun i _ => n - (intOf i).toNat)
  case atStart => exact ⟨0, by omega, rfl, 0, rfl⟩
  case round =>
    obtain ⟨j, hj, rfl, hq⟩ := hrel
    have HQ := Lib.hid hq
    have hRw : RdS wr B1 A n L := by obtain ⟨q, rfl⟩ := hq; exact HR.out
    have hSw : RdV wr B2 S n (L.map strV) := by obtain ⟨q, rfl⟩ := hq; exact HS.out
    clear hq
    by_cases hlt : j < n
    · obtain ⟨b, o, Aj, cj, l, rfl, hb, hl, hcell, hcj, hcjm, hRj⟩ := hRw.at2 hlt
      obtain ⟨b2, o2, u, rfl, hu, hcell2⟩ := hSw.at_ hlt
      rw [List.getElem?_map, hl] at hu
      obtain rfl := Option.some.inj hu
      have hcv := fun (q : Nat) => run_string_rd (wr.drewN q) 35 5 9 Try.underlying35 Try.underlying5 Try.underlying9 _ Aj l.length cj l (show Rd (wr.drewN q) B1 Aj l.length l from hRj)
      have i0 : (0 : Int) ≤ j ∧ (j : Int) < n := by omega
      unfold strV at hcell2
      clear hl hRj hRw hSw
      generalize l.length = kl at *
      generalize strOfNums l = T at *
      go_upto_region 6 with (fail)
      go_quiet (fail)
      go_wp2_with fail
      go_roundw
      case rel => exact ⟨j + 1, by omega, by go_num, by obtain ⟨q, e⟩ := HQ.out; exact ⟨q + nq, by rw [e, World.drewN_drewN]⟩⟩
      case measure => simp [intOf]; omega
    · obtain rfl : j = n := by omega
      go_wp2_with fail
      go_ret
      exact ⟨rfl, HQ.out⟩
end Go.Proofs.Ytafdgibkhefplaa.law5
