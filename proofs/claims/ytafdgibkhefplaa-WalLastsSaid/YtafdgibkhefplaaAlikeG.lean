/- Two lists of one length, compared: the statements' own alike. Conditions: what the slices read as. -/
import Derived.Test.YtafdgibkhefplaaTexts
namespace Go.Proofs.Ytafdgibkhefplaa.law5
open Go.RowKit Go.Proofs.Ytafdgibkhefplaa.kit Go.Proofs.Ytafdgibkhefplaa.nums Go.Proofs.Ytafdgibkhefplaa.ref5 Go.Proofs.Ytafdgibkhefplaa.law0 Go.Proofs.Ytafdgibkhefplaa.bytes
set_option linter.unusedVariables false

theorem str_list2 {r : List Int} : (strOfNums r).toList = r.map (fun n => UInt8.ofNat n.toNat) := by
  rw [ByteArray.toList_eq]; simp [strOfNums]
theorem str_inj {l m : List Int} (hl : Byt l) (hm : Byt m) (h : (strOfNums l).toList = (strOfNums m).toList) : l = m := by
  rw [str_list2, str_list2] at h
  have : ∀ (l m : List Int), Byt l → Byt m → l.map (fun n => UInt8.ofNat n.toNat) = m.map (fun n => UInt8.ofNat n.toNat) → l = m := by
    intro l
    induction l with
    | nil => intro m _ _ h; cases m with
      | nil => rfl
      | cons _ _ => simp at h
    | cons a l ih =>
      intro m hl hm h
      cases m with
      | nil => simp at h
      | cons b m =>
        simp only [List.map_cons, List.cons.injEq] at h
        have ha := hl a (List.mem_cons_self ..)
        have hb := hm b (List.mem_cons_self ..)
        have h1 := congrArg UInt8.toNat h.1
        simp only [UInt8.toNat_ofNat'] at h1
        have e1 : a = b := by omega
        rw [e1, ih m (fun x hx => hl x (List.mem_cons_of_mem _ hx)) (fun x hx => hm x (List.mem_cons_of_mem _ hx)) h.2]
  exact this l m hl hm h
theorem alike_gen (A : Option Addr) (n c : Nat) (L : List (List Int)) (S : Option Addr) (cs : Nat) (M : List (List Int)) (w : World) (B1 B2 : Nat) (hR : RdS w B1 A n L) (hS : RdV w B2 S n (M.map strV)) (hn : n ≤ 1099511627776) (hL : ∀ l ∈ L, Byt l) (hM : ∀ l ∈ M, Byt l) :
    Calls Try.prog 25 #[.slice A n c, .slice S n cs] w fun e w' => e = .returned (.bool (decide (L = M))) ∧ ∃ q, w' = w.drewN q := by
  have HL := Lib.hid hR.len
  have hMn : M.length = n := by have := hS.1; rwa [List.length_map] at this
  have HR := Lib.hid hR
  have HS := Lib.hid hS
  clear hR hS
  go_enter Try.func25, Try.ntmps25
  go_wp2_with fail
  go_loopw [5] (fun i wr => ∃ j : Nat, j ≤ n ∧ i = .int .i64 j ∧ Hid (L.take j = M.take j) ∧ ∃ q, wr = w.drewN q) (fun i _ => n - (intOf i).toNat)
  case atStart => exact ⟨0, by omega, rfl, by show _ = _; rw [List.take_zero, List.take_zero], 0, rfl⟩
  case round =>
    obtain ⟨j, hj, rfl, htk, hq⟩ := hrel
    have HQ := Lib.hid hq
    have hRw : RdS wr B1 A n L := by obtain ⟨q, rfl⟩ := hq; exact HR.out
    have hSw : RdV wr B2 S n (M.map strV) := by obtain ⟨q, rfl⟩ := hq; exact HS.out
    clear hq
    by_cases hlt : j < n
    · obtain ⟨b, o, Aj, cj, l, rfl, hb, hl, hcell, hcj, hcjm, hRj⟩ := hRw.at2 hlt
      obtain ⟨b2, o2, u, rfl, hu, hcell2⟩ := hSw.at_ hlt
      obtain ⟨m, hm⟩ : ∃ m, M[j]? = some m := ⟨_, List.getElem?_eq_getElem (by omega)⟩
      rw [List.getElem?_map, hm] at hu
      obtain rfl := Option.some.inj hu
      have hcv := fun (q : Nat) => run_string_rd (wr.drewN q) 35 5 9 Try.underlying35 Try.underlying5 Try.underlying9 _ Aj l.length cj l (show Rd (wr.drewN q) B1 Aj l.length l from hRj)
      have i0 : (0 : Int) ≤ j ∧ (j : Int) < n := by omega
      unfold strV at hcell2
      by_cases hlm : l = m
      · subst hlm
        have hN : Hid (L.take (j + 1) = M.take (j + 1)) := by show _ = _; rw [List.take_add_one, List.take_add_one, hl, hm, htk.out]
        clear hl hm hRj hRw hSw
        generalize l.length = kl at *
        generalize strOfNums l = T at *
        go_upto_region 6 with (fail)
        go_quiet (fail)
        go_wp2_with fail
        go_roundw
        case rel => exact ⟨j + 1, by omega, by go_num, hN, by obtain ⟨q, e⟩ := HQ.out; exact ⟨q + nq, by rw [e, World.drewN_drewN]⟩⟩
        case measure => simp [intOf]; omega
      · have hD := Lib.hid (show decide (L = M) = false from decide_eq_false (fun e => hlm (by rw [e, hm] at hl; exact (Option.some.inj hl).symm)))
        have hne : ((strOfNums l).toList == (strOfNums m).toList) = false := by
          simp only [beq_eq_false_iff_ne, ne_eq]
          exact fun e => hlm (str_inj (hL l (List.mem_of_getElem? hl)) (hM m (List.mem_of_getElem? hm)) e)
        have hne2 : ¬ (strOfNums l).toList = (strOfNums m).toList := by simpa using hne
        clear hl hm hRj hRw hSw
        generalize l.length = kl at *
        generalize strOfNums l = T at *
        generalize strOfNums m = U at *
        go_upto_region 6 with (fail)
        go_quiet (fail)
        go_wp2_with fail
        go_ret
        rw [hD.out]
        exact ⟨rfl, by obtain ⟨q, e⟩ := HQ.out; exact ⟨q + nq, by rw [e, World.drewN_drewN]⟩⟩
    · obtain rfl : j = n := by omega
      have hD := Lib.hid (show decide (L = M) = true from decide_eq_true (by
        have := htk.out
        rwa [List.take_of_length_le (Nat.le_of_eq HL.out), List.take_of_length_le (Nat.le_of_eq hMn)] at this))
      go_wp2_with fail
      go_ret
      rw [hD.out]
      exact ⟨rfl, HQ.out⟩
end Go.Proofs.Ytafdgibkhefplaa.law5
