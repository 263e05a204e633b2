/- The words on the program's own log, and what its inner functions check, fail, put and whole come to. Conditions: those that each theorem names. -/
import Derived.Test.YtafdgibkhefplaaDiskI
import Derived.Test.YtafdgibkhefplaaJoin0
import Derived.Test.YtafdgibkhefplaaJoin1
import Derived.Test.YtafdgibkhefplaaFrameW
import Derived.BigQuiet
import Derived.Outline
namespace Go.Proofs.Ytafdgibkhefplaa.wal
open Go.RowKit Go.Proofs.Ytafdgibkhefplaa.kit Go.Proofs.Ytafdgibkhefplaa.nums Go.Proofs.Ytafdgibkhefplaa.ds Go.Proofs.Ytafdgibkhefplaa.disk Go.Proofs.Ytafdgibkhefplaa.ws Go.Proofs.Ytafdgibkhefplaa.rec_ Go.Proofs.Ytafdgibkhefplaa.bytes
set_option linter.unusedVariables false

def cellsW (a : Nat) (X : WS) : List Value := [.pointer (some ⟨a, 0, none⟩), .int .i64 X.life, .bool X.done, .int .i64 (if X.file = -1 then 1 else X.file), .int .u64 X.gen, .int .i64 X.recs.length, .int .i64 X.size]
/-- The program's log X lies at block p, over the disk at block a; the blocks fp are its own (the disk's are not among them). -/
def IsWal (w : World) (p a : Nat) (X : WS) (fp : Nat → Prop) : Prop := Blk 60 w p (cellsW a X) ∧ fp = fun k => k = p
theorem IsWal.lt {w : World} {p a : Nat} {X : WS} {fp : Nat → Prop} (h : IsWal w p a X fp) : ∀ k, fp k → k < w.heap.size := by
  obtain ⟨h, rfl⟩ := h
  rintro k rfl
  exact h.lt
theorem IsWal.keep {w w' : World} {p a : Nat} {X : WS} {fp : Nat → Prop} (h : IsWal w p a X fp) (hk : ∀ k, fp k → w'.heap[k]? = w.heap[k]?) : IsWal w' p a X fp := by
  obtain ⟨h, rfl⟩ := h
  exact ⟨(hk p rfl).trans h, rfl⟩
section
variable {w : World} {p a : Nat} {X : WS}
theorem c0 (h : Blk 60 w p (cellsW a X)) : w.cell? ⟨p, 0, none⟩ = some (.pointer (some ⟨a, 0, none⟩)) := by rw [h.cell]; rfl
theorem c1 (h : Blk 60 w p (cellsW a X)) : w.cell? ⟨p, 1, none⟩ = some (.int .i64 X.life) := by rw [h.cell]; rfl
theorem c2 (h : Blk 60 w p (cellsW a X)) : w.cell? ⟨p, 2, none⟩ = some (.bool X.done) := by rw [h.cell]; rfl
theorem c3 (h : Blk 60 w p (cellsW a X)) : w.cell? ⟨p, 3, none⟩ = some (.int .i64 (if X.file = -1 then 1 else X.file)) := by rw [h.cell]; rfl
theorem c4 (h : Blk 60 w p (cellsW a X)) : w.cell? ⟨p, 4, none⟩ = some (.int .u64 X.gen) := by rw [h.cell]; rfl
theorem c5 (h : Blk 60 w p (cellsW a X)) : w.cell? ⟨p, 5, none⟩ = some (.int .i64 X.recs.length) := by rw [h.cell]; rfl
theorem c6 (h : Blk 60 w p (cellsW a X)) : w.cell? ⟨p, 6, none⟩ = some (.int .i64 X.size) := by rw [h.cell]; rfl
end
/-- check: may it be used, with these records? -/
theorem check_any (p a : Nat) (X : WS) (D : DS) (fd : Nat → Prop) (w : World) (h : Blk 60 w p (cellsW a X)) (hd : IsDisk w a D fd) (hD : D.Good) (hs : D.stepped ≤ 1000000) (hp : D.powers ≤ 1000000) (hl : X.life ≤ 1000000000)
    (A : Option Addr) (n c : Nat) (L : List (List Int)) (hR : RdS w w.heap.size A n L) (hn : n ≤ 1099511627776) :
    Calls Try.prog 51 #[.pointer (some ⟨p, 0, none⟩), .slice A n c] w fun e w' => e = .returned (.int .i64 (mayE X D L)) ∧ ∃ n, w' = w.drewN n := by
  have d0 := c0 h
  have d1 := c1 h
  have d2 := c2 h
  have CL := Lib.hid (fun k => lives_any a D fd (w.drewN k) (hd.keep (fun _ _ => rfl)) hD hs hp)
  have HR := Lib.hid hR
  have HN := Lib.hid hR.len
  have HO := Lib.hid (show X.over D = (X.done || decide (D.powers ≠ X.life)) from rfl)
  have HM := Lib.hid (show mayE X D L = if X.over D = true then 6 else if tooLong L then 3 else 0 from rfl)
  obtain ⟨b, hb⟩ : ∃ b, X.done = b := ⟨_, rfl⟩
  rw [hb] at d2 HO
  clear h hb hR hd
  have hpl : D.powers ≤ 1000000 := hp
  go_enter Try.func51, Try.ntmps51
  have hfin : ∀ q, (w.drewN q).heap = w.heap := fun q => rfl
  cases b with
  | true =>
    have ho : X.over D = true := by rw [HO.out]; rfl
    have HM6 := Lib.hid (HM.out.trans (if_pos ho))
    clear ho HM
    go_wp2_with fail
    go_quiet (exact Calls.quiet_of (CL.out _))
    go_wp2_with fail
    go_ret
    rw [HM6.out]
    exact ⟨rfl, nq, rfl⟩
  | false =>
    by_cases hq : D.powers = X.life
    case neg =>
      have ho : X.over D = true := by rw [HO.out]; simpa using hq
      have HM6 := Lib.hid (HM.out.trans (if_pos ho))
      have hne : ((D.powers : Int) != (X.life : Int)) = true := by simp; omega
      clear ho HM
      go_wp2_with fail
      go_quiet (exact Calls.quiet_of (CL.out _))
      go_wp2_with fail
      go_ret
      rw [HM6.out]
      exact ⟨rfl, nq, rfl⟩
    have ho : X.over D = false := by rw [HO.out]; simpa using hq
    have HM3 := Lib.hid (HM.out.trans (if_neg (by rw [ho]; decide)))
    have hne : ((D.powers : Int) != (X.life : Int)) = false := by simp; omega
    clear ho HM HO
    go_wp2_with fail
    go_quiet (exact Calls.quiet_of (CL.out _))
    have HR := Lib.hid (show RdS (w.drewN nq) (w.drewN nq).heap.size A n L from HR.out)
    go_wp2_with fail
    go_loopw [34] (fun i wr => ∃ (j q : Nat), j ≤ n ∧ i = .int .i64 j ∧ Hid (∀ r ∈ L.take j, r.length ≤ 1048575) ∧ wr = w.drewN q) (fun i _ => n - (intOf i).toNat)
    case atStart => exact ⟨0, nq, by omega, rfl, by intro r hr; simp at hr, rfl⟩
    case round =>
      obtain ⟨j, q, hj, rfl, hsm, rfl⟩ := hrel
      by_cases hlt : j < n
      · obtain ⟨b, o, Aj, cj, l, rfl, hl, hcell, hl1, hl2, hRl⟩ := (show RdS (w.drewN q) (w.drewN q).heap.size A n L from HR.out).at_ hlt
        have HL := Lib.hid hl
        have i0 : (0 : Int) ≤ j ∧ (j : Int) < n := by omega
        by_cases hbig : 1048575 < l.length
        · have HM6 := Lib.hid (HM3.out.trans (if_pos ⟨l, List.mem_of_getElem? hl, hbig⟩))
          clear hl HM3
          go_wp2_with fail
          go_ret
          rw [HM6.out]
          exact ⟨rfl, q, rfl⟩
        · have hb2 : l.length ≤ 1048575 := by omega
          have hsn : Hid (∀ r ∈ L.take (j + 1), r.length ≤ 1048575) := by
            intro r hr
            rw [List.take_add_one, HL.out] at hr
            rcases List.mem_append.1 hr with h | h
            · exact hsm.out r h
            · simp at h; rw [h]; exact hb2
          clear hl
          go_wp2_with fail
          go_roundw
          case rel => exact ⟨j + 1, q, by omega, by go_num, hsn, rfl⟩
          case measure => simp [intOf]; omega
      · obtain rfl : j = n := by omega
        have HM6 := Lib.hid (HM3.out.trans (if_neg (by
          rintro ⟨r, hr, h⟩
          rw [← List.take_of_length_le (Nat.le_of_eq HN.out)] at hr
          have := hsm.out r hr
          omega)))
        clear HM3
        go_wp2_with fail
        go_ret
        rw [HM6.out]
        exact ⟨rfl, q, rfl⟩
/-- fail: the log is closed. -/
theorem fail_any (p a : Nat) (X : WS) (e : Int) (w : World) (h : Blk 60 w p (cellsW a X)) :
    Calls Try.prog 53 #[.pointer (some ⟨p, 0, none⟩), .int .i64 e] w fun e' w' => e' = .returned (.int .i64 e) ∧ Blk 60 w' p (cellsW a { X with done := true }) ∧ w.grownBy w' (some p) := by
  have HS := Lib.hid (show Blk 60 (w.setCell ⟨p, 2, none⟩ (.bool true)) p (cellsW a { X with done := true }) from h.set_ 2 (.bool true))
  have d2 := c2 h
  have hf := h.frozen 2
  clear h
  go_enter Try.func53, Try.ntmps53
  go_wp2_with fail
  go_ret
  exact ⟨rfl, HS.out, grown_more (World.grownBy.refl _ _) _ _⟩
/-- put: a record more, behind bytes of the caller's own. -/
theorem put_any (base : Nat) (A : Option Addr) (n c : Nat) (l : List Int) (K : Int) (T : Option Addr) (m ct : Nat) (t : List Int) (w : World) (hO : Own 5 w base (.slice A n c) l) (hl : l.length = n) (hb : base ≤ w.heap.size) (hT : Rd w w.heap.size T m t) (hY : Byt (K :: t)) (hn : n ≤ 1099511627776) (hm : m ≤ 1048575) :
    Calls Try.prog 52 #[.slice A n c, .int .u8 K, .slice T m ct] w fun e w' => ∃ A' c', e = .returned (.slice A' (n + (8 + (1 + m))) c') ∧ (l ++ recB (K :: t)).length = n + (8 + (1 + m)) ∧ Own 5 w' base (.slice A' (n + (8 + (1 + m))) c') (l ++ recB (K :: t)) ∧ Below base w w' := by
  have hO1 : Own 5 (w.alloc (.cells #[.int .u8 K] 5)) w.heap.size (.slice (some ⟨w.heap.size, 0, none⟩) 1 1) [K] := Own.lit w 5 [K] rfl (Nat.le_refl _) (by omega)
  have hB1 : Below w.heap.size w (w.alloc (.cells #[.int .u8 K] 5)) := (Below.refl _ _).alloc (Nat.le_refl _) _
  have hT1 := hT.on hB1 hB1.size
  have HO := Lib.hid hO
  have HTl := Lib.hid hT.len
  clear hO hT
  go_enter Try.func52, Try.ntmps52
  go_wp2_with (at_builtin; with_reducible refine wpList_append_rd rfl (.tmp 11) (.tmp 12) 35 rfl w.heap.size 5 Try.underlying35 info5 _ 1 1 [K] rfl rfl hO1 _ T m ct t rfl hT1 ?ha ?hb ?_)
  case ha => omega
  case hb => exact hB1.size
  intro A2 c2 w2 hO2 hB2 _
  have hl2 : ([K] ++ t).length = 1 + m := by rw [List.length_append, HTl.out]; rfl
  have hB02 := hB1.trans hB2
  have HOw := Lib.hid (HO.out.below hB02)
  have hc2 := hO2.caps hl2
  have C := Lib.hid (frame.put_any none 0 0 [] A2 (1 + m) c2 (K :: t) w2 (Rd.nil _ _ _) (hO2.rd hl2) hY (by omega) (by omega) (by unfold maxLen; omega) (by omega) hc2.1 hc2.2)
  clear hO1 hB1 hT1 HO hO2 hB2 hc2
  go_wp2_with fail
  refine C.out.mono ?_
  clear C
  rintro e w3 ⟨A3, c3, rfl, hl3, hO3, hB3⟩
  rw [List.nil_append] at hl3 hO3
  rw [Nat.zero_add] at hl3 hO3
  have hR3 := hO3.rd hl3
  have hOw3 := HOw.out.below (hB3.mono (Nat.le_refl _))
  have hb3 : base ≤ w3.heap.size := Nat.le_trans (Nat.le_trans hb hB02.size) hB3.size
  have HB := Lib.hid ((hB02.mono hb).trans (hB3.mono (Nat.le_trans hb hB02.size)))
  clear hO3 HOw hB02 hB3
  go_wp2_with (at_builtin; with_reducible refine wpList_append_rd rfl (.tmp 19) (.tmp 20) 35 rfl base 5 Try.underlying35 info5 A n c l hl rfl hOw3 _ A3 (8 + (1 + m)) c3 _ rfl hR3 ?hc ?hd ?_)
  case hc => omega
  case hd => exact hb3
  intro A4 c4 w4 hO4 hB4 _
  go_wp2_with fail
  go_ret
  exact ⟨A4, c4, rfl, by rw [List.length_append, hl, hl3], hO4, HB.out.trans hB4⟩
end Go.Proofs.Ytafdgibkhefplaa.wal
