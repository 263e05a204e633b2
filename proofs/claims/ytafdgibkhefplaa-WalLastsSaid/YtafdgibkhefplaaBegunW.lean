/- The statements' own first test of wal, begun, answers true, and writes nothing that was there. No condition. -/
import Derived.Test.YtafdgibkhefplaaDoW7
import Derived.Lib.SmallJoins
namespace Go.Proofs.Ytafdgibkhefplaa.law5
open Go.RowKit Go.Proofs.Ytafdgibkhefplaa.kit Go.Proofs.Ytafdgibkhefplaa.nums Go.Proofs.Ytafdgibkhefplaa.ds Go.Proofs.Ytafdgibkhefplaa.ws Go.Proofs.Ytafdgibkhefplaa.ref4 Go.Proofs.Ytafdgibkhefplaa.ref5 Go.Proofs.Ytafdgibkhefplaa.law0 Go.Proofs.Ytafdgibkhefplaa.bytes
set_option linter.unusedVariables false

/-- What the operations of begun leave: opened, written to, synced, failed, opened. -/
def bO1 : Out := openO DS.fresh
def bO2 : Out := appendO bO1.X bO1.D [120]
def bO3 : Out := syncO bO2.X bO2.D
def bD4 : DS := bO3.D.powS []
def bO5 : Out := openO bD4
theorem begW_S : (bO1.e = 0 ∧ bO2.e = 0 ∧ bO3.e = 0) ∧ bO5.e = 0 ∧ bO5.X.recs = [[120]] ∧ bO3.X.over bO5.D = true ∧ (appendO bO3.X bO5.D []).e = 6 :=
  ⟨⟨rfl, rfl, rfl⟩, by kernel_rfl, by kernel_rfl, by kernel_rfl, by kernel_rfl⟩
theorem bytW_x : Byt [120] := by intro x hx; simp at hx; omega
theorem strW_x : strOfNums [120] = ⟨#[120]⟩ := by decide
theorem below_chg {f f' : Nat → Prop} {B : Nat} {w1 w2 : World} (hC : disk.Chg f f' w1 w2) (hf : ∀ k, f k → B ≤ k) (hB : B ≤ w1.heap.size) : Below B w1 w2 :=
  ⟨hC.os, hC.tape, hC.output, hC.size, fun k hk => hC.block k (by omega) (fun h => by have := hf k h; omega)⟩
theorem rd_there {w W : World} {A : Option Addr} {n B : Nat} {l : List Int} (h : Rd w B A n l) (hk : ∀ b o, A = some ⟨b, o, none⟩ → W.heap[b]? = w.heap[b]? ∧ b < W.heap.size) : Rd W W.heap.size A n l :=
  ⟨h.1, fun hn => by
    obtain ⟨b, o, e, hlt, hc⟩ := h.2 hn
    exact ⟨b, o, e, (hk b o e).2, fun j hj => (World.cell?_of_block (a := ⟨b, o + j, none⟩) (hk b o e).1).trans (hc j hj)⟩⟩
theorem fit_over {X : WS} {D D' : DS} (h : Fit X D) (ho : X.over D' = true) : Fit X D' :=
  ⟨h.file, h.g0, h.g1, h.recs, h.many, h.life, h.s1, fun k => (Bool.noConfusion (k.symm.trans ho)), fun k => (Bool.noConfusion (k.symm.trans ho))⟩
/-- What lies from block B on, of a log and its disk. -/
theorem from_ret {f f' : Nat → Prop} {B n : Nat} (hn : ∀ k, f' k → f k ∨ n ≤ k) (hf : ∀ k, f k → B ≤ k) (hB : B ≤ n) : ∀ k, f' k → B ≤ k := fun k hk => by
  rcases hn k hk with h | h
  · exact hf k h
  · omega

set_option maxRecDepth 100000 in
set_option maxHeartbeats 1000000 in
theorem begun_any (w : World) :
    Calls Try.prog 9 #[] w fun e w' => e = .returned (.bool true) ∧ Below w.heap.size w w' := by
  have kc := fun (w : World) (C : Array Value) (n c g : Nat) (hg : g = w.heap.size) => Joins.run_convert_bytes_const_at (P := Try.prog) w 35 5 C n c g hg Try.underlying35 Try.underlying5
  obtain ⟨⟨E1, E2, E3⟩, E5, ER, EO, E6⟩ := begW_S
  have N1 : bO1.D.Good ∧ bO1.D.stepped ≤ 3 ∧ bO1.D.powers = 0 := open_near DS.fresh DS.Good.fresh (show (0 : Nat) ≤ 999000 by omega)
  have F1 : Fit bO1.X bO1.D := Fit.open_ DS.Good.fresh
  have L1 : bO1.X.file ≠ -1 := open_file E1
  have N2 : bO2.D.Good ∧ bO2.D.stepped ≤ bO1.D.stepped + 3 ∧ bO2.D.powers = bO1.D.powers := append_near bO1.X bO1.D [120] N1.1 (by omega) bytW_x
  have F2 : Fit bO2.X bO2.D := F1.append bytW_x L1
  have L2 : bO2.X.file ≠ -1 := keeps_file_append L1
  have N3 : bO3.D.Good ∧ bO3.D.stepped ≤ bO2.D.stepped + 3 ∧ bO3.D.powers = bO2.D.powers := sync_near bO2.X bO2.D N2.1 (by omega)
  have F3 : Fit bO3.X bO3.D := F2.sync
  have L3 : bO3.X.file ≠ -1 := keeps_file_sync L2
  have G4 : bD4.Good := N3.1.pow (by omega) []
  have N4 : bD4.stepped ≤ bO3.D.stepped + 1 ∧ bD4.powers ≤ bO3.D.powers + 1 := DS.Near.pow bO3.D []
  have N5 : bO5.D.Good ∧ bO5.D.stepped ≤ bD4.stepped + 3 ∧ bO5.D.powers = bD4.powers := open_near bD4 G4 (by omega)
  have F5 : Fit bO3.X bO5.D := fit_over F3 EO
  go_enter Try.func9, Try.ntmps9
  go_wp2_with fail
  refine (disk.new_any w).mono ?_
  rintro e w1 ⟨a, fd1, rfl, hd1, hf1, hB1⟩
  have C1 := Lib.hid (show Calls Try.prog 16 #[.pointer (some ⟨a, 0, none⟩)] w1 (wal.RetOp w1 a fd1 bO1) from wal.open_any a DS.fresh fd1 w1 hd1 DS.Good.fresh (show (0 : Nat) ≤ 999000 by omega) (show (0 : Nat) ≤ 1000000 by omega))
  go_wp2_with fail
  refine C1.out.mono ?_
  clear C1
  rintro e w2 (⟨_, p, fw2, fd2, A, n, c, rfl, hL2, hfw2, hC2, _⟩ | ⟨he, _⟩)
  case inr => exact absurd E1 he
  have hB2 := hB1.trans (below_chg hC2 hf1 hB1.size)
  have hf2 : ∀ k, fw2 k ∨ fd2 k → w.heap.size ≤ k := fun k hk => by
    have := hB1.size
    rcases hC2.new k hk with h | h
    · exact hf1 k h
    · omega
  have hal : Below w2.heap.size w2 (w2.alloc (.cells #[.int .u8 120] 5 (1, 2))) := (Below.refl _ _).alloc (Nat.le_refl _) _
  have hL2' : wal.Log (w2.alloc (.cells #[.int .u8 120] 5 (1, 2))) p a bO1.X bO1.D fw2 fd2 := ⟨hL2.wal.keep (fun k hk => hal.block k (hL2.wal.lt k hk)), hL2.disk.keep (fun k hk => hal.block k (hL2.disk.lt k hk)), hL2.apart⟩
  have hR2 : Rd (w2.alloc (.cells #[.int .u8 120] 5 (1, 2))) (w2.heap.size + 1) (some ⟨w2.heap.size, 0, none⟩) 1 [120] := rd_lit w2 5 [120] 1 (1, 2) rfl
  have hsz : (w2.alloc (.cells #[.int .u8 120] 5 (1, 2))).heap.size = w2.heap.size + 1 := by simp
  have C2 := Lib.hid (wal.append_any p a bO1.X bO1.D fw2 fd2 (w2.alloc (.cells #[.int .u8 120] 5 (1, 2))) hL2' N1.1 (by omega) (by omega) F1 L1 (some ⟨w2.heap.size, 0, none⟩) 1 1 [120] (fun W h1 h2 => rd_there hR2 (fun b o e => by
    simp only [Option.some.injEq, Addr.mk.injEq, and_true] at e
    obtain ⟨rfl, rfl⟩ := e
    exact ⟨h2 _ (by omega) (fun hf => by
      rcases hf with hf | hf
      · have := hL2.wal.lt _ hf; omega
      · have := hL2.disk.lt _ hf; omega), by omega⟩)) bytW_x (by omega) (by omega) (by unfold maxLen; omega))
  have hB2a := hB2.trans (hal.mono hB2.size)
  have HX2 := Lib.hid (And.intro hB2a hf2)
  clear hL2 hC2 hB2 hf2 hL2' hR2 hal hB2a hd1 hf1 hB1 hfw2
  go_wp2_with fail
  refine C2.out.mono ?_
  clear C2
  rintro e w3 ⟨fw3, fd3, he3, hL3, hC3, hn3, hm3⟩
  rw [show (appendO bO1.X bO1.D [120]).e = 0 from E2] at he3
  subst he3
  have hs2 := HX2.out.1.size
  have hB3 := HX2.out.1.trans (below_chg hC3 HX2.out.2 hs2)
  have hf3 : ∀ k, fw3 k ∨ fd3 k → w.heap.size ≤ k := from_ret (fun k hk => hC3.new k hk) HX2.out.2 hs2
  have C3 := Lib.hid (wal.sync_any p a bO2.X bO2.D fw3 fd3 w3 hL3 N2.1 (by omega) (by omega) F2 L2)
  clear hL3 hC3 hn3 hm3 HX2 hs2 hsz
  go_wp2_with fail
  refine C3.out.mono ?_
  clear C3
  rintro e w4 ⟨fw4, fd4, he4, hL4, hC4, hn4, hm4⟩
  rw [show (syncO bO2.X bO2.D).e = 0 from E3] at he4
  subst he4
  have hs3 := hB3.size
  have hB4 := hB3.trans (below_chg hC4 hf3 hs3)
  have hf4 : ∀ k, fw4 k ∨ fd4 k → w.heap.size ≤ k := from_ret (fun k hk => hC4.new k hk) hf3 hs3
  have C4 := Lib.hid (disk.power_any a bO3.D fd4 w4 hL4.disk N3.1 (by omega) (by omega) none 0 0 [] (RdV.nil _ _ _) (fun z hz => by cases hz) (fun h => absurd h (by omega)) (by omega))
  have HL4 := Lib.hid hL4
  clear hL4 hC4 hn4 hm4 hB3 hf3 hs3
  go_wp2_with fail
  refine C4.out.mono ?_
  clear C4
  rintro e w5 ⟨fd5, rfl, hd5, hC5⟩
  have hs4 := hB4.size
  have hB5 := hB4.trans (below_chg hC5 (fun k hk => hf4 k (.inr hk)) hs4)
  have hw5 : wal.IsWal w5 p a bO3.X fw4 := HL4.out.wal.keep (fun k hk => hC5.block k (HL4.out.wal.lt k hk) (HL4.out.apart k hk))
  have hx5 : ∀ k, fw4 k → ¬ fd5 k := fun k hk h5 => by
    have := HL4.out.wal.lt k hk
    rcases hC5.new k h5 with h | h
    · exact HL4.out.apart k hk h
    · omega
  have hf5 : ∀ k, fd5 k → w.heap.size ≤ k := from_ret hC5.new (fun k hk => hf4 k (.inr hk)) hs4
  have C5 := Lib.hid (show Calls Try.prog 16 #[.pointer (some ⟨a, 0, none⟩)] w5 (wal.RetOp w5 a fd5 bO5) from wal.open_any a bD4 fd5 w5 hd5 G4 (by omega) (by omega))
  have HX5 := Lib.hid (And.intro hB5 (And.intro hw5 (And.intro hx5 (And.intro (fun k hk => hf4 k (.inl hk) : ∀ k, fw4 k → w.heap.size ≤ k) hf5))))
  clear hd5 hC5 hB4 hf4 HL4 hs4 hB5 hw5 hx5 hf5
  go_wp2_with fail
  refine C5.out.mono ?_
  clear C5
  rintro e w6 (⟨_, p2, fw6, fd6, A6, n6, c6, rfl, hL6, hfw6, hC6, hSafe⟩ | ⟨he, _⟩)
  case inr => exact absurd E5 he
  have hR6 := hSafe w6 (Nat.le_refl _) (fun _ _ _ => rfl)
  rw [ER] at hR6
  obtain rfl : 1 = n6 := hR6.len
  obtain ⟨b, o, Aj, cj, l, rfl, hl, hc0, hj1, hj2, hRj⟩ := hR6.at_ (show 0 < 1 by omega)
  obtain rfl : [120] = l := by simpa using hl
  rw [Nat.add_zero] at hc0
  have hv := run_string_rd (P := Try.prog) w6 35 5 9 Try.underlying35 Try.underlying5 Try.underlying9 w6.heap.size Aj 1 cj [120] hRj
  rw [strW_x] at hv
  have hc0' : w6.cell? ⟨b, o, none⟩ = some (.slice Aj 1 cj) := hc0
  have hB6 := HX5.out.1.trans (below_chg hC6 HX5.out.2.2.2.2 HX5.out.1.size)
  have hL7 : wal.Log w6 p a bO3.X bO5.D fw4 fd6 := ⟨HX5.out.2.1.keep (fun k hk => hC6.block k (HX5.out.2.1.lt k hk) (HX5.out.2.2.1 k hk)), hL6.disk, fun k h1 h2 => by
    have := HX5.out.2.1.lt k h1
    rcases hC6.new k (.inr h2) with h | h
    · exact HX5.out.2.2.1 k h1 h
    · omega⟩
  have hf6 : ∀ k, fw4 k ∨ fd6 k → w.heap.size ≤ k := fun k hk => by
    have := HX5.out.1.size
    rcases hk with hk | hk
    · exact HX5.out.2.2.2.1 k hk
    · rcases hC6.new k (.inr hk) with h | h
      · exact HX5.out.2.2.2.2 k h
      · omega
  have C7 := Lib.hid (wal.append_any p a bO3.X bO5.D fw4 fd6 w6 hL7 N5.1 (by omega) (by omega) F5 L3 none 0 0 [] (fun W _ _ => Rd.nil _ _ _) Byt.nil (by omega) (by omega) (by unfold maxLen; omega))
  have HB6 := Lib.hid (And.intro hB6 hf6)
  clear hL6 hfw6 hC6 hSafe hR6 hl hc0 hRj hB6 hL7 hf6 HX5 kc
  go_wp2_with fail
  refine C7.out.mono ?_
  clear C7
  rintro e w7 ⟨fw7, fd7, he7, hL7, hC7, hn7, hm7⟩
  rw [E6] at he7
  subst he7
  have hB7 := HB6.out.1.trans (below_chg hC7 HB6.out.2 HB6.out.1.size)
  clear hL7 hC7 hn7 hm7 HB6
  go_wp2_with fail
  go_ret
  exact ⟨rfl, hB7⟩
end Go.Proofs.Ytafdgibkhefplaa.law5
