/- WalNone's walk: it answers true in every world. No condition. -/
import Derived.Test.YtafdgibkhefplaaWlN
import Derived.Test.YtafdgibkhefplaaBegunW
namespace Go.Proofs.Ytafdgibkhefplaa.law5
open Go.RowKit Go.Proofs.Ytafdgibkhefplaa.kit Go.Proofs.Ytafdgibkhefplaa.nums Go.Proofs.Ytafdgibkhefplaa.ds Go.Proofs.Ytafdgibkhefplaa.ws
set_option linter.unusedVariables false

def deadD : DS := (DS.fresh.armS 0).syncS 0
theorem deadD_off : deadD.off = true ∧ (openO deadD).e = 6 ∧ (openO deadD).D = deadD := ⟨by kernel_rfl, by kernel_rfl, by kernel_rfl⟩
set_option maxRecDepth 100000 in
set_option maxHeartbeats 2000000 in
theorem none_walk (w : World) :
    Calls Try.prog 6 #[] w fun e w' => e = .returned (.bool true) ∧ Below w.heap.size w w' := by
  have hb : Blk 60 (w.alloc (.cells #[.pointer none, .int .i64 0, .bool false, .int .i64 0, .int .u64 0, .int .i64 0, .int .i64 0] 60)) w.heap.size [.pointer none, .int .i64 0, .bool false, .int .i64 0, .int .u64 0, .int .i64 0, .int .i64 0] := (MapKept.heap_alloc _ _).1
  have hB := Lib.hid (show Below w.heap.size w (w.alloc (.cells #[.pointer none, .int .i64 0, .bool false, .int .i64 0, .int .u64 0, .int .i64 0, .int .i64 0] 60)) from (Below.refl _ _).alloc (Nat.le_refl _) _)
  go_enter Try.func6, Try.ntmps6
  go_upto_region 3 with (fail)
  generalize w.alloc (.cells #[.pointer none, .int .i64 0, .bool false, .int .i64 0, .int .u64 0, .int .i64 0, .int .i64 0] 60) = w2 at *
  have hz : w2.cell? ⟨w.heap.size, 0, none⟩ = some (.pointer none) := by rw [hb.cell]; rfl
  have hlt := hb.lt
  have HZ2 := Lib.hid (show ∀ w3, Below w2.heap.size w2 w3 → wal.NoWal (some ⟨w.heap.size, 0, none⟩) w3 from fun w3 hB3 => wal.NoWal.zero ((hB3.cell (p := ⟨w.heap.size, 0, none⟩) hlt).trans hz))
  clear hb hz
  have C := Lib.hid (wal.open_nil w2)
  go_wp2_with fail
  refine C.out.mono ?_
  clear C
  rintro e w3 ⟨rfl, hB3⟩
  have C := Lib.hid (disk.new_any w3)
  go_wp2_with fail
  refine C.out.mono ?_
  clear C
  rintro e w4 ⟨a, fp, rfl, hd, hf, hB4⟩
  have HB4 := Lib.hid (hB3.trans (hB4.mono hB3.size))
  have C := Lib.hid (disk.arm_any a DS.fresh fp w4 hd DS.Good.fresh (show (0 : Nat) ≤ 1000000 by omega) (show (0 : Nat) ≤ 1000000 by omega) 0 (by omega))
  have h24 := HB4.out.size
  have hf2 : ∀ k, fp k → w2.heap.size ≤ k := fun k hk => Nat.le_trans hB3.size (hf k hk)
  clear hB3 hB4 hd hf
  go_wp2_with fail
  refine C.out.mono ?_
  clear C
  rintro e w5 ⟨fp5, rfl, hd5, hC5⟩
  have hf5 : ∀ k, fp5 k → w2.heap.size ≤ k := fun k hk => by
    rcases hC5.new k hk with h | h
    · exact hf2 k h
    · omega
  have HB5 := Lib.hid (HB4.out.trans (below_chg hC5 hf2 h24))
  have C := Lib.hid (disk.sync_any a (DS.fresh.armS 0) fp5 w5 hd5 (DS.Good.fresh.arm (by omega)) (show (0 : Nat) ≤ 1000000 by omega) (show (0 : Nat) ≤ 1000000 by omega) 0)
  have hgd : deadD.Good := (DS.Good.fresh.arm (n := 0) (by omega)).sync (f := 0) (show (0 : Nat) ≤ 1000000 by omega)
  have h25 := HB5.out.size
  clear hC5 hf2 hd5
  go_wp2_with fail
  refine C.out.mono ?_
  clear C
  rintro e w6 ⟨fp6, rfl, hd6, hC6⟩
  have hf6 : ∀ k, fp6 k → w2.heap.size ≤ k := fun k hk => by
    rcases hC6.new k hk with h | h
    · exact hf5 k h
    · omega
  have HB6 := Lib.hid (HB5.out.trans (below_chg hC6 hf5 h25))
  have h26 := HB6.out.size
  have C := Lib.hid (show Calls Try.prog 16 #[.pointer (some ⟨a, 0, none⟩)] w6 (wal.RetOp w6 a fp6 (openO deadD)) from wal.open_any a deadD fp6 w6 hd6 hgd (show (0 : Nat) ≤ 999000 by omega) (show (0 : Nat) ≤ 1000000 by omega))
  clear hC6 hf5 hd6
  go_wp2_with fail
  refine C.out.mono ?_
  clear C
  rintro e w7 (⟨h0, _⟩ | ⟨_, fp7, A7, c7, rfl, _, hC7⟩)
  case inl => exact absurd (h0.symm.trans deadD_off.2.1) (by decide)
  rw [deadD_off.2.1]
  have HB7 := Lib.hid (HB6.out.trans (below_chg hC7 hf6 h26))
  have h27 := HB7.out.size
  have C := Lib.hid (begun_any w7)
  clear hC7 hf6
  go_wp2_with fail
  refine C.out.mono ?_
  clear C
  rintro e w8 ⟨rfl, hB8⟩
  have HB8 := Lib.hid (HB7.out.trans (hB8.mono h27))
  have h28 := HB8.out.size
  have C := Lib.hid (wal.noW_append (q := none) (w := w8) (fun w' _ => wal.NoWal.nil w') none 0 0)
  clear hB8 HB7 HB6 HB5 HB4
  go_wp2_with fail
  refine C.out.mono ?_
  clear C
  rintro e w9 ⟨rfl, hB9⟩
  have HB9 := Lib.hid (HB8.out.trans (hB9.mono h28))
  have h29 := HB9.out.size
  have C := Lib.hid (wal.noW_append (q := some ⟨w.heap.size, 0, none⟩) (w := w9) (fun w' h => HZ2.out w' (HB9.out.trans (h.mono h29))) none 0 0)
  clear hB9
  go_wp2_with fail
  refine C.out.mono ?_
  clear C
  rintro e w10 ⟨rfl, hB10⟩
  have HB10 := Lib.hid (HB9.out.trans (hB10.mono h29))
  have E1 := Lib.hid (wal.noW_rewrite (wal.NoWal.nil w10) none 0 0)
  have E2 := Lib.hid (wal.noW_sync (HZ2.out w10 HB10.out))
  have E3 := Lib.hid (wal.noW_count (wal.NoWal.nil w10))
  have E4 := Lib.hid (wal.noW_count (HZ2.out w10 HB10.out))
  have E5 := Lib.hid (wal.noW_bytes (wal.NoWal.nil w10))
  have E6 := Lib.hid (wal.noW_bytes (HZ2.out w10 HB10.out))
  clear hB10
  go_wp2_with fail
  refine E1.out.mono ?_
  rintro e w11 ⟨rfl, rfl⟩
  go_wp2_with fail
  refine E2.out.mono ?_
  rintro e w11 ⟨rfl, rfl⟩
  go_wp2_with fail
  refine E3.out.mono ?_
  rintro e w11 ⟨rfl, rfl⟩
  go_wp2_with fail
  refine E4.out.mono ?_
  rintro e w11 ⟨rfl, rfl⟩
  go_wp2_with fail
  refine E5.out.mono ?_
  rintro e w11 ⟨rfl, rfl⟩
  go_wp2_with fail
  refine E6.out.mono ?_
  rintro e w11 ⟨rfl, rfl⟩
  go_wp2_with fail
  go_ret
  exact ⟨rfl, hB.out.trans (HB10.out.mono (Nat.le_of_lt hlt))⟩
end Go.Proofs.Ytafdgibkhefplaa.law5
