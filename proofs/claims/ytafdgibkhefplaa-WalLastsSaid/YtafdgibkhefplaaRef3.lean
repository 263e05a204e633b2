/- What the document's frame (antipoderef3) comes to: Put, Next, Scan. Conditions: what the slices read as; the bytes are at most 2^40. -/
import Derived.Test.YtafdgibkhefplaaProg
import Derived.Test.YtafdgibkhefplaaJoin1
import Derived.Test.YtafdgibkhefplaaOfs
import Derived.Test.YtafdgibkhefplaaJoin0
import Derived.Test.YtafdgibkhefplaaLaw0
import Derived.Outline
namespace Go.Proofs.Ytafdgibkhefplaa.ref3
open Go.RowKit Go.Proofs.Ytafdgibkhefplaa.kit Go.Proofs.Ytafdgibkhefplaa.nums Go.Proofs.Ytafdgibkhefplaa.crc Go.Proofs.Ytafdgibkhefplaa.bytes Go.Proofs.Ytafdgibkhefplaa.rec_ Go.Proofs.Ytafdgibkhefplaa.ofs
set_option linter.unusedVariables false

/-- Four bytes, of a number that is small. -/
theorem rput4 (v : Int) (w : World) (h0 : 0 ≤ v) (h1 : v < 4294967296) :
    Calls Try.prog 62 #[.slice none 0 0, .int .u64 v, .int .i64 4] w (RetS 5 w 4 (beB v 4)) := by
  refine (rput_any none 0 0 [] v 4 w (Rd.nil _ _ _) (by omega) h0 (by omega) (by omega) (by omega)).mono ?_
  intro e w' h
  rcases h with ⟨_, h⟩ | ⟨h, _⟩
  · simpa using h
  · exact absurd (show v / 2 ^ (8 * 4) = 0 by simp only [Nat.reduceMul, Int.reducePow]; omega) h

set_option maxHeartbeats 400000 in
theorem put3_any (A : Option Addr) (n c : Nat) (l : List Int) (S : Option Addr) (m cs : Nat) (s : List Int) (w : World) (hR : Rd w w.heap.size A n l) (hS : Rd w w.heap.size S m s) (hY : Byt s) (hn : n ≤ 1099511627776) (hm : m ≤ 1048576) (hmc : m ≤ cs) (hcs : cs ≤ maxLen) :
    Calls Try.prog 35 #[.slice A n c, .slice S m cs] w (RetS 5 w (n + (8 + m)) (l ++ recB s)) := by
  have HL := Lib.hid hS.len
  have C1 := Lib.hid (rput4 (m : Int) w (by omega) (by omega))
  go_enter Try.func35, Try.ntmps35
  go_wp2_with fail
  refine C1.out.mono ?_
  rintro e w1 ⟨A1, c1, rfl, hl1, hO1, hB1⟩
  rw [show beB (m : Int) 4 = headB s by unfold headB; rw [HL.out]] at hl1 hO1
  have C2 := Lib.hid (rof_two (Own.sl hO1 hl1) (x := .slice A1 4 c1) (y := .slice S m cs) (l := headB s) (m := s) ⟨S, cs, by rw [HL.out], by rw [HL.out]; exact hmc, hcs, by rw [HL.out]; exact hS.on hB1 hB1.size⟩ (beB_byt _ _) (by rw [headB_length]; omega) hY (by rw [HL.out]; omega))
  have hlt : ofC (headB s ++ s) < 4294967296 := moreC_lt (by decide) ((beB_byt _ _).append hY)
  go_wp2_with fail
  refine C2.out.mono ?_
  rintro e w2 ⟨rfl, hB2⟩
  have C3 := Lib.hid (rput4 ((ofC (headB s ++ s) : Nat) : Int) w2 (by omega) (by omega))
  go_wp2_with fail
  refine C3.out.mono ?_
  rintro e w3 ⟨A3, c3, rfl, hl3, hO3, hB3⟩
  rw [show beB ((ofC (headB s ++ s) : Nat) : Int) 4 = sumB s from rfl] at hl3 hO3
  have hb13 : Below w1.heap.size w1 w3 := hB2.trans (hB3.mono hB2.size)
  have hb03 : Below w.heap.size w w3 := hB1.trans (hb13.mono hB1.size)
  have r0 : Rd (w3.alloc (.cells #[] 5)) w3.heap.size A n l := (hR.on hb03 hb03.size).alloc (Nat.le_refl _) _
  have r1 : Rd (w3.alloc (.cells #[] 5)) w3.heap.size A1 4 (headB s) := ((Own.rd hO1 hl1).on hb13 hb13.size).alloc (Nat.le_refl _) _
  have r3 : Rd (w3.alloc (.cells #[] 5)) w3.heap.size A3 4 (sumB s) := (Own.rd hO3 hl3).alloc (Nat.le_refl _) _
  have rS : Rd (w3.alloc (.cells #[] 5)) w3.heap.size S m s := (hS.on hb03 hb03.size).alloc (Nat.le_refl _) _
  have HR := Lib.hid (And.intro r1 (And.intro r3 rS))
  have HN := Lib.hid hR.len
  have HB := Lib.hid hb03
  clear r1 r3 rS C1 C2 C3 hO1 hO3 hR hS hB1 hB2 hB3 hb13 hb03
  go_wp2_with (at_builtin; with_reducible refine wpList_append_rd rfl (.tmp 29) (.tmp 30) 35 rfl w3.heap.size 5 Try.underlying35 info5 _ 0 0 [] rfl rfl (Own.empty _ _ (Nat.le_refl _)) _ _ n _ _ rfl r0 ?ha ?hbs ?_)
  case ha => omega
  case hbs => simp
  intro A4 c4 w4 hO4 hB4 _
  have HR4 := HR.out.1.below hB4
  go_wp2_with (at_builtin; with_reducible refine wpList_append_rd rfl (.tmp 31) (.tmp 32) 35 rfl w3.heap.size 5 Try.underlying35 info5 _ n c4 l HN.out rfl hO4 _ _ 4 _ _ rfl HR4 ?hd ?he ?_)
  case hd => omega
  case he => have := hB4.size; simp at this; omega
  intro A5 c5 w5 hO5 hB5 _
  have HR5 := HR.out.2.1.below (hB4.trans hB5)
  go_wp2_with (at_builtin; with_reducible refine wpList_append_rd rfl (.tmp 33) (.tmp 34) 35 rfl w3.heap.size 5 Try.underlying35 info5 _ (n + 4) c5 (l ++ headB s) ?hf rfl hO5 _ _ 4 _ _ rfl HR5 ?hg ?hh ?_)
  case hf => simp [HN.out, headB_length]
  case hg => omega
  case hh => have := (hB4.trans hB5).size; simp at this; omega
  intro A6 c6 w6 hO6 hB6 _
  have HR6 := HR.out.2.2.below ((hB4.trans hB5).trans hB6)
  go_wp2_with (at_builtin; with_reducible refine wpList_append_rd rfl (.tmp 35) (.tmp 36) 35 rfl w3.heap.size 5 Try.underlying35 info5 _ (n + 4 + 4) c6 (l ++ (headB s ++ sumB s)) ?hi rfl hO6 _ _ m _ _ rfl HR6 ?hj ?hk ?_)
  case hi => simp [HN.out, headB_length, sumB_length]
  case hj => omega
  case hk => have := ((hB4.trans hB5).trans hB6).size; simp at this; omega
  intro A7 c7 w7 hO7 hB7 _
  go_wp2_with fail
  go_ret2
  have e1 : n + 4 + 4 + m = n + (8 + m) := by omega
  have e2 : l ++ (headB s ++ (sumB s ++ s)) = l ++ recB s := by unfold recB; simp
  rw [e1, e2] at hO7
  rw [e1]
  refine ⟨A7, c7, rfl, by rw [List.length_append, recB_length, HN.out, HL.out], hO7.more HB.out.size, ?_⟩
  exact HB.out.trans (Below.mono (((Below.refl _ _).alloc (Nat.le_refl _) _).trans (((hB4.trans hB5).trans hB6).trans hB7)) HB.out.size)
/-- What Next ends in: the record, new, its end, the error. -/
def RetN (W : World) (l : List Int) (p : Int) (e : Ending) (w' : World) : Prop :=
  ∃ A n c, e = .returned (.tuple #[.slice A n c, .int .i64 (nextN l p), .int .i64 (nextE l p)]) ∧ (nextR l p).length = n ∧ Own 5 w' W.heap.size (.slice A n c) (nextR l p) ∧ Below W.heap.size W w'
theorem RetN.err {W w' : World} {l : List Int} {p x : Int} (h : nextE l p = x) (hx : x ≠ 0) (hb : Below W.heap.size W w') : RetN W l p (.returned (.tuple #[.slice none 0 0, .int .i64 0, .int .i64 x])) w' := by
  have h1 : nextN l p = 0 := by unfold nextN; rw [if_neg (by omega)]
  have h2 : nextR l p = [] := by unfold nextR; rw [if_neg (by omega)]
  exact ⟨none, 0, 0, by rw [h1, h], by rw [h2]; rfl, by rw [h2]; exact Own.nil _ _ _, hb⟩
theorem RetN.ok {W w' : World} {l : List Int} {k m : Nat} {A : Option Addr} {c : Nat} (hY : Byt l) (hE : nextE l k = 0) (hm : num4 l k = m) (hl : k + 8 + m ≤ l.length) (hO : Own 5 w' W.heap.size (.slice A m c) (piece l (k + 8) m)) (hB : Below W.heap.size W w') :
    RetN W l k (.returned (.tuple #[.slice A m c, .int .i64 ((k : Int) + 8 + m), .int .i64 0])) w' := by
  obtain ⟨n, h1, h2, h3, h4, h5, h6⟩ := next_ok hY hE
  obtain rfl : n = m := by omega
  refine ⟨A, n, c, ?_, ?_, by rw [h4]; exact hO, hB⟩
  · rw [hE, h5]
    have : (((k + 8 + n : Nat) : Int)) = (k : Int) + 8 + n := by omega
    rw [this]
  · rw [h4, piece_length hl]
theorem num4_get {l : List Int} {k : Nat} : beV ((l.drop k).take 4) = num4 l k := rfl

theorem Rd.piece {w : World} {B b o n : Nat} {l : List Int} (h : Rd w B (some ⟨b, o, none⟩) n l) {p q : Nat} (hpq : p + q ≤ n) : Rd w B (some ⟨b, o + p, none⟩) q (piece l p q) := by
  have := h.cut (p := p) (q := p + q) (by omega) hpq
  rw [show p + q - p = q by omega] at this
  exact this
/-- What each operation of the region yields that tells the sum. -/
def nextP (l : List Int) (k m s r : Nat) (i : Nat) (v : Value) (w : World) : Prop :=
  match i with
  | 10 => ∃ g, v = .slice (some ⟨g, 0, none⟩) 2 2 ∧ RdS w w.heap.size (some ⟨g, 0, none⟩) 2 [piece l k 4, piece l (k + 8) m]
  | 11 => v = .int .u32 r
  | 12 => v = .int .u64 r
  | 14 => ∃ q, v = .bool q ∧ (q = true ↔ (r : Int) ≠ s)
  | _ => True
theorem nextP_on {l : List Int} {k m s r i : Nat} {v : Value} {w w' : World} (h : nextP l k m s r i v w) (hb : Below w.heap.size w w') : nextP l k m s r i v w' := by
  unfold nextP at h ⊢
  split
  · obtain ⟨g, e, hR⟩ := h
    exact ⟨g, e, hR.on hb hb.size⟩
  · exact h
  · exact h
  · exact h
  · trivial

set_option maxHeartbeats 1000000 in
theorem next3_any (A : Option Addr) (n c : Nat) (l : List Int) (p : Int) (w : World) (hR : Rd w w.heap.size A n l) (hY : Byt l) (hn : n ≤ 1099511627776) (hnc : n ≤ c) (hcm : c ≤ maxLen) (hp0 : -9223372036854775808 ≤ p) (hp1 : p ≤ 9223372036854775807) :
    Calls Try.prog 59 #[.slice A n c, .int .i64 p] w (RetN w l p) := by
  have hl := hR.len
  by_cases h1 : p < 0 ∨ (n : Int) < p
  · have HE := Lib.hid (show nextE l p = 1 by unfold nextE; rw [hl, if_pos h1])
    clear hR
    by_cases hneg : p < 0
    · go_enter Try.func59, Try.ntmps59
      go_wp2_with fail
      go_ret3
      exact RetN.err HE.out (by decide) (Below.refl _ _)
    · have hgt : (n : Int) < p := by omega
      go_enter Try.func59, Try.ntmps59
      go_wp2_with fail
      go_ret3
      exact RetN.err HE.out (by decide) (Below.refl _ _)
  obtain ⟨k, rfl⟩ := Int.eq_ofNat_of_zero_le (show 0 ≤ p by omega)
  have hk : k ≤ n := by omega
  clear h1
  by_cases h8 : n < k + 8
  · have HE := Lib.hid (show nextE l k = 2 by unfold nextE; rw [hl, if_neg (by omega), if_pos (by omega)])
    clear hR
    have h8' : (n : Int) - k < 8 := by omega
    go_enter Try.func59, Try.ntmps59
    go_wp2_with fail
    go_ret3
    exact RetN.err HE.out (by decide) (Below.refl _ _)
  have hk8 : k + 8 ≤ n := by omega
  have C1 := Lib.hid (rget_ok A n c l k 4 w _ hR hY (by omega) (by omega) (by omega) (by omega))
  have C2 := Lib.hid (rget_ok A n c l (k + 4) 4 w _ hR hY (by omega) (by omega) (by omega) (by omega))
  have hb := num4_bound hY k
  have hb2 := num4_bound hY (k + 4)
  have HE := Lib.hid (show nextE l k = if 1048576 < num4 l k then 3 else if (n : Int) - k - 8 < num4 l k then 2 else if ((ofC (piece l k 4 ++ piece l (k + 8) (num4 l k).toNat) : Nat) : Int) ≠ num4 l (k + 4) then 4 else 0 by
    unfold nextE; rw [hl, if_neg (by omega), if_neg (by omega), Int.toNat_natCast])
  simp only [num4_get] at C1 C2
  rw [show ((k + 4 : Nat) : Int) = (k : Int) + 4 by omega] at C2
  obtain ⟨m, hm⟩ := Int.eq_ofNat_of_zero_le hb.1
  obtain ⟨s, hs⟩ := Int.eq_ofNat_of_zero_le hb2.1
  rw [hm] at hb HE C1
  rw [hs] at hb2 HE C2
  rw [Int.toNat_natCast] at HE
  have HM := Lib.hid hm
  have HS := Lib.hid hs
  clear hm hs
  obtain ⟨b, o, rfl, hbB, hcell⟩ := hR.2 (by omega)
  have HR := Lib.hid hR
  clear hR hcell hbB
  go_enter Try.func59, Try.ntmps59
  go_wp2_with fail
  refine C1.out.mono ?_
  rintro e w1 ⟨rfl, rfl⟩
  by_cases h3 : 1048576 < m
  · have HE3 := HE.out
    rw [if_pos (by omega)] at HE3
    have HE4 := Lib.hid HE3
    clear HE HE3
    go_wp2_with fail
    go_ret3
    exact RetN.err HE4.out (by decide) (Below.refl _ _)
  have h3' : m ≤ 1048576 := by omega
  by_cases h4 : n < k + 8 + m
  · have HE3 := HE.out
    rw [if_neg (by omega), if_pos (by omega)] at HE3
    have HE4 := Lib.hid HE3
    clear HE HE3
    have h5 : (n : Int) - k - 8 < m := by omega
    go_wp2_with fail
    go_ret3
    exact RetN.err HE4.out (by decide) (Below.refl _ _)
  have h5 : (m : Int) ≤ (n : Int) - k - 8 := by omega
  have h6 : ¬ (n : Int) - k - 8 < m := by omega
  go_wp2_with fail
  refine C2.out.mono ?_
  rintro e w2 ⟨rfl, rfl⟩
  go_wp2_with fail
  have hS0 : Below w.heap.size w w.drew := (Below.refl _ _).drew
  have hw4 : IntKind.i64.wrap ((k : Int) + 4) = (k : Int) + 4 := IntWalk.i64_in _ ⟨by omega, by omega⟩
  have hw8 : IntKind.i64.wrap ((k : Int) + 8) = (k : Int) + 8 := IntWalk.i64_in _ ⟨by omega, by omega⟩
  have ht4 : ((k : Int) + 4).toNat = k + 4 := by omega
  have ht8 : ((k : Int) + 8).toNat = k + 8 := by omega
  have hte : ((k : Int) + 8 + m).toNat = k + 8 + m := by omega
  have hi4 : 0 ≤ (k : Int) + 4 ∧ (k : Int) + 4 ≤ c := by omega
  have hi8 : 0 ≤ (k : Int) + 8 + m ∧ (k : Int) + 8 + m ≤ c := by omega
  have hj8 : 0 ≤ (k : Int) + 8 ∧ (k : Int) + 8 ≤ (k : Int) + 8 + m := by omega
  have hck : ¬ c = k := by omega
  have HX := Lib.hid (show ∀ wq, Below w.heap.size w wq → Sl wq wq.heap.size (.slice (some ⟨b, o + k, none⟩) 4 (c - k)) (piece l k 4) from fun wq hS =>
    ⟨_, c - k, by rw [piece_length (by omega)], by rw [piece_length (by omega)]; omega, by omega, by rw [piece_length (by omega)]; exact (Rd.piece HR.out (by omega)).on hS hS.size⟩)
  obtain ⟨Z, hZ⟩ : ∃ Z, (if c = k + 8 then some (⟨b, o, none⟩ : Addr) else some ⟨b, o + (k + 8), none⟩) = Z := ⟨_, rfl⟩
  have HZ := Lib.hid (show ∀ wq, Below w.heap.size w wq → Sl wq wq.heap.size (.slice Z m (c - (k + 8))) (piece l (k + 8) m) from fun wq hS => by
    rw [← hZ]
    have hpl : (piece l (k + 8) m).length = m := piece_length (by omega)
    refine ⟨_, c - (k + 8), by rw [hpl], by rw [hpl]; omega, by omega, ?_⟩
    rw [hpl]
    by_cases he : c = k + 8
    · obtain rfl : m = 0 := by omega
      rw [List.eq_nil_of_length_eq_zero hpl]
      exact Rd.nil _ _ _
    · rw [if_neg he]
      exact (Rd.piece HR.out (by omega)).on hS hS.size)
  obtain ⟨r, hr⟩ : ∃ r, r = ofC (piece l k 4 ++ piece l (k + 8) m) := ⟨_, rfl⟩
  have hrb : r < 4294967296 := by rw [hr]; exact moreC_lt (by decide) ((piece_byt hY _ _).append (piece_byt hY _ _))
  have CO := Lib.hid (show ∀ (wq : World) (g : Nat), RdS wq wq.heap.size (some ⟨g, 0, none⟩) 2 [piece l k 4, piece l (k + 8) m] → Calls Try.prog 63 #[.slice (some ⟨g, 0, none⟩) 2 2] wq fun e w' => e = .returned (.int .u32 (r : Int)) ∧ wq = w' from fun wq g h => by
    have := ref2.of_any (some ⟨g, 0, none⟩) 2 2 _ wq _ h (allB_two (piece_byt hY _ _) (by rw [piece_length (by omega)]; omega) (piece_byt hY _ _) (by rw [piece_length (by omega)]; omega)) (by omega)
    rwa [flat_two, ← hr] at this)
  rw [← hr] at HE
  have HRr := Lib.hid hr
  clear hr
  have hru : IntKind.u64.wrap (r : Int) = r := IntWalk.u64_in _ ⟨by omega, by omega⟩
  have HE0 := Lib.hid (show r = s → nextE l k = 0 from fun h => by rw [HE.out, if_neg (by omega), if_neg (by omega), if_neg (by omega)])
  have HE1 := Lib.hid (show r ≠ s → nextE l k = 4 from fun h => by rw [HE.out, if_neg (by omega), if_neg (by omega), if_pos (by omega)])
  clear HE
  refine wp_region_held_drew (S := fun w' => Below w.heap.size w w') (by kernel_rfl) ?s_0 (fun hHeld => ?_)
  case s_0 => exact hS0
  refine wpAnyH_take (i := 0) (oi := { dst := some 53, op := Go.Op.move (Go.Operand.tmp 0), type := 35, pos := "ref.go:37", after := #[], guard := none }) (v := ?v_0_1) rfl (by kernel_rfl) (by kernel_rfl) (by kernel_rfl) (fun _ _ _ h => h) (Or.inl ⟨by rfl, ?y_0_1⟩) (by assumption) ?_
  case y_0_1 => (intro wq hSw; (try dsimp only at hSw); go_simp; first | done | with_reducible rfl)
  try simp only [Act.put, List.setIfInBounds_toArray, List.set_cons_zero, List.set_cons_succ]
  refine wpAnyH_take (i := 1) (oi := { dst := some 54, op := Go.Op.move (Go.Operand.tmp 1), type := 3, pos := "ref.go:37", after := #[], guard := none }) (v := ?v_1_1) rfl (by kernel_rfl) (by kernel_rfl) (by kernel_rfl) (fun _ _ _ h => h) (Or.inl ⟨by rfl, ?y_1_1⟩) (by assumption) ?_
  case y_1_1 => (intro wq hSw; (try dsimp only at hSw); go_simp; first | done | with_reducible rfl)
  try simp only [Act.put, List.setIfInBounds_toArray, List.set_cons_zero, List.set_cons_succ]
  refine wpAnyH_take (i := 2) (oi := { dst := some 55, op := Go.Op.move (Go.Operand.tmp 1), type := 3, pos := "ref.go:37", after := #[], guard := none }) (v := ?v_2_1) rfl (by kernel_rfl) (by kernel_rfl) (by kernel_rfl) (fun _ _ _ h => h) (Or.inl ⟨by rfl, ?y_2_1⟩) (by assumption) ?_
  case y_2_1 => (intro wq hSw; (try dsimp only at hSw); go_simp; first | done | with_reducible rfl)
  try simp only [Act.put, List.setIfInBounds_toArray, List.set_cons_zero, List.set_cons_succ]
  refine wpAnyH_take (i := 3) (oi := { dst := some 56, op := Go.Op.binOp Go.BinOp.add 3 (Go.Operand.tmp 55) (Go.Operand.const (Go.Value.int Go.IntKind.i64 4)) 3, type := 3, pos := "ref.go:37", after := #[{ on := 2, ground := Go.Ground.data }], guard := none }) (v := ?v_3_1) rfl (by kernel_rfl) (by kernel_rfl) (by kernel_rfl) (fun _ _ _ h => h) (Or.inl ⟨by rfl, ?y_3_1⟩) (by assumption) ?_
  case y_3_1 => (intro wq hSw; (try dsimp only at hSw); go_simp; first | done | with_reducible rfl)
  try simp only [Act.put, List.setIfInBounds_toArray, List.set_cons_zero, List.set_cons_succ]
  refine wpAnyH_take (i := 4) (oi := { dst := some 57, op := Go.Op.slice 35 (Go.Operand.tmp 53) (some (Go.Operand.tmp 54)) (some (Go.Operand.tmp 56)) none, type := 35, pos := "ref.go:37", after := #[{ on := 0, ground := Go.Ground.data }, { on := 1, ground := Go.Ground.data }, { on := 3, ground := Go.Ground.data }], guard := none }) (v := ?v_4_1) rfl (by kernel_rfl) (by kernel_rfl) (by kernel_rfl) (fun _ _ _ h => h) (Or.inl ⟨by rfl, ?y_4_1⟩) (by assumption) ?_
  case y_4_1 => (intro wq hSw; (try dsimp only at hSw); go_simp; first | done | with_reducible rfl)
  try simp only [Act.put, List.setIfInBounds_toArray, List.set_cons_zero, List.set_cons_succ]
  refine wpAnyH_take (i := 5) (oi := { dst := some 58, op := Go.Op.move (Go.Operand.tmp 0), type := 35, pos := "ref.go:37", after := #[], guard := none }) (v := ?v_5_1) rfl (by kernel_rfl) (by kernel_rfl) (by kernel_rfl) (fun _ _ _ h => h) (Or.inl ⟨by rfl, ?y_5_1⟩) (by assumption) ?_
  case y_5_1 => (intro wq hSw; (try dsimp only at hSw); go_simp; first | done | with_reducible rfl)
  try simp only [Act.put, List.setIfInBounds_toArray, List.set_cons_zero, List.set_cons_succ]
  refine wpAnyH_take (i := 6) (oi := { dst := some 59, op := Go.Op.move (Go.Operand.tmp 1), type := 3, pos := "ref.go:37", after := #[], guard := none }) (v := ?v_6_1) rfl (by kernel_rfl) (by kernel_rfl) (by kernel_rfl) (fun _ _ _ h => h) (Or.inl ⟨by rfl, ?y_6_1⟩) (by assumption) ?_
  case y_6_1 => (intro wq hSw; (try dsimp only at hSw); go_simp; first | done | with_reducible rfl)
  try simp only [Act.put, List.setIfInBounds_toArray, List.set_cons_zero, List.set_cons_succ]
  refine wpAnyH_take (i := 7) (oi := { dst := some 60, op := Go.Op.binOp Go.BinOp.add 3 (Go.Operand.tmp 59) (Go.Operand.const (Go.Value.int Go.IntKind.i64 8)) 3, type := 3, pos := "ref.go:37", after := #[{ on := 6, ground := Go.Ground.data }], guard := none }) (v := ?v_7_1) rfl (by kernel_rfl) (by kernel_rfl) (by kernel_rfl) (fun _ _ _ h => h) (Or.inl ⟨by rfl, ?y_7_1⟩) (by assumption) ?_
  case y_7_1 => (intro wq hSw; (try dsimp only at hSw); go_simp; first | done | with_reducible rfl)
  try simp only [Act.put, List.setIfInBounds_toArray, List.set_cons_zero, List.set_cons_succ]
  refine wpAnyH_take (i := 8) (oi := { dst := some 61, op := Go.Op.move (Go.Operand.tmp 9), type := 3, pos := "ref.go:37", after := #[], guard := none }) (v := ?v_8_1) rfl (by kernel_rfl) (by kernel_rfl) (by kernel_rfl) (fun _ _ _ h => h) (Or.inl ⟨by rfl, ?y_8_1⟩) (by assumption) ?_
  case y_8_1 => (intro wq hSw; (try dsimp only at hSw); go_simp; first | done | with_reducible rfl)
  try simp only [Act.put, List.setIfInBounds_toArray, List.set_cons_zero, List.set_cons_succ]
  refine wpAnyH_take (i := 9) (oi := { dst := some 62, op := Go.Op.slice 35 (Go.Operand.tmp 58) (some (Go.Operand.tmp 60)) (some (Go.Operand.tmp 61)) none, type := 35, pos := "ref.go:37", after := #[{ on := 5, ground := Go.Ground.data }, { on := 7, ground := Go.Ground.data }, { on := 8, ground := Go.Ground.data }], guard := none }) (v := ?v_9_1) rfl (by kernel_rfl) (by kernel_rfl) (by kernel_rfl) (fun _ _ _ h => h) (Or.inl ⟨by rfl, ?y_9_1⟩) (by assumption) ?_
  case y_9_1 => (intro wq hSw; (try dsimp only at hSw); go_simp; first | done | with_reducible rfl)
  try simp only [Act.put, List.setIfInBounds_toArray, List.set_cons_zero, List.set_cons_succ]
  refine wpAnyH_take (i := 13) (oi := { dst := some 66, op := Go.Op.move (Go.Operand.tmp 10), type := 58, pos := "ref.go:37", after := #[], guard := none }) (v := ?v_13_1) rfl (by kernel_rfl) (by kernel_rfl) (by kernel_rfl) (fun _ _ _ h => h) (Or.inl ⟨by rfl, ?y_13_1⟩) (by assumption) ?_
  case y_13_1 => (intro wq hSw; (try dsimp only at hSw); go_simp; first | done | with_reducible rfl)
  try simp only [Act.put, List.setIfInBounds_toArray, List.set_cons_zero, List.set_cons_succ]
  apply flow.wpAnyH_flowF [(10, some 63), (11, some 64), (12, some 65), (14, some 67)] (fun i => match i with | 10 => [] | 11 => [10] | 12 => [11] | 14 => [12] | _ => []) (nextP l k m s r)
  case hok => kernel_rfl
  case hf => (intro vs; simp only [flow.putEx, Act.put, List.setIfInBounds_toArray, List.set_cons_zero, List.set_cons_succ]; exact rfl)
  case hst => exact fun i v w w' h hb => nextP_on h hb
  case hS => exact hS0
  case hsteps =>
    simp only [List.map_cons, List.map_nil]
    refine flow.StepsF.cons (o := { dst := some 63, op := Go.Op.buildSlice 36 2 #[(0, Go.Operand.tmp 57), (1, Go.Operand.tmp 62)], type := 36, pos := "ref.go:37", after := #[{ on := 4, ground := Go.Ground.data }, { on := 9, ground := Go.Ground.data }], guard := none }) rfl (fun vs wq KQ hS hd hKQ => ?_) ?_
    · have HK := hKQ.out
      clear hKQ hd
      simp only [nextP, Act.put, List.setIfInBounds_toArray, List.set_cons_zero, List.set_cons_succ] at HK ⊢
      have HQ := Lib.hid HK
      clear HK
      go_simp
      exact HQ.out _ _ (hS.alloc hS.size _) ⟨_, rfl, by simpa using rds_two (HX.out wq hS) (HZ.out wq hS)⟩ ((Below.refl _ _).alloc (Nat.le_refl _) _)
    refine flow.StepsF.cons (o := { dst := some 64, op := Go.Op.call { callee := Go.Callee.value (Go.Operand.func 63), args := #[Go.Operand.tmp 63], argTypes := #[36] }, type := 111, pos := "ref.go:37", after := #[{ on := 10, ground := Go.Ground.data }], guard := none }) rfl (fun vs wq KQ hS hd hKQ => ?_) ?_
    · have HK := hKQ.out
      have d10 := hd 10 (by simp)
      simp only [nextP] at d10
      clear hKQ hd
      simp only [nextP, Act.put, List.setIfInBounds_toArray, List.set_cons_zero, List.set_cons_succ] at HK ⊢
      have HQ := Lib.hid HK
      clear HK
      obtain ⟨g1, e1, h1⟩ := d10
      simp only [e1] at HQ ⊢
      go_simp
      refine (CO.out wq g1 h1).mono ?_
      rintro e w2 ⟨rfl, rfl⟩
      go_simp
      exact HQ.out _ _ hS rfl (Below.refl _ _)
    refine flow.StepsF.cons (o := { dst := some 65, op := Go.Op.convert 111 58 (Go.Operand.tmp 64), type := 58, pos := "ref.go:37", after := #[{ on := 11, ground := Go.Ground.data }], guard := none }) rfl (fun vs wq KQ hS hd hKQ => ?_) ?_
    · have HK := hKQ.out
      have d11 := hd 11 (by simp)
      simp only [nextP] at d11
      clear hKQ hd
      simp only [nextP, Act.put, List.setIfInBounds_toArray, List.set_cons_zero, List.set_cons_succ, d11] at HK ⊢
      have HQ := Lib.hid HK
      clear HK
      go_simp
      exact HQ.out _ _ hS rfl (Below.refl _ _)
    refine flow.StepsF.cons (o := { dst := some 67, op := Go.Op.binOp Go.BinOp.neq 58 (Go.Operand.tmp 65) (Go.Operand.tmp 66) 58, type := 4, pos := "ref.go:37", after := #[{ on := 12, ground := Go.Ground.data }, { on := 13, ground := Go.Ground.data }], guard := none }) rfl (fun vs wq KQ hS hd hKQ => ?_) ?_
    · have HK := hKQ.out
      have d12 := hd 12 (by simp)
      simp only [nextP] at d12
      clear hKQ hd
      simp only [nextP, Act.put, List.setIfInBounds_toArray, List.set_cons_zero, List.set_cons_succ, d12] at HK ⊢
      have HQ := Lib.hid HK
      clear HK
      go_simp
      exact HQ.out _ _ hS ⟨_, rfl, by simp⟩ (Below.refl _ _)
    exact flow.StepsF.nil
  case hend =>
    intro vs wq hS hall
    obtain ⟨q, e14, hq⟩ := hall 14 (by simp)
    simp only [e14]
    clear hall CO HX
    cases q
    · have HE2 := Lib.hid (HE0.out (by have := mt hq.2; simp at this; omega))
      have hRz : Rd (wq.alloc (.cells #[] 5)) wq.heap.size Z m (piece l (k + 8) m) := (Sl.rd (HZ.out wq hS) (piece_length (by omega))).alloc (Nat.le_refl _) _
      clear hq HZ HE0 HE1
      go_wp2_with (at_builtin; with_reducible refine wpList_append_rd rfl (.tmp 68) (.tmp 73) 35 rfl wq.heap.size 5 Try.underlying35 info5 _ 0 0 [] rfl rfl (Own.empty _ _ (Nat.le_refl _)) _ Z m _ _ rfl hRz ?ha ?hbs ?_)
      case ha => omega
      case hbs => simp
      intro A4 c4 w4 hO4 hB4 _
      go_wp2_with fail
      go_ret3
      exact RetN.ok hY HE2.out HM.out (by omega) (hO4.more hS.size) (hS.trans (Below.mono (((Below.refl _ _).alloc (Nat.le_refl _) _).trans hB4) hS.size))
    · have HE4 := Lib.hid (HE1.out (by have := hq.1 rfl; omega))
      clear hq
      go_wp2_with fail
      go_ret3
      exact RetN.err HE4.out (by decide) hS
/-- What Scan ends in: the records, each new, and where they end. -/
def RetScan (W : World) (l : List Int) (e : Ending) (w' : World) : Prop :=
  ∃ A n c xs L, ∃ q : Nat, e = .returned (.tuple #[.slice A n c, .int .i64 q]) ∧ xs.length = n ∧ L.length = n ∧ Scanned l 0 L q ∧ OwnV 35 w' W.heap.size (.slice A n c) xs ∧ OwnsOf 5 w' W.heap.size xs L ∧ Below W.heap.size W w'

set_option maxHeartbeats 1000000 in
theorem scan3_any (A : Option Addr) (n c : Nat) (l : List Int) (w : World) (hR : Rd w w.heap.size A n l) (hY : Byt l) (hn : n ≤ 1099511627776) (hnc : n ≤ c) (hcm : c ≤ maxLen) :
    Calls Try.prog 30 #[.slice A n c] w (RetScan w l) := by
  have HN := Lib.hid hR.len
  have HR := Lib.hid hR
  clear hR
  go_enter Try.func30, Try.ntmps30
  go_wp2_with fail
  go_loopw [4, 5] (fun s i wr => ∃ (q j : Nat) (A' : Option Addr) (c' : Nat) (xs : List Value) (L : List (List Int)), q ≤ n ∧ j ≤ q ∧ i = .int .i64 q ∧ s = .slice A' j c' ∧ Hid (xs.length = j) ∧ Hid (L.length = j) ∧ Hid (Chain l 0 L q) ∧ OwnV 35 wr w.heap.size (.slice A' j c') xs ∧ OwnsOf 5 wr w.heap.size xs L ∧ Below w.heap.size w wr) (fun _ i _ => n - (intOf i).toNat)
  case atStart => exact ⟨0, 0, none, 0, [], [], by omega, by omega, rfl, rfl, rfl, rfl, rfl, OwnV.nil _ _ _, OwnsOf.nil _ _ _, Below.refl _ _⟩
  case round =>
    obtain ⟨q, j, A', c', xs, L, hq, hjq, rfl, rfl, HX, HL, HC, hO, hS, hB⟩ := hrel
    have C := Lib.hid (next3_any A n c l q wr (HR.out.on hB hB.size) hY hn hnc hcm (by omega) (by omega))
    go_wp2_with fail
    refine C.out.mono ?_
    clear C
    rintro e w1 ⟨A1, n1, c1, rfl, hn1, hO1, hB1⟩
    by_cases hE : nextE l q = 0
    · have hg := next_good hY hE
      have hX2 := HC.out.snoc hE rfl
      obtain ⟨q2, hq2⟩ := Int.eq_ofNat_of_zero_le (show 0 ≤ nextN l q by omega)
      have HG := Lib.hid hg
      rw [hq2] at hX2
      have hb1 : q + 8 ≤ q2 ∧ q2 ≤ n := by have := HN.out; rw [hq2] at hg; omega
      have HX2 := Lib.hid hX2
      have hO2 := (hO.below hB1).alloc (.cells #[.slice A1 n1 c1] 35)
      have hS2 := ((hS.below hB1).snoc hS HX.out HL.out hO1 hB.size).below (w' := w1.alloc (.cells #[.slice A1 n1 c1] 35)) ((Below.refl _ _).alloc (Nat.le_refl _) _)
      rw [hE, hq2]
      clear hX2 hg hS HR hO1
      go_wp2_with (at_builtin; with_reducible refine wpList_append_v rfl (.tmp 20) (.tmp 22) 36 rfl w.heap.size 35 (.slice none 0 0) 24 Try.underlying36 law0.infoB rfl A' j c' xs HX.out rfl hO2 _ _ 1 1 [_] rfl (RdV.one _ _ _) ?h1 ?h2 ?h3 ?h4 ?_)
      case h1 => intro u hu; rw [List.mem_singleton] at hu; subst hu; rfl
      case h2 => omega
      case h3 => unfold maxLen; omega
      case h4 => have := hB.size; have := hB1.size; simp; omega
      intro A3 c3 w3 hO3 hB3 hG3
      go_wp2_with fail
      go_roundw
      case rel => exact ⟨q2, j + 1, A3, c3, xs ++ [.slice A1 n1 c1], L ++ [nextR l q], hb1.2, by omega, rfl, rfl, by show _ = _; rw [List.length_append, HX.out]; rfl, by show _ = _; rw [List.length_append, HL.out]; rfl, HX2.out, hO3, hS2.grown (by decide) hO2 hG3, (hB.trans (hB1.mono hB.size)).trans (Below.trans ((Below.refl _ _).alloc (Nat.le_trans hB.size hB1.size) _) hB3)⟩
      case measure => simp [intOf]; omega
    · obtain ⟨x, hx⟩ : ∃ x, nextE l q = x := ⟨_, rfl⟩
      have HE := Lib.hid hE
      have hne : (x != 0) = true := by rw [← hx]; simpa using hE
      have hne2 : ¬ x = 0 := by rw [← hx]; exact hE
      rw [hx]
      clear hx hE
      go_wp2_with fail
      go_ret2
      exact ⟨A', j, c', xs, L, q, rfl, HX.out, HL.out, ⟨HC.out, HE.out⟩, hO.below hB1, hS.below hB1, hB.trans (hB1.mono hB.size)⟩
end Go.Proofs.Ytafdgibkhefplaa.ref3
