/- What the document's Put, Var and Text write behind any slice of bytes. Condition: the slices are at most 2^40 long. -/
import Derived.Test.YtodpaeaeigjmdaaDoorProg
import Derived.Test.YtodpaeaeigjmdaaDoorRoom
import Derived.Test.YtodpaeaeigjmdaaDoorVar
import Derived.Outline
namespace Go.Proofs.YtodpaeaeigjmdaaDoor.bytes
open Go.RowKit Go.Proofs.YtodpaeaeigjmdaaDoor.kit Go.Proofs.YtodpaeaeigjmdaaDoor.nums
set_option linter.unusedVariables false

set_option maxHeartbeats 400000 in
theorem rvar_any (A : Option Addr) (n c : Nat) (l : List Int) (u : Int) (w : World) (hR : Rd w w.heap.size A n l) (hb : n ≤ 1099511627776) (h0 : 0 ≤ u) (h1 : u ≤ 18446744073709551615) :
    Calls Tryd.prog 34 #[.slice A n c, .int .u64 u] w (RetL 5 w (n + (varB u).length) (l ++ varB u)) := by
  have hn := hR.len
  have HN := Lib.hid hn
  have hR2 := hR.alloc (Nat.le_refl _) (.cells #[] 5)
  clear hR hn
  go_enter Tryd.func34, Tryd.ntmps34
  go_wp2_with (at_builtin; with_reducible refine wpList_append_rd rfl (.tmp 6) (.tmp 7) 22 rfl w.heap.size 5 Tryd.underlying22 info5 _ 0 0 [] rfl rfl (Own.empty _ _ (Nat.le_refl _)) _ _ n _ _ rfl hR2 ?ha ?hbs ?_)
  case ha => omega
  case hbs => simp
  intro A1 c1 w1 hO1 hB1 _
  have hB1' := ((Below.refl _ _).alloc (Nat.le_refl _) _).trans hB1
  clear hB1
  go_wp2_with fail
  go_loopw [1, 5] (fun i s wr => ∃ (k : Nat) (x : Int) (m : Nat) (l' : List Int) (A' : Option Addr) (c' : Nat), i = .int .u64 x ∧ s = .slice A' m c' ∧ 0 ≤ x ∧ x < room k ∧ k ≤ 9 ∧ m + k = n + 9 ∧ l'.length = m ∧ Own 5 wr w.heap.size (.slice A' m c') l' ∧ Below w.heap.size w wr ∧ Hid (l ++ varB u = l' ++ varN k x)) (fun i _ _ => (intOf i).toNat)
  case atStart => exact ⟨9, u, n, l, A1, c1, rfl, by first | rfl | simp, h0, by rw [room_nine]; omega, by omega, rfl, HN.out, by simpa using hO1, hB1', rfl⟩
  case round =>
    obtain ⟨k, x, m, l', A', c', rfl, rfl, x0, x1, hk, hm, hl, hO', hB', HE⟩ := hrel
    have hsz := hB'.size
    have HL := Lib.hid hl
    have x2 : x ≤ 18446744073709551615 := by
      have h3 : room k ≤ room 9 := by
        have : ∀ j : Fin 10, room j.1 ≤ room 9 := by decide
        exact this ⟨k, by omega⟩
      rw [room_nine] at h3
      omega
    by_cases hx : x < 128
    · have he : varN k x = [x] := varN_last x0 hx
      have HE2 : Hid (l ++ varB u = l' ++ [x]) := by have := HE.out; rw [he] at this; exact this
      have HK := Lib.hid hm
      clear he HE hl hm x1
      go_wp2_with (at_builtin; with_reducible refine wpList_append_rd rfl (.tmp 20) (.tmp 23) 22 rfl w.heap.size 5 Tryd.underlying22 info5 A' m c' l' HL.out rfl (hO'.alloc _) _ _ 1 1 [_] rfl (Rd.one _ _ _) ?hb2 ?hbase ?_)
      case hb2 => have := HK.out; omega
      case hbase => first | (simp; omega) | omega
      intro A2 c2 w2 hO2 hB2 _
      go_wp2_with fail
      go_ret
      rw [← HE2.out] at hO2
      have hlen : n + (varB u).length = m + 1 := by
        have := congrArg List.length HE2.out
        simp only [List.length_append, List.length_singleton, HL.out, HN.out] at this
        exact this
      rw [hlen]
      refine ⟨A2, c2, rfl, by rw [HE2.out, List.length_append, HL.out]; rfl, hO2, (hB'.alloc (by omega) _).trans hB2⟩
    · obtain ⟨k', rfl⟩ : ∃ k', k = k' + 1 := by
        cases k with
        | zero => rw [room_zero] at x1; omega
        | succ k' => exact ⟨k', rfl⟩
      have HX := Lib.hid (room_div x1)
      have HE2 : Hid (l ++ varB u = l' ++ ((x % 128 + 128) :: varN k' (x / 128))) := by have := HE.out; rw [varN_ge hx] at this; exact this
      have HK := Lib.hid hm
      clear HE hl hm x1
      go_wp2_with (at_builtin; with_reducible refine wpList_append_rd rfl (.tmp 11) (.tmp 16) 22 rfl w.heap.size 5 Tryd.underlying22 info5 A' m c' l' HL.out rfl (hO'.alloc _) _ _ 1 1 [_] rfl (Rd.one _ _ _) ?hb2 ?hbase ?_)
      case hb2 => have := HK.out; omega
      case hbase => first | (simp; omega) | omega
      intro A2 c2 w2 hO2 hB2 _
      go_wp2_with fail
      go_roundw
      case rel => exact ⟨k', x / 128, m + 1, l' ++ [x % 128 + 128], A2, c2, rfl, rfl, by omega, HX.out, by omega, by have := HK.out; omega, by rw [List.length_append, HL.out]; rfl, hO2, (hB'.alloc (by omega) _).trans hB2, by rw [List.append_assoc]; exact HE2⟩
      case measure => simp [intOf]; omega

theorem rtext_any (A : Option Addr) (n c : Nat) (l : List Int) (S : Option Addr) (m cs : Nat) (s : List Int) (w : World) (hR : Rd w w.heap.size A n l) (hS : Rd w w.heap.size S m s) (hb : n ≤ 1099511627776) (hm : m ≤ 1099511627776) :
    Calls Tryd.prog 36 #[.slice A n c, .slice S m cs] w (RetL 5 w (n + (varB m).length + m) (l ++ (varB m ++ s))) := by
  have hv := (varB_length m).2
  go_enter Tryd.func36, Tryd.ntmps36
  go_wp2_with fail
  refine (rvar_any A n c l m w hR hb (by omega) (by omega)).mono ?_
  rintro e w2 ⟨A2, c2, rfl, hl2, hO2, hB2⟩
  have hsz := hB2.size
  have hS2 := hS.on hB2 (Nat.le_refl _)
  have HL := Lib.hid hl2
  clear hl2
  go_wp2_with (at_builtin; with_reducible refine wpList_append_rd rfl (.tmp 9) (.tmp 10) 22 rfl w.heap.size 5 Tryd.underlying22 info5 A2 (n + (varB m).length) c2 _ HL.out rfl hO2 _ S m cs s rfl hS2 ?hb2 hsz ?_)
  case hb2 => omega
  intro A3 c3 w3 hO3 hB3 _
  go_wp2_with fail
  go_ret
  exact ⟨A3, c3, rfl, by rw [← List.append_assoc, List.length_append, HL.out, hS.len], by first | exact hO3 | (rw [← List.append_assoc]; exact hO3), hB2.trans hB3⟩

theorem rput_few (s : Value) (v k : Int) (w : World) (h : k < 1 ∨ 8 < k) :
    Calls Tryd.prog 62 #[s, .int .u64 v, .int .i64 k] w fun e w' => e = .returned (.tuple #[.slice none 0 0, .int .i64 1]) ∧ w = w' := by
  by_cases hk : k < 1
  · go_enter Tryd.func62, Tryd.ntmps62
    go_wp2_with fail
    go_ret2
    exact ⟨rfl, rfl⟩
  · have hk2 : 8 < k := by omega
    go_enter Tryd.func62, Tryd.ntmps62
    go_wp2_with fail
    go_ret2
    exact ⟨rfl, rfl⟩

/-- What Put ends in: the bytes and 0, or nothing and ErrRange. -/
def RetP (W : World) (n : Nat) (l : List Int) (v : Int) (k : Nat) (e : Ending) (w' : World) : Prop :=
  (v / 2 ^ (8 * k) = 0 ∧ RetS 5 W (n + k) (l ++ beB v k) e w') ∨ (v / 2 ^ (8 * k) ≠ 0 ∧ e = .returned (.tuple #[.slice none 0 0, .int .i64 5]) ∧ Below W.heap.size W w')

set_option maxHeartbeats 400000 in
theorem rput_any (A : Option Addr) (n c : Nat) (l : List Int) (v : Int) (k : Nat) (w : World) (hR : Rd w w.heap.size A n l) (hb : n ≤ 1099511627776) (h0 : 0 ≤ v) (h1 : v ≤ 18446744073709551615) (hk0 : 1 ≤ k) (hk1 : k ≤ 8) :
    Calls Tryd.prog 62 #[.slice A n c, .int .u64 v, .int .i64 k] w (RetP w n l v k) := by
  have hn := hR.len
  have HN := Lib.hid hn
  clear hn
  go_enter Tryd.func62, Tryd.ntmps62
  go_wp2_with (at_make; refine wpList_make_bytes _ rfl _ _ 22 rfl 5 Tryd.underlying22 info5 .i64 .i64 _ _ k k rfl rfl rfl rfl ?c1 ?c2 ?_)
  case c1 => omega
  case c2 => omega
  intro w1 HG HB HS
  go_wp2_with fail
  go_loopw [1, 9] (fun u i wr => ∃ (m j : Nat), m + j = k ∧ i = .int .i64 ((m : Int) - 1) ∧ u = .int .u64 (v / 2 ^ (8 * j)) ∧ Blk 5 wr w.heap.size (zeros m ++ u8s ((beB v k).drop m)) ∧ Below w.heap.size w wr) (fun _ i _ => (intOf i + 1).toNat)
  case atStart => exact ⟨k, 0, rfl, rfl, by simp, by rw [List.drop_of_length_le (by rw [beB_length]; exact Nat.le_refl _)]; simpa [u8s] using HG, HB⟩
  case round =>
    obtain ⟨m, j, hmj, rfl, rfl, HG', hB'⟩ := hrel
    have hsz := hB'.size
    have hlt := HG'.lt
    have hv0 : 0 ≤ v / 2 ^ (8 * j) := Int.ediv_nonneg h0 (Int.le_of_lt (Int.pow_pos (by decide)))
    have hv1 : v / 2 ^ (8 * j) ≤ 18446744073709551615 := Int.le_trans (Int.ediv_le_self _ h0) h1
    rcases m with _ | m
    · obtain rfl : j = k := by omega
      have HG2 : Blk 5 wr w.heap.size (u8s (beB v j)) := by simpa [zeros] using HG'
      have hR2 := (hR.on hB' hsz).alloc (Nat.le_refl _) (.cells #[] 5)
      clear HG' hR HG
      by_cases hu : 0 < v / 2 ^ (8 * j)
      · have HU := Lib.hid (show v / 2 ^ (8 * j) ≠ 0 by omega)
        generalize v / 2 ^ (8 * j) = u at hv0 hv1 hu ⊢
        go_wp2_with fail
        go_ret2
        exact .inr ⟨HU.out, rfl, hB'⟩
      · have HU := Lib.hid (show v / 2 ^ (8 * j) = 0 by omega)
        generalize v / 2 ^ (8 * j) = u at hv0 hv1 hu ⊢
        go_wp2_with (at_builtin; with_reducible refine wpList_append_rd rfl (.tmp 34) (.tmp 35) 22 rfl wr.heap.size 5 Tryd.underlying22 info5 _ 0 0 [] rfl rfl (Own.empty _ _ (Nat.le_refl _)) _ _ n _ _ rfl hR2 ?ha ?hbs ?_)
        case ha => omega
        intro A1 c1 w2 hO1 hB1 _
        have hB2 : Below wr.heap.size wr w2 := ((Below.refl _ _).alloc (Nat.le_refl _) _).trans hB1
        have hR3 := (HG2.below hB2 hlt).rd (n := j) (List.take_of_length_le (by rw [u8s_length, beB_length]; exact Nat.le_refl _)) (beB_length v j) (show w.heap.size < w2.heap.size by have := hB2.size; omega)
        have HN2 := HN.out
        go_wp2_with (at_builtin; with_reducible refine wpList_append_rd rfl (.tmp 36) (.tmp 37) 22 rfl wr.heap.size 5 Tryd.underlying22 info5 A1 n c1 l HN.out rfl hO1 _ _ j _ _ rfl hR3 ?hc hB2.size ?_)
        case hc => omega
        intro A3 c3 w3 hO3 hB3 _
        go_wp2_with fail
        go_ret2
        exact .inl ⟨HU.out, A3, c3, rfl, by rw [List.length_append, HN.out, beB_length], hO3.more hsz, hB'.trans ((hB2.trans hB3).mono hsz)⟩
    · have hcell : wr.cell? ⟨w.heap.size, m, none⟩ = some (.int .u8 0) := by rw [HG'.cell m, zeros_get]
      have hfr := HG'.frozen m
      have HD := Lib.hid (div_step v j)
      have HE := Lib.hid (beB_drop v k m j (by omega))
      have HS' := Lib.hid (HG'.set_ m (.int .u8 (v / 2 ^ (8 * j) % 256)))
      rw [show (((m + 1 : Nat) : Int) - 1) = (m : Int) by omega]
      have HK := Lib.hid hmj
      have hmk : m < k := by omega
      clear hmj
      generalize hu : v / 2 ^ (8 * j) = u at *
      clear hu
      go_wp2_with fail
      go_roundw
      case rel => exact ⟨m, j + 1, by have := HK.out; omega, rfl, by rw [← HD.out], by have := HS'.out; rw [zeros_set] at this; rw [HE.out]; exact this, hB'.setCell (by simp) _⟩
      case measure => simp [intOf]
end Go.Proofs.YtodpaeaeigjmdaaDoor.bytes
