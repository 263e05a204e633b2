/- Two facts on the library's own variables (internal/bytealg.MaxLen holds a number, internal/strconv.uint64pow10 its table), that they last, and what FormatInt and ReplaceAll come to where they hold. -/
import Derived.Test.YtodpaeaeigjmdaaDoorShelf
import Derived.Test.YtodpaeaeigjmdaaDoorRef7
import Derived.Test.YtodpaeaeigjmdaaDoorDig
import Derived.Lib.AppendIntMem
namespace Go.Proofs.YtodpaeaeigjmdaaDoor.libw
open Go Go.RowKit Go.Proofs.YtodpaeaeigjmdaaDoor.kit Go.Proofs.YtodpaeaeigjmdaaDoor.nums Go.Proofs.YtodpaeaeigjmdaaDoor.st Go.Proofs.YtodpaeaeigjmdaaDoor.va Go.Proofs.YtodpaeaeigjmdaaDoor.dig
set_option linter.unusedVariables false

def LibW (w : World) : Prop := (∃ m : Int, w.cell? ⟨1, 0, none⟩ = some (.int .i64 m)) ∧ Lib.TabIs Tryd.prog w "internal/strconv.uint64pow10" .u64 Lib.pow10Tab
theorem LibW.on {w w' : World} (h : LibW w) (hb : Below w.heap.size w w') : LibW w' := by
  obtain ⟨⟨m, hm⟩, ht⟩ := h
  exact ⟨⟨m, (hb.cell (p := ⟨1, 0, none⟩) (World.block_lt_of_cell? w (a := ⟨1, 0, none⟩) hm)).trans hm⟩, Lib.tabBelow_of_tabIs ht w' hb⟩
theorem below_regrow (w : World) (q : Nat) (os : Array Obj) : Below w.heap.size w (Sort.grow (w.drewN q) os) :=
  ⟨rfl, rfl, rfl, by simp [Sort.grow], fun i hi => by
    show ((w.drewN q).heap ++ os)[i]? = _
    exact Array.getElem?_append_left (show i < (w.drewN q).heap.size from hi)⟩
theorem strOf (l : List Int) : (⟨(u8 l).toArray⟩ : ByteArray) = strOfNums l := rfl
theorem fmt_any (n : Int) (hn : I64 n) (w : World) (hw : LibW w) :
    Calls Tryd.prog 37 #[.int .i64 n, .int .i64 10] w fun e w' => e = .returned (.string (strOfNums (digF n))) ∧ Below w.heap.size w w' := by
  refine (Tryd.strconv_FormatInt_10 n hn.1 hn.2 w hw.2).mono ?_
  rintro e w' ⟨rfl, k, os, rfl⟩
  refine ⟨?_, below_regrow _ _ _⟩
  rw [← u8_digF n hn.1 hn.2, strOf]
theorem repl_any (s : List Int) (hY : Byt s) (hs : s.length ≤ 64) (w : World) (hw : LibW w) :
    Calls Tryd.prog 38 #[.string (strOfNums s), .string ⟨#[39]⟩, .string ⟨#[39, 39]⟩] w fun e w' => e = .returned (.string (strOfNums (quo s))) ∧ Below w.heap.size w w' := by
  obtain ⟨⟨m, hm⟩, _⟩ := hw
  have hz := strOfNums_size s
  have hc := Lib.countB_le ⟨#[39]⟩ (by decide) (strOfNums s).size (strOfNums s) (Nat.le_refl _)
  refine (Tryd.strings_ReplaceAll (strOfNums s) ⟨#[39]⟩ ⟨#[39, 39]⟩ m w (by omega) hm (by decide) ?_).mono ?_
  · show (strOfNums s).size + Lib.countB (strOfNums s) ⟨#[39]⟩ * 2 ≤ _
    omega
  · rintro e w' ⟨rfl, hB⟩
    refine ⟨?_, hB⟩
    have e1 : (strOfNums s).data.toList = u8 s := by simp [strOfNums, u8]
    rw [e1]
    show Ending.returned (.string ⟨(Lib.replaceAll (u8 s) [39] [39, 39]).toArray⟩) = _
    rw [replace_quo, ← u8_quo s hY, strOf]
end Go.Proofs.YtodpaeaeigjmdaaDoor.libw
