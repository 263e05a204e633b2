/- What the program's own log comes to, over its disk: Open, Append, Sync, Rewrite, Count, Bytes. Conditions: those that each theorem names. -/
import Derived.Test.YtafdgibkhefplaaWlO
namespace Go.Proofs.Ytafdgibkhefplaa.wal
open Go.RowKit Go.Proofs.Ytafdgibkhefplaa.kit Go.Proofs.Ytafdgibkhefplaa.nums Go.Proofs.Ytafdgibkhefplaa.ds Go.Proofs.Ytafdgibkhefplaa.disk Go.Proofs.Ytafdgibkhefplaa.ws
set_option linter.unusedVariables false

section
variable (p a : Nat) (X : WS) (D : DS) (fw fd : Nat → Prop) (w : World) (h : Log w p a X D fw fd) (hD : D.Good) (hs : D.stepped ≤ 999000) (hp : D.powers ≤ 1000000) (hF : Fit X D) (hf : X.file ≠ -1)
include h hD hs hp hF hf
theorem append_any (A : Option Addr) (n c : Nat) (l : List Int) (hR : Safe w (Or2 fw fd) (fun W => Rd W W.heap.size A n l)) (hY : Byt l) (hn : n ≤ 1099511627776) (hnc : n ≤ c) (hcm : c ≤ maxLen) :
    Calls Try.prog 20 #[.pointer (some ⟨p, 0, none⟩), .slice A n c] w (RetW w p a fw fd (appendO X D l)) := by
  obtain ⟨⟨hb, rfl⟩, hd, ha⟩ := h
  exact append_in p a X D fd w hb hd (ha p rfl) hD hs hp hF hf A n c l (hR w (Nat.le_refl _) (fun _ _ _ => rfl)) hY hn hnc hcm
theorem sync_any : Calls Try.prog 21 #[.pointer (some ⟨p, 0, none⟩)] w (RetW w p a fw fd (syncO X D)) := by
  obtain ⟨⟨hb, rfl⟩, hd, ha⟩ := h
  exact sync_in p a X D fd w hb hd (ha p rfl) hD hs hp hF hf
theorem rewrite_any (A : Option Addr) (n c : Nat) (L : List (List Int)) (hR : Safe w (Or2 fw fd) (fun W => RdS W W.heap.size A n L)) (hY : ∀ r ∈ L, Byt r) (hnc : n ≤ c) (hcm : c ≤ maxLen) (hsum : 9 * n + L.flatten.length ≤ 1000000000) :
    Calls Try.prog 22 #[.pointer (some ⟨p, 0, none⟩), .slice A n c] w (RetW w p a fw fd (rewriteO X D L)) := by
  obtain ⟨⟨hb, rfl⟩, hd, ha⟩ := h
  have _hf := hf
  exact rewrite_in p a X D fd w hb hd (ha p rfl) hD hs hp hF A n c L (hR w (Nat.le_refl _) (fun _ _ _ => rfl)) hY hsum
theorem count_any : Calls Try.prog 27 #[.pointer (some ⟨p, 0, none⟩)] w fun e w' => e = .returned (.int .i64 (if X.over D = true then 0 else X.recs.length)) ∧ ∃ n, w' = w.drewN n := by
  obtain ⟨⟨hb, rfl⟩, hd, ha⟩ := h
  have _hf := hf
  exact count_in p a X D fd w hb hd hD hs hp hF.life
theorem bytes_any : Calls Try.prog 28 #[.pointer (some ⟨p, 0, none⟩)] w fun e w' => e = .returned (.int .i64 (if X.over D = true then 0 else X.size)) ∧ ∃ n, w' = w.drewN n := by
  obtain ⟨⟨hb, rfl⟩, hd, ha⟩ := h
  have _hf := hf
  exact bytes_in p a X D fd w hb hd hD hs hp hF.life
end
end Go.Proofs.Ytafdgibkhefplaa.wal
