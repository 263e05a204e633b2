/- CoreAlone's walk in the frame's words. No condition. -/
import Derived.OpenShut
import Derived.Test.YtegnfkbmlalkeaaGreatSbStl13
import Derived.Test.YtegnfkbmlalkeaaGreatSbAln13
namespace Go.Proofs.YtegnfkbmlalkeaaGreat.law13
open Go Go.RowKit Go.Proofs.YtegnfkbmlalkeaaGreat.kit Go.Proofs.YtegnfkbmlalkeaaGreat.nums Go.Proofs.YtegnfkbmlalkeaaGreat.cf Go.Proofs.YtegnfkbmlalkeaaGreat.lg Go.Proofs.YtegnfkbmlalkeaaGreat.cr
set_option linter.unusedVariables false
theorem stale_row (c : CoL) (A : Option Addr) (n p : Nat) (m : MsL) (Am : Option Addr) (nm pm : Nat) (W : World) (hR : RdE W W.heap.size A n c.lg.es) (hC : n ≤ p) (hM : p ≤ maxLen) (hJ : c.lg.j.ok) (hE : ∀ x ∈ c.lg.es, x.j.ok) (hU : c.vs < 65536) (hG : c.he < 65536) (hRm : RdE W W.heap.size Am nm m.es) (hCm : nm ≤ pm) (hMm : pm ≤ maxLen) (hJm : m.j.ok) (hEm : ∀ x ∈ m.es, x.j.ok) : Calls Tryz.prog 8 #[crV c (.slice A n p), msV m (.slice Am nm pm)] W fun e w' => e = .returned (.bool true) ∧ Below W.heap.size W w' :=
 stale_walk c A n p m Am nm pm W hR hC hJ hE ⟨hU, hG⟩ hRm hCm hJm hEm
end Go.Proofs.YtegnfkbmlalkeaaGreat.law13
namespace Go.Proofs.YtegnfkbmlalkeaaGreat.law13
open Go Go.RowKit Go.Proofs.YtegnfkbmlalkeaaGreat.kit Go.Proofs.YtegnfkbmlalkeaaGreat.nums Go.Proofs.YtegnfkbmlalkeaaGreat.cf Go.Proofs.YtegnfkbmlalkeaaGreat.lg Go.Proofs.YtegnfkbmlalkeaaGreat.cr
set_option linter.unusedVariables false
theorem in64_of {n : Int} (h : (Lit.int .i64 n).wf = true) : In64 n := by
 unfold In64; simpa [Lit.wf, IntKind.min, IntKind.max, IntKind.signed, IntKind.bits] using h
theorem alone_row (id : Int) (A : Option Addr) (n p : Nat) (ds : List ByteArray) (more : Int) (W : World) (w1 : (Lit.int .i64 id).wf = true) (hR : RdV W W.heap.size A n (ds.map Value.string)) (hC : n ≤ p) (hM : p ≤ maxLen) (w2 : (Lit.int .u16 more).wf = true) : Calls Tryz.prog 9 #[.int .i64 id, .slice A n p, .int .u16 more] W fun e w' => e = .returned (.bool true) ∧ Below W.heap.size W w' := by
 have hb : 0 ≤ more ∧ more ≤ 65535 := by simpa [Lit.wf, IntKind.min, IntKind.max, IntKind.signed, IntKind.bits] using w2
 obtain ⟨k, rfl⟩ : ∃ k : Nat, more = (k : Int) := ⟨more.toNat, by omega⟩
 exact alone_walk id A n p ds k W (in64_of w1) hR (by omega)
end Go.Proofs.YtegnfkbmlalkeaaGreat.law13
