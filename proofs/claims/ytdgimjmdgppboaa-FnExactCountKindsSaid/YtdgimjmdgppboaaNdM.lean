/- Lists of nodes as cells: three a node. -/
import Derived.Test.YtdgimjmdgppboaaMem
import Derived.Test.YtdgimjmdgppboaaTrM
namespace Go.Proofs.Ytdgimjmdgppboaa
set_option maxRecDepth 100000
open Go Go.RowKit Go.Deep

def nd0 : Nd := ⟨0, 0, ByteArray.empty⟩
/-- The cells of a list of nodes. -/
def ncells : List Nd → List Value
  | [] => []
  | n :: ns => .int .i64 n.k :: .int .i64 n.v :: .string n.s :: ncells ns
theorem ncells_len : ∀ ns : List Nd, (ncells ns).length = ns.length * 3
  | [] => rfl
  | n :: ns => by
    simp only [ncells, List.length_cons, ncells_len ns]
    omega
theorem ncells_at : ∀ {ns : List Nd} {i : Nat}, i < ns.length → (ncells ns)[i * 3]? = some (.int .i64 (ns.getD i nd0).k) ∧ (ncells ns)[i * 3 + 1]? = some (.int .i64 (ns.getD i nd0).v) ∧ (ncells ns)[i * 3 + 2]? = some (.string (ns.getD i nd0).s)
  | n :: ns, 0, _ => ⟨rfl, rfl, rfl⟩
  | n :: ns, i + 1, h => by
    have ih := ncells_at (ns := ns) (i := i) (by simp at h; omega)
    simp only [ncells]
    rw [show (i + 1) * 3 = i * 3 + 1 + 1 + 1 by omega]
    simp only [List.getElem?_cons_succ, List.getD_cons_succ]
    exact ih
theorem ncells_app : ∀ a b : List Nd, ncells (a ++ b) = ncells a ++ ncells b
  | [], _ => rfl
  | n :: a, b => by
    simp only [List.cons_append, ncells, ncells_app a b]
theorem ncells_set : ∀ {ns : List Nd} {i : Nat} {x : Nd}, i < ns.length → (((ncells ns).set (i * 3) (.int .i64 x.k)).set (i * 3 + 1) (.int .i64 x.v)).set (i * 3 + 2) (.string x.s) = ncells (ns.set i x)
  | n :: ns, 0, x, _ => rfl
  | n :: ns, i + 1, x, h => by
    have ih := ncells_set (ns := ns) (i := i) (x := x) (by simp at h; omega)
    simp only [ncells, List.set_cons_succ]
    rw [show (i + 1) * 3 = i * 3 + 1 + 1 + 1 by omega]
    simp only [List.set_cons_succ]
    rw [ih]
theorem ncells_repl (n : Nat) : ncells (List.replicate n nd0) = (List.replicate n [Value.int .i64 0, .int .i64 0, .string ByteArray.empty]).flatten := by
  induction n with
  | zero => rfl
  | succ n ih =>
    rw [List.replicate_succ, List.replicate_succ, List.flatten_cons, ncells, ih]
    rfl
/-- How many values and letters. -/
def szNs (ns : List Nd) : Nat := ns.length + (ns.map fun n => n.s.size).sum
end Go.Proofs.Ytdgimjmdgppboaa
