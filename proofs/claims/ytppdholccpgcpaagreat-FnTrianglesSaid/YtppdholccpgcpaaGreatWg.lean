/-
  Words for the cells of a sign and two rows.
-/
import Derived.Test.YtppdholccpgcpaaGreatPkA
namespace Go.Proofs.YtppdholccpgcpaaGreat
@[reducible, go_sem] def g3 (s : Bool) (A : Option Addr) (n c : Nat) (D : Option Addr) (k d : Nat) : Array Value := #[.bool s, .slice A n c, .slice D k d]
@[reducible, go_sem] def z3 : Array Value := #[.bool false, .slice none 0 0, .slice none 0 0]
@[reducible, go_sem] def z6 : Array Value := #[.bool false, .slice none 0 0, .slice none 0 0, .bool false, .slice none 0 0, .slice none 0 0]
end Go.Proofs.YtppdholccpgcpaaGreat
