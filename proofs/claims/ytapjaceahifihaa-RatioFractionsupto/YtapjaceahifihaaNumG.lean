/-
  Greatest common divisors: what Lehmer's steps keep. Plain mathematics: no program.
-/
import Derived.Test.YtapjaceahifihaaNumM
namespace Go.Proofs.Ytapjaceahifihaa

end Go.Proofs.Ytapjaceahifihaa
