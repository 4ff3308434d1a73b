/-
  Greatest common divisors: what Lehmer's steps keep. Plain mathematics: no program.
-/
import Derived.Test.YtabchggnalbbcaaNumM
namespace Go.Proofs.Ytabchggnalbbcaa

end Go.Proofs.Ytabchggnalbbcaa
