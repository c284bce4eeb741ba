/-
  What the harness' functions do over points.
-/
import Derived.Test.YtdgfbnnohnaoaaaGreatR3
namespace Go.Proofs.YtdgfbnnohnaoaaaGreat
open Go.ChangeShapes Go.WideShapes Go.ChangeAt Go.RowKit
open Go.ChangeMaps (open_string shut_string)
set_option linter.unusedVariables false
set_option linter.unusedSimpArgs false
set_option maxRecDepth 4000

theorem Aparts.l {rs ss : List (Option Addr × List Value)} (h : Aparts (rs ++ ss)) : Aparts rs := (List.pairwise_append.1 h).1
end Go.Proofs.YtdgfbnnohnaoaaaGreat

