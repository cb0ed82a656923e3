/- A state that was begun is its own. -/
import Derived.Test.YtdbnfdcjibgikaaA7j
import Derived.Test.YtdbnfdcjibgikaaA7m
set_option linter.unusedVariables false
set_option linter.unusedSimpArgs false
set_option maxRecDepth 100000
namespace Go.Proofs.Ytdbnfdcjibgikaa.Px
open Go.RowKit Go.Proofs.Ytdbnfdcjibgikaa.Rx
def blkF (l : List Int) : Blk := ⟨0, true, 3, .rows 1 l.length (rowI l)⟩
end Go.Proofs.Ytdbnfdcjibgikaa.Px
