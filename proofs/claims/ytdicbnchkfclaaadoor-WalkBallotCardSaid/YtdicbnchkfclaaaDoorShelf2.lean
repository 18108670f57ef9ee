/- The contracts are in the other text. -/
import Derived.Test.YtdicbnchkfclaaaDoorShelf
namespace Go.Proofs.YtdicbnchkfclaaaDoor
end Go.Proofs.YtdicbnchkfclaaaDoor
