/- errors.As at a pathError, walked; impl.codeOfPath. -/
import Derived.Test.YtbjcfkelgnehaaaDoorAs
namespace Go.Proofs.YtbjcfkelgnehaaaDoor
open Go.RowKit Go.Extern

end Go.Proofs.YtbjcfkelgnehaaaDoor
