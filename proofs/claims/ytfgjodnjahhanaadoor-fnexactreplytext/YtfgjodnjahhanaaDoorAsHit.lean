/- errors.As at a pathError, walked; impl.codeOfPath. -/
import Derived.Test.YtfgjodnjahhanaaDoorAs
namespace Go.Proofs.YtfgjodnjahhanaaDoor
open Go.RowKit Go.Extern

end Go.Proofs.YtfgjodnjahhanaaDoor
