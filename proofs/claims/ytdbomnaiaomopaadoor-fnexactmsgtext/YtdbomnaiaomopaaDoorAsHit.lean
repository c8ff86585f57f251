/- errors.As at a pathError, walked; impl.codeOfPath. -/
import Derived.Test.YtdbomnaiaomopaaDoorAs
namespace Go.Proofs.YtdbomnaiaomopaaDoor
open Go.RowKit Go.Extern

end Go.Proofs.YtdbomnaiaomopaaDoor
