/- Blocks copied, one by one and list by list. -/
import Derived.Test.YtppbnmlgilgnnaaPlMid
import Derived.Test.YtppbnmlgilgnnaaPl7
import Derived.Test.YtppbnmlgilgnnaaPl9
namespace Go.Proofs.Ytppbnmlgilgnnaa
open Go.ChangeShapes Go.WideShapes Go.ChangeAt Go.RowKit

set_option maxHeartbeats 400000 in
theorem Try.elemBlock : ElemInfo Try.prog 51 53 (.agg (List.replicate 64 (Value.int .i64 0)).toArray) 64 512 := ⟨Try.underlying51, by kernel_rfl, rfl, by omega⟩

theorem Try.elemBlocks : ElemInfo Try.prog 29 51 (.slice none 0 0) 1 24 := ⟨Try.underlying29, by kernel_rfl, rfl, by omega⟩

end Go.Proofs.Ytppbnmlgilgnnaa
