/- What package huff answers: Check, Codes, Find, FindSec, CodeSec, Standard. -/
import Derived.Test.YtadcfndjbhcfbaaHu5
import Derived.Test.YtadcfndjbhcfbaaHu6
import Derived.Test.YtadcfndjbhcfbaaHu10
import Derived.Test.YtadcfndjbhcfbaaHd3
import Derived.Test.YtadcfndjbhcfbaaHd5
import Derived.Test.YtadcfndjbhcfbaaHd6
import Derived.Test.YtadcfndjbhcfbaaHd7
import Derived.Test.YtadcfndjbhcfbaaHd8
import Derived.Test.YtadcfndjbhcfbaaHd10
namespace Go.Proofs.Ytadcfndjbhcfbaa
set_option linter.unusedVariables false
open Go.ChangeShapes Go.WideShapes Go.ChangeAt Go.RowKit

/-- What must hold of the world: nothing. -/
def HT : World → Prop := fun _ => True
theorem HT_but : ∀ W W', HT W → But Nowhere W W' → HT W' := fun _ _ _ _ => trivial

theorem specCheck : SpecCheck HT := fun c pv l hI w hv hx hl _ => check_any c pv l hI w hv hx hl
theorem specCodes : SpecCodes HT := fun c pv l hI w hv hx hl _ => codes_spec c pv l hI w hv hx hl
theorem specFind : SpecFind HT := fun c pv l b hb hI w hv hx hl _ => find_spec c pv l b hb hI w hv hx hl
theorem specFindSec : SpecFindSec HT := fun c pv l b hb hI w hv hx hl _ => findSec_spec c pv l b hb hI w hv hx hl
theorem specCodeSec : SpecCodeSec HT := fun c pv l b hb hI w hv hx hl _ => codeSec_spec c pv l b hb hI w hv hx hl
theorem specStandard : SpecStandard HT := fun a b w _ => standard_spec a b w

end Go.Proofs.Ytadcfndjbhcfbaa
