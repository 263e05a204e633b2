/- What the functions of the program's own package value come to: seven contracts (may_any key_any plain_any takeKey_any take_any cmp_any show_any). -/
import Derived.Test.YtodpaeaeigjmdaaDoorValK
import Derived.Test.YtodpaeaeigjmdaaDoorValP
import Derived.Test.YtodpaeaeigjmdaaDoorValS
import Derived.Test.YtodpaeaeigjmdaaDoorValC
import Derived.Test.YtodpaeaeigjmdaaDoorValV
