/- what the texts on signs lean on -/
import Derived.Test.YtbfhpgneaklgoaaDoorCount
import Derived.Test.YtbfhpgneaklgoaaDoorAppend
import Derived.Test.YtbfhpgneaklgoaaDoorQArgs
import Derived.Test.YtbfhpgneaklgoaaDoorEql
import Derived.Test.YtbfhpgneaklgoaaDoorRKeys
import Derived.Test.YtbfhpgneaklgoaaDoorFrameT
import Derived.Deep.MidRow
import Derived.Below
import Derived.Laws.StructEq
