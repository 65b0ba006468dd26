/- The tables of the law. -/
import Derived.Test.YtncpjbijeiahhaaTA
import Derived.Test.YtncpjbijeiahhaaHS
