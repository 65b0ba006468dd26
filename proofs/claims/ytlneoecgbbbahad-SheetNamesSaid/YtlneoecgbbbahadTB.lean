/- The tables of the law. -/
import Derived.Test.YtlneoecgbbbahadTA
import Derived.Test.YtlneoecgbbbahadHS
