/- Both tables. -/
import Derived.Test.YtllabiheedejoaaGreatTA
import Derived.Test.YtllabiheedejoaaGreatHS
