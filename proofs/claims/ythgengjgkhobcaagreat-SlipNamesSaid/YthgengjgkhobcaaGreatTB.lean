/- The tables together. -/
import Derived.Test.YthgengjgkhobcaaGreatTA
import Derived.Test.YthgengjgkhobcaaGreatHS
