package margin

import "contango/lists"

// Debts, values and margins are in hundredths, rates in ten thousandths.
const (
	hundredths     = 100
	tenThousandths = 10000
)

// standing is how a loan stands on a day: what is owed before the call, what the
// shares are worth, and by how many hundredths this has to be more.
type standing struct{ owed, value, margin int }

// grown returns the debt with the interest of a day.
func grown(debt, rate int) int { return debt + debt*rate/tenThousandths }

// cap returns the greatest debt that leaves the margin.
func (x standing) cap() int { return hundredths * x.value / (hundredths + x.margin) }

// debt returns what is owed after the call.
func (x standing) debt() int { return lists.Least(x.owed, x.cap()) }

// call returns what is called.
func (x standing) call() int { return x.owed - x.debt() }

// isRestored reports whether shares that are sold for so much restore the margin.
func (x standing) isRestored(proceeds int) bool {
	if proceeds >= x.owed {
		return true
	}
	return (x.value-proceeds)*hundredths >= (x.owed-proceeds)*(hundredths+x.margin)
}
