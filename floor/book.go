package floor

import (
	"slices"

	"contango/api"
	"contango/coupon"
	"contango/sheet"
	"contango/slip"
)

// book is a state that is being changed, with the words that change it, and the
// error, or OK, of each line that was executed.
type book struct {
	State
	words   map[string]word
	answers []api.Errno
}

// refusal is why a line is refused.
type refusal struct{ why api.Errno }

// start returns the state before the first line.
func start() State {
	return State{
		Day:      slip.Day{Houses: api.MaxFloorHouses},
		Register: sheet.Register{Houses: api.MaxFloorHouses},
		Company:  coupon.Company{Houses: api.MaxFloorHouses, Held: make([]int, api.MaxFloorHouses)},
	}
}

// begin returns the book after these lines.
func begin(lines ...string) *book {
	b := &book{State: start(), words: words()}
	for _, line := range lines {
		b.execute(line)
	}
	return b
}

// execute executes the line, and returns its error, or OK.
func (b *book) execute(line string) api.Errno {
	e := answer(func() { b.do(line) })
	b.answers = append(b.answers, e)
	return e
}

// answer does what a line says, and returns why this was refused, or OK.
func answer(do func()) (e api.Errno) {
	defer func() {
		switch r := recover().(type) {
		case nil:
		case refusal:
			e = r.why
		default:
			// A fault of the program must not pass for a line that is accepted.
			panic(r)
		}
	}()
	do()
	return api.OK
}

// refuse refuses the line that is being executed, if one of these is so. A line
// changes the state only after the last of its refusals.
func refuse(why api.Errno, isSo ...bool) {
	if slices.Contains(isSo, true) {
		panic(refusal{why: why})
	}
}

// isHouse reports whether there is such a house.
func isHouse(house int) bool { return house < api.MaxFloorHouses }
