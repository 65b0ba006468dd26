package odd

import (
	"contango/api"
	"contango/tape"
)

// turn is by how much prices with the same last figures differ, at least.
const turn = 80

// told is a desk at work, with what its tape tells of each sale: the bounds of
// its price, and of the minute at which it was made.
type told struct {
	work
	priced, made []tape.Range
}

// tell returns the desk with what its tape tells, or the error of the tape.
func (w work) tell() (told, api.Errno) {
	priced, e := tape.Prices(w.Board, w.Tape)
	if e != api.OK {
		return told{}, e
	}
	made, e := tape.Minutes(w.Board, w.Tape)
	if e != api.OK {
		return told{}, e
	}
	return told{work: w, priced: priced, made: made}, api.OK
}

// possible returns the prices that the sale has in all truths: those between its
// bounds with its last figures. None of them is left out: take one truth with
// the least price, one with the greatest, and move each price of the latter into
// the turn that begins at the price of the former. This is a truth again, with
// the price that is a turn above the least, and so on.
func (k told) possible(sale int) prices {
	return every(k.priced[sale].Lo, k.priced[sale].Hi, turn)
}

// after returns the prices that the sale can have, if the one of the same stock
// before it has one of these.
func (k told) after(sale int, before prices) prices {
	return k.possible(sale).keep(func(price int) bool {
		return before.near(price, k.Board.Jump).some()
	})
}

// moment returns a minute at which the order can come so that the last sale
// (None is always so) is not after it, but the next one (the end of the tape is
// always so) is, and whether there is one. It is enough that each of both can be
// so by itself: see minutes.
func (k told) moment(o Order, last, next int) (int, bool) {
	for more := range o.Minute.Hi - o.Minute.Lo + 1 {
		minute := o.Minute.Lo + more
		isPast := last == None || k.made[last].Lo <= minute
		isAhead := next == len(k.made) || k.made[next].Hi > minute
		if isPast && isAhead {
			return minute, true
		}
	}
	return 0, false
}

// minutes returns right minutes in which the sales up to the last one are made
// as early as they can be, and all that follow as late as they can be. These are
// right, as both ends of the bounds never decrease.
func (k told) minutes(last int) []int {
	var list []int
	for sale, bounds := range k.made {
		made := bounds.Lo
		if sale > last {
			made = bounds.Hi
		}
		list = append(list, made)
	}
	return list
}
