package ring

import (
	"iter"
	"slices"

	"contango/api"
	"contango/lists"
)

// arc is a contract with a direction: forth, to set off more of it, or back, to
// set off less.
type arc struct {
	contract int
	isBack   bool
}

// distances has for each house how much can be gained on a way to it: each arc of
// a contract that counts is 1 forth, and -1 back.
type distances [api.MaxRingHouses]int

// work is a book at work, with what is set off.
type work struct {
	Book
	room map[arc]int // how much more each arc can carry
}

// turned returns the contract in the other direction.
func (a arc) turned() arc { return arc{contract: a.contract, isBack: !a.isBack} }

// gain returns what one more share on the arc is worth, if these contracts count.
func (a arc) gain(counted []int) int {
	if !slices.Contains(counted, a.contract) {
		return 0
	}
	if a.isBack {
		return -1
	}
	return 1
}

// begin returns the book at work, with nothing set off.
func (b Book) begin() *work {
	w := &work{Book: b, room: map[arc]int{}}
	for i, c := range b.Contracts {
		w.room[arc{contract: i}] = c.Number
	}
	return w
}

// ends returns the houses from which, and to which, the arc leads.
func (w *work) ends(a arc) (from, to int) {
	c := w.Contracts[a.contract]
	if a.isBack {
		return c.To, c.From
	}
	return c.From, c.To
}

// free returns the arcs that still can carry something.
func (w *work) free() iter.Seq[arc] {
	return func(yield func(arc) bool) {
		for i := range w.Contracts {
			forth := arc{contract: i}
			if w.room[forth] > 0 && !yield(forth) {
				return
			}
			back := forth.turned()
			if w.room[back] > 0 && !yield(back) {
				return
			}
		}
	}
}

// raise sets off as much as can be by these contracts together, and as much as it
// takes by others. It returns the distances of all houses after that.
func (w *work) raise(counted ...int) distances {
	for {
		far, circle := w.survey(counted)
		if len(circle) == 0 {
			return far
		}
		w.carry(circle)
	}
}

// survey returns the distances of all houses. If there are none, as some circle
// of arcs gains something each time, it returns this one, too.
func (w *work) survey(counted []int) (distances, []arc) {
	var far distances
	var last [api.MaxRingHouses]arc // the last arc of the best way to each house
	changed := 0
	for range w.Houses {
		before := far
		for a := range w.free() {
			from, to := w.ends(a)
			if d := far[from] + a.gain(counted); d > far[to] {
				far[to], last[to], changed = d, a, to
			}
		}
		if far == before {
			return far, nil
		}
	}
	return far, w.circle(last, changed)
}

// circle returns the arcs of a circle that leads to the house, or passes by on
// the way to it: the way is longer than there are houses.
func (w *work) circle(last [api.MaxRingHouses]arc, house int) []arc {
	for range w.Houses {
		house, _ = w.ends(last[house])
	}
	var list []arc
	for at := house; len(list) == 0 || at != house; at, _ = w.ends(last[at]) {
		list = append(list, last[at])
	}
	return list
}

// carry lets each arc of the circle carry as much as all of them can.
func (w *work) carry(circle []arc) {
	amount := w.room[circle[0]]
	for _, a := range circle {
		amount = lists.Least(amount, w.room[a])
	}
	for _, a := range circle {
		w.room[a] -= amount
		w.room[a.turned()] += amount
	}
}

// keep lets none of these contracts be set off less than they are. If they were
// raised, none can be set off more, either.
func (w *work) keep(contracts ...int) {
	for _, i := range contracts {
		delete(w.room, arc{contract: i, isBack: true})
	}
}

// left returns what is left of the contract.
func (w *work) left(contract int) int { return w.room[arc{contract: contract}] }

// greatest returns a greatest setting off, and heights that prove its total.
func (b Book) greatest() (off, heights []int) {
	w := b.begin()
	far := w.raise(b.others(nil)...)
	off = make([]int, len(b.Contracts))
	for i, c := range b.Contracts {
		off[i] = c.Number - w.left(i)
	}
	heights = make([]int, b.Houses)
	copy(heights, far[:])
	return off, heights
}

// deliveries returns the lexicographically first deliveries by contracts of the
// set alone, and whether there are any: those in which first of all others, and
// then of each of the set in turn, as much is set off as can be.
func (b Book) deliveries(set []int) ([]int, bool) {
	w := b.begin()
	others := b.others(set)
	w.raise(others...)
	if !lists.All(others, func(i int) bool { return w.left(i) == 0 }) {
		return nil, false
	}
	w.keep(others...)
	list := make([]int, len(b.Contracts))
	for _, i := range set {
		w.raise(i)
		w.keep(i)
		list[i] = w.left(i)
	}
	return list, true
}

// others returns the contracts that are not of the set.
func (b Book) others(set []int) []int {
	var list []int
	for i := range b.Contracts {
		if !slices.Contains(set, i) {
			list = append(list, i)
		}
	}
	return list
}
