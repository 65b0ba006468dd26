package corner

// work is a market at work, with the positions of its houses at present.
type work struct {
	Market
	at positions
}

// begin returns the market at work in the truth.
func (m Market) begin(truth []int) *work { return &work{Market: m, at: m.positions(truth)} }

// each returns what is asked of each house at its position.
func (w *work) each(asked func(House, int) int) []int {
	list := make([]int, len(w.Houses))
	for house, h := range w.Houses {
		list[house] = asked(h, w.at[house])
	}
	return list
}

// need returns the need of the house.
func (w *work) need(house int) int { return w.Houses[house].need(w.at[house]) }

// spare returns the spare shares of the house.
func (w *work) spare(house int) int { return w.Houses[house].spare(w.at[house]) }

// shortage returns the sum of all needs, less the sum of all spare shares.
func (w *work) shortage() int { return total(w.each(House.missing)) }

// isCornered reports whether the stock is cornered.
func (w *work) isCornered() bool { return w.shortage() > 0 }

// isSettled reports whether no house has a need.
func (w *work) isSettled() bool { return w.at == w.at.filled() }
