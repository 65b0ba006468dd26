package corner

import (
	"contango/api"
	"contango/lists"
)

// positions are how many shares each house has, or lacks if it is below 0.
type positions [api.MaxCornerHouses]int

// positions returns the positions in the truth; without a truth, what contracts
// alone make of them.
func (m Market) positions(truth []int) positions {
	var p positions
	copy(p[:], truth)
	for _, c := range m.Contracts {
		p[c.Long] += c.Shares
		p[c.Short] -= c.Shares
	}
	return p
}

// filled returns the positions after each house has bought its need.
func (p positions) filled() positions {
	for house, n := range p {
		p[house] = lists.Greatest(n, 0)
	}
	return p
}

// need returns how many shares the house lacks at the position.
func (h House) need(position int) int { return lists.Greatest(-position, 0) }

// spare returns how many shares the house would sell at the position.
func (h House) spare(position int) int {
	if !h.Sells {
		return 0
	}
	return lists.Greatest(position, 0)
}

// missing returns by how much the house makes the shortage greater at the position.
func (h House) missing(position int) int { return h.need(position) - h.spare(position) }

// surplus returns by how much the house makes the shortage smaller at the position.
func (h House) surplus(position int) int { return -h.missing(position) }
