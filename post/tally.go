package post

import "contango/lists"

// tally is how often each sale is in a list.
type tally map[Sale]int

// account puts what was recorded beside what has happened.
type account struct{ recorded, happened tally }

// count returns the tally of the list.
func count(list []Sale) tally {
	t := tally{}
	for _, s := range list {
		t[s]++
	}
	return t
}

// isExplained reports whether the record has happened as often as it was recorded.
func (a account) isExplained(record Sale) bool { return a.recorded[record] <= a.happened[record] }

// explains reports whether a truth with this course explains the records.
func (c *course) explains(records []Sale) bool {
	a := account{recorded: count(records), happened: count(c.sales)}
	return lists.All(records, a.isExplained)
}
