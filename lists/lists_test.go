package lists_test

import (
	"slices"
	"testing"

	"contango/lists"
)

func TestAll(t *testing.T) {
	even := func(n int) bool { return n%2 == 0 }
	for _, x := range []struct {
		list []int
		want bool
	}{
		{nil, true},
		{[]int{2, 4}, true},
		{[]int{1, 4}, false},
		{[]int{2, 3}, false},
	} {
		if got := lists.All(x.list, even); got != x.want {
			t.Errorf("All of %v: %v", x.list, got)
		}
	}
}

func TestLeast(t *testing.T) {
	for _, x := range []struct {
		list []int
		want int
	}{
		{[]int{3}, 3},
		{[]int{3, 5, -1}, -1},
		{[]int{3, 5}, 3},
	} {
		if got := lists.Least(x.list[0], x.list[1:]...); got != x.want {
			t.Errorf("Least of %v: %d", x.list, got)
		}
	}
}

func TestGreatest(t *testing.T) {
	for _, x := range []struct {
		list []int
		want int
	}{
		{[]int{-3}, -3},
		{[]int{3, -1, 5}, 5},
		{[]int{5, 3}, 5},
	} {
		if got := lists.Greatest(x.list[0], x.list[1:]...); got != x.want {
			t.Errorf("Greatest of %v: %d", x.list, got)
		}
	}
}

func TestOthers(t *testing.T) {
	for _, x := range []struct {
		list  []int
		first int
		left  []int
		want  []int
	}{
		{nil, 0, []int{0}, nil},
		{[]int{7, 8, 9}, 0, nil, []int{7, 8, 9}},
		{[]int{7, 8, 9}, 0, []int{0, 2}, []int{8}},
		{[]int{7, 8, 9}, 0, []int{0, 1, 2}, nil},
		{[]int{7, 8, 9}, 4, []int{0, 3, 5, 7}, []int{7, 9}},
	} {
		before := slices.Clone(x.list)
		got := lists.Others(x.list, x.first, x.left)
		if !slices.Equal(got, x.want) {
			t.Errorf("Others of %v from %d, without %v: %v; want %v", x.list, x.first, x.left, got, x.want)
		}
		for i := range got {
			got[i] = -1
		}
		if !slices.Equal(x.list, before) {
			t.Errorf("Others shares its memory with %v", before)
		}
	}
}

// TestSmallestOrder: shorter lists come first, and those of one length in lexicographic order.
func TestSmallestOrder(t *testing.T) {
	due := [][]int{{}, {0}, {1}, {2}, {0, 1}, {0, 2}, {1, 2}, {0, 1, 2}}
	for most, many := range []int{1, 4, 7, 8} {
		var tried [][]int
		set, found := lists.Smallest(3, most, func(list []int) bool {
			tried = append(tried, list)
			return false
		})
		if set != nil || found || !slices.EqualFunc(tried, due[:many], slices.Equal) {
			t.Errorf("Smallest of at most %d: %v, %v after %v", most, set, found, tried)
		}
	}
}

func TestSmallestFits(t *testing.T) {
	for _, x := range []struct {
		end, most int
		fits      func([]int) bool
		want      []int
		found     bool
	}{
		{4, 3, func(l []int) bool { return true }, nil, true},
		{4, 3, func(l []int) bool { return slices.Contains(l, 2) }, []int{2}, true},
		{4, 3, func(l []int) bool { return slices.Contains(l, 3) && slices.Contains(l, 1) }, []int{1, 3}, true},
		{4, 3, func(l []int) bool { return len(l) == 3 }, []int{0, 1, 2}, true},
		{4, 3, func(l []int) bool { return len(l) == 4 }, nil, false},
		{4, 4, func(l []int) bool { return len(l) == 4 }, []int{0, 1, 2, 3}, true},
		{0, 0, func(l []int) bool { return true }, nil, true},
		{0, -1, func(l []int) bool { return true }, nil, false},
	} {
		if set, found := lists.Smallest(x.end, x.most, x.fits); !slices.Equal(set, x.want) || found != x.found {
			t.Errorf("Smallest of at most %d of %d: %v, %v; want %v, %v", x.most, x.end, set, found, x.want, x.found)
		}
	}
}
