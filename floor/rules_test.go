package floor_test

import (
	"bytes"
	"math"
	"math/rand"
	"reflect"
	"slices"
	"strings"
	"testing"

	"contango/api"
	"contango/floor"
)

// result is what a call returned.
type result struct {
	call   string
	values []any
	e      api.Errno
}

// isZero reports whether all that was returned is the zero value.
func (r result) isZero() bool {
	return !slices.ContainsFunc(r.values, func(x any) bool { return !reflect.ValueOf(x).IsZero() })
}

// args are those of all calls.
type args struct {
	lines         []string
	b             []byte
	day, dividend int
}

// callAll makes each call that can have an error.
func callAll(a args) []result {
	var all []result
	add := func(call string, e api.Errno, values ...any) {
		all = append(all, result{call: call, values: values, e: e})
	}
	s, errors, e := floor.Play(a.lines)
	add("Play", e, s, errors)
	pairs, sure, e := floor.Matched(a.lines)
	add("Matched", e, pairs, sure)
	where, e := floor.Where(a.lines, a.day)
	add("Where", e, where)
	rights, e := floor.Rights(a.lines, a.dividend)
	add("Rights", e, rights)
	text, e := floor.Report(a.lines)
	add("Report", e, text)
	b, e := floor.Write(a.lines)
	add("Write", e, b)
	b, e = floor.Resume(a.b, a.lines)
	add("Resume", e, b)
	return all
}

// due are the errors of calls; of all others it is OK.
type due map[string]api.Errno

// testDue tests that each call has the error that is due, and no result with it.
func testDue(t *testing.T, name string, a args, want due) {
	t.Helper()
	for _, got := range callAll(a) {
		if got.e != want[got.call] || got.e != api.OK && !got.isZero() {
			t.Errorf("%s, %s: %v, %v; want %v", got.call, name, got.values, got.e, want[got.call])
		}
	}
}

// TestR1Limit: too many lines, or bytes of one, count before all else.
func TestR1Limit(t *testing.T) {
	tooLong := strings.Repeat("x", 61)
	full := []byte(fileOf(times("bad", 40)))
	limits := due{}
	for _, call := range []string{"Play", "Matched", "Where", "Rights", "Report", "Write", "Resume"} {
		limits[call] = api.ErrLimit
	}
	for name, lines := range map[string][]string{
		"too many lines":               append(theDay(), times("late 1", 20)...),
		"too many empty lines":         make([]string, 41),
		"far too many lines":           make([]string, 1<<16),
		"a line too long":              theDay(tooLong),
		"the first line too long":      append([]string{tooLong}, theDay()...),
		"a line far too long":          theDay(strings.Repeat("x", 1<<16)),
		"a line that begins well":      theDay("late 1" + strings.Repeat(" ", 60)),
		"too long, and nothing else":   {tooLong},
		"too many, and one too long":   append(times("late 1", 40), tooLong),
		"a line of 31 signs, in bytes": {strings.Repeat("\u00e9", 31)},
	} {
		testDue(t, name, args{lines: lines}, limits)
		testDue(t, name+", nothing there", args{lines: lines, b: full, day: -1, dividend: -1}, limits)
	}
	nothing := due{"Matched": api.ErrNone, "Where": api.ErrNone, "Rights": api.ErrNone}
	for name, lines := range map[string][]string{
		"the most lines":               times("late 31", 40),
		"the longest line":             {strings.Repeat("x", 60)},
		"the most of the longest":      times(strings.Repeat("x", 60), 40),
		"empty lines":                  make([]string, 40),
		"a line of 30 signs, in bytes": {strings.Repeat("\u00e9", 30)},
	} {
		testDue(t, name, args{lines: lines}, nothing)
		testDue(t, name+", after a full file", args{lines: lines, b: full}, nothing)
	}
	testDue(t, "the most lines that are accepted", args{lines: theDay(times("late 1", 19)...)}, due{})
}

// TestR1Order: what each call asks for beside lines, in the order of the table.
func TestR1Order(t *testing.T) {
	full := []byte(fileOf(times("bad", 40)))
	for _, x := range []struct {
		name string
		a    args
		want due
	}{
		{"the example", args{lines: theDay()}, due{}},
		{"the last day, and dividend", args{lines: theDay("dividend 3 3 3"), day: 9, dividend: 1}, due{}},
		{"no such day", args{lines: theDay(), day: 10}, due{"Where": api.ErrRange}},
		{"a day below 0", args{lines: theDay(), day: -1}, due{"Where": api.ErrRange}},
		{"a day far away", args{lines: theDay(), day: math.MaxInt}, due{"Where": api.ErrRange}},
		{"a day far below 0", args{lines: theDay(), day: math.MinInt}, due{"Where": api.ErrRange}},
		{"no such dividend", args{lines: theDay(), dividend: 1}, due{"Rights": api.ErrNone}},
		{"a dividend below 0", args{lines: theDay(), dividend: -1}, due{"Rights": api.ErrNone}},
		{"a dividend far away", args{lines: theDay(), dividend: math.MaxInt}, due{"Rights": api.ErrNone}},
		{"a dividend far below 0", args{lines: theDay(), dividend: math.MinInt}, due{"Rights": api.ErrNone}},
		{"no slip", args{lines: theDay("void 0", "void 0", "void 0")}, due{"Matched": api.ErrNone}},
		{"no sheet", args{lines: without(theDay(), registerWords())}, due{"Where": api.ErrNone}},
		{"no sheet, and no such day", args{lines: without(theDay(), registerWords()), day: 10}, due{"Where": api.ErrNone}},
		{"no dividend", args{lines: without(theDay(), companyWords())}, due{"Rights": api.ErrNone}},
		{"nothing", args{day: -1, dividend: -1}, due{"Matched": api.ErrNone, "Where": api.ErrNone, "Rights": api.ErrNone}},
		{"one line too many in the file", args{lines: theDay(), b: full}, due{"Resume": api.ErrLimit}},
		{"one line too many after the file", args{lines: theDay(), b: []byte(fileOf(times("bad", 20)))}, due{"Resume": api.ErrLimit}},
		{"just enough lines after the file", args{lines: theDay(), b: []byte(fileOf(times("bad", 19)))}, due{}},
	} {
		testDue(t, x.name, x.a, x.want)
	}
}

// TestR3Empty: nil and a list without elements are the same.
func TestR3Empty(t *testing.T) {
	nothing := due{"Matched": api.ErrNone, "Where": api.ErrNone, "Rights": api.ErrNone}
	testDue(t, "nil", args{}, nothing)
	testDue(t, "no lines", args{lines: []string{}, b: []byte{}}, nothing)
	for _, b := range [][]byte{nil, {}} {
		if lines, n := floor.Recover(b); len(lines) != 0 || n != 0 {
			t.Errorf("Recover of no bytes: %q, %d", lines, n)
		}
		for _, lines := range [][]string{nil, {}} {
			if f, e := floor.Resume(b, lines); len(f) != 0 || e != api.OK {
				t.Errorf("Resume of no bytes and no lines: %q, %v", f, e)
			}
			if f, e := floor.Write(lines); len(f) != 0 || e != api.OK {
				t.Errorf("Write of no lines: %q, %v", f, e)
			}
			if s, errors, e := floor.Play(lines); !same(s, empty()) || len(errors) != 0 || e != api.OK {
				t.Errorf("Play of no lines: %+v, %v, %v", s, errors, e)
			}
			if s, e := floor.Report(lines); s != "pairs 0\n" || e != api.OK {
				t.Errorf("Report of no lines: %q, %v", s, e)
			}
		}
	}
}

// region is the memory of a list.
type region struct{ first, end uintptr }

// regions returns the memory of all lists and strings of the value.
func regions(v reflect.Value) []region {
	var all []region
	switch v.Kind() {
	case reflect.Interface:
		return regions(v.Elem())
	case reflect.Struct:
		for i := range v.NumField() {
			all = append(all, regions(v.Field(i))...)
		}
	case reflect.Slice:
		if v.Cap() > 0 {
			first := uintptr(v.UnsafePointer())
			all = append(all, region{first, first + uintptr(v.Cap())*v.Type().Elem().Size()})
		}
		for i := range v.Len() {
			all = append(all, regions(v.Index(i))...)
		}
	}
	return all
}

// isApart reports whether no two of the regions share memory.
func isApart(all []region) bool {
	slices.SortFunc(all, func(a, b region) int { return int(a.first) - int(b.first) })
	for i := 1; i < len(all); i++ {
		if all[i].first < all[i-1].end {
			return false
		}
	}
	return true
}

// spoil writes to all memory of the lists of the value, and beyond their ends.
func spoil(v reflect.Value) {
	switch v.Kind() {
	case reflect.Interface:
		spoil(v.Elem())
	case reflect.Struct:
		for i := range v.NumField() {
			spoil(v.Field(i))
		}
	case reflect.Slice:
		for i := range v.Len() {
			spoil(v.Index(i))
		}
		whole := v.Slice(0, v.Cap())
		for i := range whole.Len() {
			whole.Index(i).SetZero()
		}
	}
}

// TestR4Memory: arguments are not written to, results share no memory.
func TestR4Memory(t *testing.T) {
	r := rand.New(rand.NewSource(4))
	for _, lines := range slices.Concat([][]string{theDay()}, sessions(4, 150)) {
		a := args{lines: lines, b: []byte(fileOf(lines[:r.Intn(8)%(len(lines)+1)])), day: r.Intn(10), dividend: r.Intn(2)}
		mine := args{lines: slices.Clone(a.lines), b: slices.Clone(a.b), day: a.day, dividend: a.dividend}
		kept, again := callAll(mine), callAll(mine)
		all := regions(reflect.ValueOf([]any{mine.lines, mine.b}))
		for i, x := range again {
			if !reflect.DeepEqual(x, kept[i]) {
				t.Fatalf("%s of %v: %v has become %v", x.call, a, kept[i].values, x.values)
			}
			all = append(all, regions(reflect.ValueOf(x.values))...)
		}
		if !isApart(all) {
			t.Fatalf("results of %v share memory", a)
		}
		for _, x := range again {
			spoil(reflect.ValueOf(x.values))
		}
		if !reflect.DeepEqual(mine, a) || !reflect.DeepEqual(kept, callAll(mine)) {
			t.Fatalf("%v has become %v", a, mine)
		}
		got, _ := floor.Recover(mine.b)
		want := slices.Clone(got)
		clear(mine.b)
		if !slices.Equal(got, want) {
			t.Fatalf("Recover of %q: %q has become %q", a.b, want, got)
		}
	}
}

// TestR4Spare: memory beyond the ends of lists is not written to.
func TestR4Spare(t *testing.T) {
	lines := append(make([]string, 0, 50), theDay()...)
	b := append(make([]byte, 0, 1000), fileOf(theDay()[:9])...)
	callAll(args{lines: lines, b: b})
	got, _ := floor.Recover(b)
	isClean := slices.Equal(lines, theDay()) && string(b) == fileOf(theDay()[:9]) && slices.Equal(got, theDay()[:9])
	isClean = isClean && slices.Equal(lines[len(lines):50], make([]string, 50-len(lines)))
	if !isClean || !bytes.Equal(b[len(b):1000], make([]byte, 1000-len(b))) {
		t.Errorf("%q and %q: written to", lines[:50], b[:1000])
	}
}

// anyNumber returns numbers within limits, near them, and far away.
func anyNumber(r *rand.Rand) int {
	return pick(r, 0, 1, 2, 3, 5, 9, 10, 11, -1, math.MaxInt, math.MinInt, r.Int(), -r.Int())
}

// TestP1Returns: no call panics, and each has no result with its error, whatever
// its arguments are.
func TestP1Returns(t *testing.T) {
	r := rand.New(rand.NewSource(1))
	is := map[api.Errno]int{}
	for range 2000 {
		begun := someSession(r)
		lines := slices.Concat(begun[:min(len(begun), r.Intn(5))], anyLines(r), someSession(r))
		if r.Intn(8) > 0 {
			lines = lines[:min(len(lines), 40)]
		}
		b := []byte(fileOf(lines)[:min(r.Intn(300), len(fileOf(lines)))] + anyLine(r, 40))
		a := args{lines: lines, b: b, day: anyNumber(r), dividend: anyNumber(r)}
		for _, x := range callAll(a) {
			is[x.e]++
			if x.e != api.OK && !x.isZero() {
				t.Fatalf("%s of %v: %v, %v", x.call, a, x.values, x.e)
			}
		}
		got, n := floor.Recover(b)
		if want, many := readable(string(b)); !slices.Equal(got, want) || n != many {
			t.Fatalf("Recover of %q: %q, %d", b, got, n)
		}
	}
	if is[api.OK] < 2000 || is[api.ErrLimit] < 500 || is[api.ErrNone] < 500 || is[api.ErrRange] < 200 || len(is) > 4 {
		t.Errorf("errors: %v", is)
	}
}

// TestP1Bytes: each byte of a line, and of a file, can be any.
func TestP1Bytes(t *testing.T) {
	for c := range 256 {
		for _, line := range theDay() {
			for at := range len(line) + 1 {
				with := []byte(line)
				with = slices.Insert(with, at, byte(c))
				_, errors, e := floor.Play([]string{string(with)})
				if _, want := after([]string{string(with)}); e != api.OK || !slices.Equal(errors, want) {
					t.Errorf("Play of %q: %v, %v; want %v", with, errors, e, want)
				}
			}
		}
		file := []byte(fileOf([]string{"late 1", "a/b", ""}))
		for at := range file {
			with := slices.Clone(file)
			with[at] = byte(c)
			lines, n := floor.Recover(with)
			if want, many := readable(string(with)); !slices.Equal(lines, want) || n != many {
				t.Errorf("Recover of %q: %q, %d; want %q", with, lines, n, want)
			}
		}
	}
}

// TestP1Widest: as much as there may be of everything, by as many lines as there may be.
func TestP1Widest(t *testing.T) {
	lines := slices.Concat(
		[]string{"clerk", "clerk", "clerk", "errors 3", "late 30", "sign 15", "sign 15", "sign 0", "pair 0 1 7"},
		times("slip 0 1 0 0 7777/7 7777 0 300", 4), times("slip 1 0 1 0 7777/7 7777 0 300", 4),
		times("sheet 0", 4),
		[]string{"loan 0 0 1 0 9", "loan 1 0 1 0 9", "loan 2 0 1 0 9", "return 0 1 0 0 9", "return 1 1 0 0 9", "return 2 1 0 0 9"},
		[]string{"held 0 100", "split 0 6 4", "split 11 6 4"}, times("trade 0 1 25 0 2 8 10", 4),
		[]string{"closed 5 6", "closed 7 7", "dividend 0 11 50", "dividend 11 11 50", "dividend 0 0 0", "saw 3 0 9"},
	)
	s, errors, e := floor.Play(lines)
	if len(lines) != 40 || !slices.Equal(errors, make([]api.Errno, 40)) || e != api.OK {
		t.Fatalf("Play of %d lines: %+v, %v, %v", len(lines), s, errors, e)
	}
	if pairs, sure, e := floor.Matched(lines); pairs != 4 || len(sure) != 0 || e != api.OK {
		t.Errorf("Matched: %d, %v, %v", pairs, sure, e)
	}
	for day := range 9 {
		want := lists(list(0, 1), list(0, 1), list(0, 1), list(0))
		if l, e := floor.Where(lines, day); !sameLists(l, want) || e != api.OK {
			t.Errorf("Where, %d: %v, %v", day, l, e)
		}
	}
	if text, e := floor.Report(lines); text != reportOf(s) || e != api.OK {
		t.Errorf("Report: %q, %v", text, e)
	}
	b, e := floor.Write(times(strings.Repeat("\xff", 60), 40))
	if got, n := floor.Recover(b); len(b) != 40*69 || n != len(b) || len(got) != 40 || e != api.OK {
		t.Errorf("Write of the longest lines: %d bytes, %v; Recover: %d, %d", len(b), e, len(got), n)
	}
}
