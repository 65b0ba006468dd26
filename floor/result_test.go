package floor_test

import (
	"bytes"
	"slices"
	"strings"
	"testing"

	"contango/api"
	"contango/coupon"
	"contango/floor"
)

func TestP12_2Matched(t *testing.T) {
	for _, x := range []struct {
		lines []string
		pairs int
		sure  [][]int
		e     api.Errno
	}{
		{theDay(), 1, nil, api.OK},
		{theDay("late 1"), 1, lists(list(0, 2)), api.OK},
		{theDay("late 0"), 0, nil, api.OK},
		{theDay("void 2"), 1, lists(list(0, 1)), api.OK},
		{theDay("void 1"), 1, lists(list(0, 1)), api.OK},
		{theDay("void 0"), 0, nil, api.OK},
		{theDay("errors 0"), 0, nil, api.OK},
		{theDay("errors 4", "late 31"), 1, nil, api.OK},
		{theDay("sign 15", "slip 3 1 3 0 45/3 100 12 12", "slip 1 0 3 0 45/3 100 12 12"), 2, lists(list(3, 4)), api.OK},
		{theDay("sign 15", "slip 1 1 3 0 45/3 100 8 9", "late 3"), 2, lists(list(0, 1), list(2, 3)), api.OK},
		{theDay("void 0", "void 0", "void 0"), 0, nil, api.ErrNone},
		{theDay()[:8], 0, nil, api.ErrNone},
		{[]string{"slip 0 1 1 0 45/3 100 10 10"}, 0, nil, api.ErrNone},
		{nil, 0, nil, api.ErrNone},
	} {
		if pairs, sure, e := floor.Matched(x.lines); pairs != x.pairs || !sameLists(sure, x.sure) || e != x.e {
			t.Errorf("Matched of .. %q: %d, %v, %v", x.lines[max(len(x.lines)-3, 0):], pairs, sure, e)
		}
	}
}

func TestP12_3Where(t *testing.T) {
	for _, x := range []struct {
		lines []string
		day   int
		want  [][]int
		e     api.Errno
	}{
		{theDay(), 0, lists(list(0), list(1)), api.OK},
		{theDay(), 2, lists(list(0, 1, 2), list(1)), api.OK},
		{theDay(), 3, lists(list(1, 2), list(0, 1)), api.OK},
		{theDay(), 9, lists(list(2), list(0)), api.OK},
		{theDay("saw 0 0 2"), 3, lists(list(1, 2), list(0, 1)), api.OK},
		{theDay("saw 0 1 3"), 2, lists(list(0, 1), list(1)), api.OK},
		{theDay("saw 0 1 3", "forget 0"), 2, lists(list(0, 1, 2), list(1)), api.OK},
		{theDay("sheet 3", "drop 1"), 4, lists(list(1), list(0, 1), list(3)), api.OK},
		{theDay("drop 0"), 2, lists(list(0, 1, 2), list(1)), api.OK},
		{theDay(), 10, nil, api.ErrRange},
		{theDay(), -1, nil, api.ErrRange},
		{[]string{"sheet 2"}, 9, lists(list(2)), api.OK},
		{[]string{"sheet 4"}, 9, nil, api.ErrNone},
		{nil, 0, nil, api.ErrNone},
		{nil, 10, nil, api.ErrNone},
		{nil, -1, nil, api.ErrNone},
	} {
		if got, e := floor.Where(x.lines, x.day); !sameLists(got, x.want) || e != x.e {
			t.Errorf("Where of .. %q, %d: %v, %v", x.lines[max(len(x.lines)-3, 0):], x.day, got, e)
		}
	}
}

func TestP12_4Rights(t *testing.T) {
	ranges := func(r ...coupon.Range) []coupon.Range { return r }
	nothing := to(0, 0)
	for _, x := range []struct {
		lines    []string
		dividend int
		want     []coupon.Range
		e        api.Errno
	}{
		{theDay(), 0, ranges(to(32400, 54000), to(0, 21600), nothing, nothing), api.OK},
		{theDay("cancel 0"), 0, ranges(to(54000, 54000), nothing, nothing, nothing), api.OK},
		{theDay("held 0 3"), 0, ranges(to(32400, 54000), to(0, 21600), nothing, nothing), api.OK},
		{theDay("held 3 2", "held 0 4"), 0, ranges(to(0, 21600), to(0, 21600), nothing, to(10800, 10800)), api.OK},
		{theDay("dividend 0 0 1"), 1, ranges(to(7200, 7200), nothing, nothing, nothing), api.OK},
		{theDay("dividend 0 0 1", "dividend 3 3 1"), 2, ranges(to(4320, 7200), to(0, 2880), nothing, nothing), api.OK},
		// The house 1 sells before Ex what it buys after it.
		{[]string{"held 0 1", "trade 0 1 1 4 4 5 5", "trade 1 2 1 1 1 5 5", "dividend 3 9 1"}, 0, ranges(to(720, 720), to(-720, -720), to(720, 720), nothing), api.OK},
		{theDay(), 1, nil, api.ErrNone},
		{theDay(), -1, nil, api.ErrNone},
		{theDay("dividend 2 1 1"), 1, nil, api.ErrNone},
		{nil, 0, nil, api.ErrNone},
	} {
		if got, e := floor.Rights(x.lines, x.dividend); !slices.Equal(got, x.want) || e != x.e {
			t.Errorf("Rights of .. %q, %d: %v, %v", x.lines[max(len(x.lines)-3, 0):], x.dividend, got, e)
		}
	}
}

func TestP12_5Report(t *testing.T) {
	for _, x := range []struct {
		lines []string
		want  string
	}{
		{nil, "pairs 0\n"},
		{[]string{"clerk", "sign 1"}, "pairs 0\n"},
		{theDay(), "pairs 1\nsheet 2\nsheet 0\nright 32400..54000 0..21600 0..0 0..0\n"},
		{theDay("void 0", "drop 1", "cancel 0"), "pairs 0\nsheet 1\nsheet 0\nright 54000..54000 0..0 0..0 0..0\n"},
		{theDay("sign 15", "slip 1 1 3 0 45/3 100 8 9"), "pairs 2\nsheet 2\nsheet 0\nright 32400..54000 0..21600 0..0 0..0\n"},
		{theDay("dividend 0 0 1"), "pairs 1\nsheet 2\nsheet 0\nright 32400..54000 0..21600 0..0 0..0\nright 7200..7200 0..0 0..0 0..0\n"},
		{theDay("void 0", "void 0", "void 0"), "pairs 0\nsheet 2\nsheet 0\nright 32400..54000 0..21600 0..0 0..0\n"},
		{[]string{"sheet 3", "pass 0 3 1 0 9", "pass 0 1 3 0 9"}, "pairs 0\nsheet 3\n"},
		{[]string{"sheet 3", "pass 0 3 1 0 9", "sheet 2"}, "pairs 0\nsheet 1\nsheet 2\n"},
		{[]string{"held 0 1", "trade 0 1 1 4 4 5 5", "trade 1 2 1 1 1 5 5", "dividend 3 9 1"}, "pairs 0\nright 720..720 -720..-720 720..720 0..0\n"},
		{[]string{"trade 0 1 1 1 1 1 1", "bad"}, "pairs 0\n"},
	} {
		if got, e := floor.Report(x.lines); got != x.want || e != api.OK {
			t.Errorf("Report of .. %q: %q, %v; want %q", x.lines[max(len(x.lines)-3, 0):], got, e, x.want)
		}
	}
}

// TestP12_5LastDay: by the end of the last day all entries have happened, and in
// whatever order they did, they have led each sheet to one house.
func TestP12_5LastDay(t *testing.T) {
	for _, x := range []last{
		is(api.OK, "sheet 0", "pass 0 0 1 0 9", "pass 0 0 2 0 9", "pass 0 1 0 0 9", "pass 0 2 0 0 9", "pass 0 0 3 0 9"),
		is(api.OK, "sheet 0", "loan 0 0 1 0 9", "return 0 1 0 0 9", "loan 0 0 2 0 9", "pass 0 2 3 9 9"),
	} {
		if s, e := floor.Report(x.lines); s != "pairs 0\nsheet 3\n" || e != x.e {
			t.Errorf("Report of %q: %q, %v", x.lines, s, e)
		}
	}
}

func TestP12_6Write(t *testing.T) {
	sixty := strings.Repeat("x", 60)
	for _, x := range []struct {
		lines []string
		want  string
	}{
		{nil, ""},
		{[]string{"a"}, "01/a/0128\n"},
		{[]string{"a", "bc"}, "01/a/0128\n02/bc/0358\n"},
		{[]string{""}, "00//0031\n"},
		{[]string{"", "", ""}, "00//0031\n00//0062\n00//0093\n"},
		{[]string{"/\n"}, "02//\n/0098\n"},
		{[]string{"\xff\x00"}, "02/\xff\x00/0286\n"},
		{[]string{"0123456789"}, "10/0123456789/3001\n"},
		// 120 times the sum of 1 to 60 are 219600, and 31: 219631 is 22 times 9973, and 225.
		{[]string{sixty}, "60/" + sixty + "/0225\n"},
		{[]string{sixty, "clerk"}, "60/" + sixty + "/0225\n05/clerk/1671\n"},
	} {
		if b, e := floor.Write(x.lines); string(b) != x.want || e != api.OK {
			t.Errorf("Write of %q: %q, %v; want %q", x.lines, b, e, x.want)
		}
	}
}

func TestP12_6Recover(t *testing.T) {
	two := "01/a/0128\n02/bc/0358\n"
	sixty := strings.Repeat("x", 60)
	for _, x := range []struct {
		b     string
		lines []string
		bytes int
	}{
		{"", nil, 0},
		{two, []string{"a", "bc"}, 21},
		{two[:20], []string{"a"}, 10},
		{two[:11], []string{"a"}, 10},
		{two[:10], []string{"a"}, 10},
		{two[:9], nil, 0},
		{two[:1], nil, 0},
		{two[10:], nil, 0},
		{two + two, []string{"a", "bc"}, 21},
		{two + "\n", []string{"a", "bc"}, 21},
		{two[:10] + "x" + two[10:], []string{"a"}, 10},
		{"x" + two, nil, 0},
		{"00//0031\n00//0062\n", []string{"", ""}, 18},
		{"00//0031\n00//0031\n", []string{""}, 9},
		{"02//\n/0098\n", []string{"/\n"}, 11},
		{"60/" + sixty + "/0225\n", []string{sixty}, 69},
		// 61 times 62 are 3782, 120 times the half of it 226920, and 31: 22 times 9973, and 7545.
		{"61/" + sixty + "x/7545\n", nil, 0},
		{"01/a/0129\n", nil, 0},
		{"01/a/0127\n", nil, 0},
		{"01/b/0128\n", nil, 0},
		{"01/a/128\n", nil, 0},
		{"01/a/00128\n", nil, 0},
		{"1/a/0128\n", nil, 0},
		{"001/a/0128\n", nil, 0},
		{"+1/a/0128\n", nil, 0},
		{"-1/a/0128\n", nil, 0},
		{" 1/a/0128\n", nil, 0},
		{"x1/a/0128\n", nil, 0},
		{"0:/a/0128\n", nil, 0},
		{"00/a/0128\n", nil, 0},
		{"02/a/0128\n", nil, 0},
		{"61/a/0128\n", nil, 0},
		{"99/a/0128\n", nil, 0},
		{"01:a/0128\n", nil, 0},
		{"01/a:0128\n", nil, 0},
		{"01/a/0128 ", nil, 0},
		{"01/a/0128\r\n", nil, 0},
		{"01/a/012x\n", nil, 0},
		// 10101 is 128, and 9973.
		{"01/a/10101\n", nil, 0},
	} {
		if lines, n := floor.Recover([]byte(x.b)); !slices.Equal(lines, x.lines) || n != x.bytes {
			t.Errorf("Recover of %q: %q, %d", x.b, lines, n)
		}
	}
}

func TestP12_6Forty(t *testing.T) {
	full, e := floor.Write(times("a", 40))
	if len(full) != 400 || e != api.OK || !strings.HasSuffix(string(full), "01/a/1337\n") {
		t.Fatalf("Write of 40 lines: %q, %v", full, e)
	}
	for _, more := range []string{"", "0", "01/a/1368\n", "01/a/0128\n"} {
		if lines, n := floor.Recover(append(slices.Clone(full), more...)); !slices.Equal(lines, times("a", 40)) || n != 400 {
			t.Errorf("Recover of 40 lines and %q: %d, %d", more, len(lines), n)
		}
	}
}

func TestP12_7Resume(t *testing.T) {
	write := func(lines ...string) []byte {
		b, e := floor.Write(lines)
		if e != api.OK {
			t.Fatal("Write:", e)
		}
		return b
	}
	for _, x := range []struct {
		b          []byte
		more, want []string
	}{
		{nil, nil, nil},
		{nil, []string{"sheet 0", "bad", "saw 0 1 1", "saw 0 0 1"}, []string{"sheet 0", "saw 0 0 1"}},
		{write("sheet 3", "bad"), []string{"saw 0 3 4", "saw 0 2 4", "late 7"}, []string{"sheet 3", "bad", "saw 0 3 4", "late 7"}},
		{write("sheet 3", "bad"), nil, []string{"sheet 3", "bad"}},
		{write("bad", "sheet 4"), []string{"bad", "sheet 4"}, []string{"bad", "sheet 4"}},
		{write("sheet 3", "saw 0 3 4")[:20], []string{"saw 0 3 5", "late 7"}, []string{"sheet 3", "saw 0 3 5", "late 7"}},
		{append(write("sheet 3"), "rest"...), []string{"sheet 2"}, []string{"sheet 3", "sheet 2"}},
		{[]byte("rest"), []string{"sheet 2", "late"}, []string{"sheet 2"}},
		{write(times("bad", 40)...), times("bad", 40), times("bad", 40)},
		{write(times("bad", 39)...), []string{"bad", "late 7", "bad"}, append(times("bad", 39), "late 7")},
		{nil, times("late 7", 40), times("late 7", 40)},
		{write(times("late 6", 20)...), append(times("late 7", 20), times("late", 20)...), append(times("late 6", 20), times("late 7", 20)...)},
	} {
		if b, e := floor.Resume(x.b, x.more); !bytes.Equal(b, write(x.want...)) || e != api.OK {
			t.Errorf("Resume of %q, %q: %q, %v", x.b, x.more, b, e)
		}
	}
	for _, x := range []struct {
		b    []byte
		more []string
	}{
		{write(times("bad", 40)...), []string{"late 7"}},
		{write(times("bad", 40)...), append(times("bad", 39), "late 7")},
		{write(times("bad", 1)...), times("late 7", 40)},
		{write(times("late 6", 20)...), times("late 7", 21)},
		{nil, times("bad", 41)},
		{nil, []string{strings.Repeat("x", 61)}},
	} {
		if b, e := floor.Resume(x.b, x.more); b != nil || e != api.ErrLimit {
			t.Errorf("Resume of %q, %q: %q, %v", x.b, x.more, b, e)
		}
	}
}
