package tape

import "contango/api"

// state is the state of a tape.
type state struct {
	stock  int
	minute int
	late   Range
	rush   bool
	number int // 0, if there is none
}

// record is what is read from a tape of the board.
type record struct {
	board  Board
	prints []Print
}

// work is a tape at work: its state, and what is read up to there.
type work struct {
	state
	record
}

// open returns what is read from the whole tape, or the error of board or tape.
func open(b Board, tape string) (record, api.Errno) {
	if e := CheckBoard(b); e != api.OK {
		return record{}, e
	}
	if len(tape) > api.MaxTapeBytes {
		return record{}, api.ErrLimit
	}
	w := work{state: state{stock: none}, record: record{board: b}}
	for t, ok := range tokens(tape) {
		if !ok {
			return record{}, api.ErrForm
		}
		if e := rules()[t.kind].act(&w, t); e != api.OK {
			return record{}, e
		}
	}
	if w.hasNumber() {
		return record{}, api.ErrState
	}
	return w.record, api.OK
}

// hasNumber reports whether there is a number, which only a sale can follow.
func (w *work) hasNumber() bool { return w.number != 0 }

func (w *work) name(t token) api.Errno {
	stock := w.board.find(t.text)
	if stock == none {
		return api.ErrName
	}
	if w.hasNumber() {
		return api.ErrState
	}
	w.stock = stock
	return api.OK
}

func (w *work) count(t token) api.Errno {
	if w.hasNumber() {
		return api.ErrState
	}
	w.number = t.says.Lo
	return api.OK
}

func (w *work) sell(t token) api.Errno {
	if w.stock == none {
		return api.ErrState
	}
	if len(w.prints) == api.MaxTapeSales {
		return api.ErrLimit
	}
	w.prints = append(w.prints, Print{
		Stock:   w.stock,
		Number:  w.numbers(),
		Figures: t.says.Lo,
		Full:    t.kind == fullToken,
		Minute:  w.minute,
		Late:    w.late,
	})
	w.number = 0
	return api.OK
}

// numbers returns the range of hundreds of a sale that is printed now.
func (w *work) numbers() Range {
	if w.hasNumber() {
		return only(w.number)
	}
	if w.rush {
		return Range{Lo: 1, Hi: w.board.Small}
	}
	return only(1)
}

func (w *work) wait(t token) api.Errno {
	if w.hasNumber() || t.says.Lo < w.minute {
		return api.ErrState
	}
	w.minute = t.says.Lo
	return api.OK
}

func (w *work) delay(t token) api.Errno {
	if w.hasNumber() {
		return api.ErrState
	}
	w.late = t.says
	return api.OK
}

func (w *work) hurry(token) api.Errno {
	if w.hasNumber() || w.rush {
		return api.ErrState
	}
	w.rush = true
	return api.OK
}

func (w *work) calm(token) api.Errno {
	if w.hasNumber() || !w.rush {
		return api.ErrState
	}
	w.rush = false
	return api.OK
}
