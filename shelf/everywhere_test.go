package shelf

import (
	"math"
	"reflect"
	"slices"
	"testing"

	"tidemark/api"
)

// copied is a copy of rows; in the spare room behind each list there are so many entries that are wrong.
func copied(rows [][]int64, spare int) [][]int64 {
	out := make([][]int64, 0, len(rows)+spare)
	for _, r := range rows {
		row := append(make([]int64, 0, len(r)+spare), r...)
		for i := range spare {
			row[:len(r)+spare][len(r)+i] = api.MaxInt + 1
		}
		out = append(out, row)
	}
	for i := range spare {
		out[:len(rows)+spare][len(rows)+i] = []int64{7}
	}
	return out
}

// whole is a copy of rows with their spare room in them.
func whole(rows [][]int64) [][]int64 {
	var out [][]int64
	for _, r := range rows[:cap(rows)] {
		out = append(out, slices.Clone(r[:cap(r)]))
	}
	return out
}

// scribble writes into all rows, and their values, and the spare room of both.
func scribble(z []api.ZRow) {
	for i := range z[:cap(z)] {
		r := &z[:cap(z)][i]
		for k := range r.Row[:cap(r.Row)] {
			r.Row[:cap(r.Row)][k] = api.Val{Kind: api.VText, N: 99, Text: "scribble"}
		}
		r.W = 99
	}
}

func TestZ2ArgumentsAreOnlyRead(t *testing.T) {
	m := &maker{state: 11}
	for range 40 {
		sales, people := copied(m.rows(9, 3), 2), copied(m.rows(9, 2), 2)
		a, b := whole(sales), whole(people)
		for _, name := range Names() {
			got, err := Ask(name, sales, people)
			if want, _ := Ask(name, copied(sales, 0), copied(people, 0)); err != api.OK || told(got) != told(want) {
				t.Errorf("%s with spare room: error %d and %s come", name, err, told(got))
			}
		}
		if !reflect.DeepEqual(whole(sales), a) || !reflect.DeepEqual(whole(people), b) {
			t.Error("what was given is changed")
		}
	}
}

func TestZ2AnswersAreTheCallers(t *testing.T) {
	sales, people := shop()
	for _, name := range Names() {
		one, _ := Ask(name, sales, people)
		two, _ := Ask(name, sales, people)
		want := told(one)
		scribble(one)
		again, _ := Ask(name, sales, people)
		if told(two) != want || told(again) != want {
			t.Errorf("%s: what was answered is not the caller's alone", name)
		}
		mine, theirs := copied(sales, 2), copied(people, 2)
		two, _ = Ask(name, mine, theirs)
		for _, r := range append(mine, theirs...) {
			clear(r)
		}
		if told(two) != want {
			t.Errorf("%s: something of what was given is kept", name)
		}
	}
	l := Names()
	want := told(l)
	clear(l[:cap(l)])
	if told(Names()) != want {
		t.Error("names are not the caller's alone")
	}
}

// No row's values share memory with another one's.
func TestZ2RowsStandAlone(t *testing.T) {
	sales, people := shop()
	for _, name := range Names() {
		z, _ := Ask(name, sales, people)
		want := told(z)
		for i := range z {
			row := append(z[i].Row, api.Val{Kind: api.VText, Text: "scribble"})
			if told(z) != want {
				t.Errorf("%s: %s is behind row %d", name, told(row), i)
			}
		}
	}
}

func TestZ3NilAndEmptyAreTheSame(t *testing.T) {
	sales, people := shop()
	for _, name := range Names() {
		one, _ := Ask(name, nil, people)
		checkAsk(t, name, [][]int64{}, people, toldRows(one))
		one, _ = Ask(name, sales, nil)
		checkAsk(t, name, sales, [][]int64{}, toldRows(one))
		checkErr(t, name, [][]int64{nil}, nil, api.ErrMany)
		checkErr(t, name, [][]int64{{}}, nil, api.ErrMany)
		checkErr(t, name, nil, [][]int64{nil}, api.ErrMany)
		checkErr(t, name, nil, [][]int64{{}}, api.ErrMany)
	}
}

// spoil puts something odd into one place of rows.
func (m *maker) spoil(rows [][]int64) [][]int64 {
	if len(rows) == 0 {
		return append(rows, make([]int64, m.upTo(11)))
	}
	k := m.upTo(len(rows))
	switch m.upTo(4) {
	case 0:
		rows[k] = make([]int64, m.upTo(11))
	case 1:
		rows = append(rows, rows[k])
	default:
		if len(rows[k]) > 0 {
			rows[k][m.upTo(len(rows[k]))] = pick[int64](m, math.MinInt64, -api.MaxInt-1, -1, 0, api.MaxInt, api.MaxInt+1, math.MaxInt64)
		}
	}
	return rows
}

func TestZ1NothingPanics(t *testing.T) {
	m := &maker{state: 12}
	times := map[api.Errno]int{}
	for range 1500 {
		sales, people := m.rows(6, 3), m.rows(6, 2)
		for range m.upTo(3) {
			sales = m.spoil(sales)
		}
		for range m.upTo(3) {
			people = m.spoil(people)
		}
		name := pick(m, Names()...)
		got, err := Ask(name, sales, people)
		times[err]++
		if err != api.OK && got != nil {
			t.Errorf("error %d and %s come", err, toldRows(got))
		}
		if again, _ := Ask(name, sales, people); told(again) != told(got) {
			t.Errorf("%s, then %s come", told(got), told(again))
		}
	}
	for _, err := range []api.Errno{api.OK, api.ErrRange, api.ErrMany, api.ErrFit} {
		if times[err] == 0 {
			t.Errorf("error %d never comes", err)
		}
	}
}
