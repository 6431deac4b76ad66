package journal

import (
	"math"
	"reflect"
	"slices"
	"strings"
	"testing"

	"tidemark/api"
)

// remade is a copy of v; room makes the memory of a list, and says how long the copy is.
func remade(v reflect.Value, room func(l reflect.Value) (reflect.Value, int)) reflect.Value {
	out := reflect.New(v.Type()).Elem()
	switch v.Kind() {
	case reflect.Slice:
		list, n := room(v)
		for i := range n {
			list.Index(i).Set(remade(v.Slice(0, n).Index(i), room))
		}
		out.Set(list.Slice(0, n))
	case reflect.Struct:
		for i := range v.NumField() {
			out.Field(i).Set(remade(v.Field(i), room))
		}
	default:
		out.Set(v)
	}
	return out
}

// filled puts something else into each place of v; a list becomes nil.
func filled(v reflect.Value) {
	switch v.Kind() {
	case reflect.Bool:
		v.SetBool(!v.Bool())
	case reflect.Int, reflect.Int64:
		v.SetInt(99)
	case reflect.Uint8:
		v.SetUint(99)
	case reflect.String:
		v.SetString("scribble")
	case reflect.Slice:
		v.SetZero()
	case reflect.Struct:
		for i := range v.NumField() {
			filled(v.Field(i))
		}
	}
}

// spared is a copy of x, in which there is something in the spare room behind each list.
func spared[T any](x T) T {
	return remade(reflect.ValueOf(x), func(l reflect.Value) (reflect.Value, int) {
		out := reflect.MakeSlice(l.Type(), l.Len()+2, l.Len()+2)
		filled(out.Index(l.Len()))
		filled(out.Index(l.Len() + 1))
		return out, l.Len()
	}).Interface().(T)
}

// whole is a copy of x, in which each list has its spare room in it.
func whole[T any](x T) T {
	return remade(reflect.ValueOf(x), func(l reflect.Value) (reflect.Value, int) {
		return reflect.MakeSlice(l.Type(), l.Cap(), l.Cap()), l.Cap()
	}).Interface().(T)
}

// scribble writes into all lists of v, and into their spare room.
func scribble(v reflect.Value) {
	switch v.Kind() {
	case reflect.Slice:
		for i := range v.Cap() {
			scribble(v.Slice(0, v.Cap()).Index(i))
			filled(v.Slice(0, v.Cap()).Index(i))
		}
	case reflect.Struct:
		for i := range v.NumField() {
			scribble(v.Field(i))
		}
	}
}

// room is the memory of a list, its spare room too.
type room struct{ from, to uintptr }

// rooms are those of all lists of v.
func rooms(v reflect.Value) (out []room) {
	switch v.Kind() {
	case reflect.Slice:
		if v.Cap() > 0 {
			out = append(out, room{v.Pointer(), v.Pointer() + uintptr(v.Cap())*v.Type().Elem().Size()})
		}
		for i := range v.Len() {
			out = append(out, rooms(v.Index(i))...)
		}
	case reflect.Struct:
		for i := range v.NumField() {
			out = append(out, rooms(v.Field(i))...)
		}
	}
	return out
}

// shared tells whether two of these lists share memory.
func shared(l []room) bool {
	slices.SortFunc(l, func(a, b room) int { return int(a.from) - int(b.from) })
	for i := range l {
		if i > 0 && l[i].from < l[i-1].to {
			return true
		}
	}
	return false
}

func TestZ2ArgumentsAreOnlyRead(t *testing.T) {
	m := maker{state: 7}
	for range 300 {
		l := m.statements(t, 5)
		want, _ := Bytes(l)
		s := spared(l)
		before := whole(s)
		checkBytes(t, string(want), s...)
		if !reflect.DeepEqual(whole(s), before) {
			t.Fatal("statements that were given are changed")
		}
		b := spared(want)
		bytesBefore := whole(b)
		if got, n, err := Recover(b); err != api.OK || n != len(b) || told(got) != told(l) {
			t.Errorf("error %d, %d bytes and\n%s come", err, n, told(got))
		}
		if !reflect.DeepEqual(whole(b), bytesBefore) {
			t.Fatal("bytes that were given are changed")
		}
	}
}

func TestZ2AnswersAreTheCallers(t *testing.T) {
	m := maker{state: 8}
	for range 300 {
		l := m.statements(t, 5)
		mine := spared(l)
		b, _ := Bytes(mine)
		want := string(b)
		scribble(reflect.ValueOf(mine))
		if string(b) != want {
			t.Error("who writes into statements that were given changes the bytes")
		}
		one, n, _ := Recover(b)
		two, _, _ := Recover(b)
		if n != len(b) || shared(append(rooms(reflect.ValueOf(one)), rooms(reflect.ValueOf(two))...)) {
			t.Error("lists of answers share memory")
		}
		scribble(reflect.ValueOf(one))
		scribble(reflect.ValueOf(b))
		if told(two) != told(l) {
			t.Errorf("something else has\n%s, which was\n%s", told(two), told(l))
		}
		checkBytes(t, want, l...)
	}
}

func TestZ3NilAndEmptyAreTheSame(t *testing.T) {
	for _, l := range [][]api.Stmt{nil, {}} {
		if b, f := Bytes(l); len(b) != 0 || f != (api.Fault{}) {
			t.Errorf("%x and %v come", b, f)
		}
	}
	for _, b := range [][]byte{nil, {}} {
		if l, n, err := Recover(b); len(l) != 0 || n != 0 || err != api.OK {
			t.Errorf("%v, %d and error %d come", l, n, err)
		}
	}
	s := read(t, "show select * from t ;")[0]
	want, _ := Bytes([]api.Stmt{s})
	s.Cols, s.Rows, s.Where.Kids = []api.Column{}, [][]api.Val{}, []api.SExpr{}
	s.Query.Ops, s.Query.Order = []int{}, []api.SExpr{}
	s.Query.Parts[0].Items, s.Query.Parts[0].Group = []api.Item{}, []api.SExpr{}
	checkBytes(t, string(want), s)
}

// spoilt puts something odd into one place of v.
func (m *maker) spoilt(v reflect.Value) {
	switch v.Kind() {
	case reflect.Bool:
		v.SetBool(!v.Bool())
	case reflect.Int, reflect.Int64:
		v.SetInt(pick[int64](m, math.MinInt64, -1, 0, 1, 5, 24, api.MaxInt+1, math.MaxInt64))
	case reflect.String:
		v.SetString(pick(m, "", "select", "'", "\x00", "abcdefghijklm", strings.Repeat("x", api.MaxText+1)))
	case reflect.Slice:
		if v.Len() > 0 && m.upTo(4) > 0 {
			m.spoilt(v.Index(m.upTo(v.Len())))
		} else if m.upTo(2) == 0 {
			v.SetZero()
		} else {
			v.Set(reflect.MakeSlice(v.Type(), 1+m.upTo(500), 500))
		}
	case reflect.Struct:
		i := m.upTo(v.NumField())
		// Most fields that are empty mean nothing, so that others are taken more often.
		if v.Field(i).IsZero() {
			i = m.upTo(v.NumField())
		}
		m.spoilt(v.Field(i))
	}
}

func TestZ1NoStatementsPanic(t *testing.T) {
	m := maker{state: 9}
	times := map[api.Errno]int{}
	for range 8000 {
		l := m.statements(t, 4)
		for range 1 + m.upTo(3) {
			if len(l) > 0 {
				m.spoilt(reflect.ValueOf(l).Index(m.upTo(len(l))))
			}
		}
		b, f := Bytes(l)
		again, f2 := Bytes(l)
		times[f.Err]++
		if string(b) != string(again) || f != f2 {
			t.Error("something else comes the second time")
		}
		if f.Err != api.OK && (b != nil || f.At < 0 || f.At >= len(l)) || f.Err == api.OK && f.At != 0 {
			t.Errorf("%d bytes and %v come", len(b), f)
		}
		if got, n, err := Recover(b); f.Err == api.OK && (err != api.OK || n != len(b) || len(got) != len(l)) {
			t.Errorf("%d of %d statements come back, and error %d", len(got), len(l), err)
		}
	}
	for _, err := range []api.Errno{api.OK, api.ErrKind, api.ErrName, api.ErrMany, api.ErrRange, api.ErrMuch} {
		if times[err] == 0 {
			t.Errorf("error %d never comes", err)
		}
	}
}

// A list that stands in itself has no end, and the call has.
func TestZ1ListsInThemselves(t *testing.T) {
	kids := make([]api.SExpr, 1)
	kids[0] = api.SExpr{Kind: api.XNot, Kids: kids}
	two := make([]api.SExpr, 2)
	two[0], two[1] = api.SExpr{Kind: api.XAnd, Kids: two}, api.SExpr{Kind: api.XOr, Kids: two}
	right := read(t, "delete from t ;")[0]
	for _, x := range []api.SExpr{kids[0], two[0], two[1]} {
		checkFault(t, api.ErrMuch, 1, right, api.Stmt{Kind: api.StDelete, Name: "t", HasWhere: true, Where: x})
	}
}

func TestZ1NoBytesPanic(t *testing.T) {
	m := maker{state: 10}
	for range 20000 {
		b := make([]byte, m.upTo(40))
		for i := range b {
			b[i] = byte(pick(&m, 0, 0, 1, 15, ' ', ';', m.upTo(256)))
		}
		l, n, err := Recover(b)
		if len(l) != 0 || n != 0 || err != api.OK {
			t.Errorf("of %x %d statements, %d bytes and error %d come", b, len(l), n, err)
		}
		// With a right check sum around it, it is one statement's text, or none.
		b = []byte(summed(string(b)))
		if l, n, err = Recover(b); err != api.OK || n != len(l)*len(b) {
			t.Errorf("of %x %d statements, %d bytes and error %d come", b, len(l), n, err)
		}
	}
}
