package sql

import (
	"math"
	"reflect"
	"slices"
	"strings"
	"testing"

	"tidemark/api"
)

// filled puts something else into each place of v; a list becomes nil.
func filled(v reflect.Value) {
	switch v.Kind() {
	case reflect.Bool:
		v.SetBool(!v.Bool())
	case reflect.Int, reflect.Int64:
		v.SetInt(99)
	case reflect.String:
		v.SetString("scribble")
	case reflect.Slice:
		v.SetZero()
	case reflect.Struct:
		for i := range v.NumField() {
			filled(v.Field(i))
		}
	}
}

// spared is a copy of x, in which there is something in the spare room behind each list.
func spared[T any](x T) T {
	return remade(reflect.ValueOf(x), func(l reflect.Value) (reflect.Value, int) {
		out := reflect.MakeSlice(l.Type(), l.Len()+2, l.Len()+2)
		filled(out.Index(l.Len()))
		filled(out.Index(l.Len() + 1))
		return out, l.Len()
	}).Interface().(T)
}

// whole is a copy of x, in which each list has its spare room in it.
func whole[T any](x T) T {
	return remade(reflect.ValueOf(x), func(l reflect.Value) (reflect.Value, int) {
		return reflect.MakeSlice(l.Type(), l.Cap(), l.Cap()), l.Cap()
	}).Interface().(T)
}

// remade is a copy of v; room makes the memory of a list, and says how long the copy is.
func remade(v reflect.Value, room func(l reflect.Value) (reflect.Value, int)) reflect.Value {
	out := reflect.New(v.Type()).Elem()
	switch v.Kind() {
	case reflect.Slice:
		list, n := room(v)
		for i := range n {
			list.Index(i).Set(remade(v.Slice(0, n).Index(i), room))
		}
		out.Set(list.Slice(0, n))
	case reflect.Struct:
		for i := range v.NumField() {
			out.Field(i).Set(remade(v.Field(i), room))
		}
	default:
		out.Set(v)
	}
	return out
}

// scribble writes into all lists of v, and into their spare room.
func scribble(v reflect.Value) {
	switch v.Kind() {
	case reflect.Slice:
		for i := range v.Cap() {
			scribble(v.Slice(0, v.Cap()).Index(i))
			filled(v.Slice(0, v.Cap()).Index(i))
		}
	case reflect.Struct:
		for i := range v.NumField() {
			scribble(v.Field(i))
		}
	}
}

// room is the memory of a list, its spare room too.
type room struct{ from, to uintptr }

// rooms are those of all lists of v.
func rooms(v reflect.Value) (out []room) {
	switch v.Kind() {
	case reflect.Slice:
		if v.Cap() > 0 {
			out = append(out, room{v.Pointer(), v.Pointer() + uintptr(v.Cap())*v.Type().Elem().Size()})
		}
		for i := range v.Len() {
			out = append(out, rooms(v.Index(i))...)
		}
	case reflect.Struct:
		for i := range v.NumField() {
			out = append(out, rooms(v.Field(i))...)
		}
	}
	return out
}

// shared tells whether two of these lists share memory.
func shared(l []room) bool {
	slices.SortFunc(l, func(a, b room) int { return int(a.from) - int(b.from) })
	for i := range l {
		if i > 0 && l[i].from < l[i-1].to {
			return true
		}
	}
	return false
}

func TestZ2ArgumentsAreOnlyRead(t *testing.T) {
	m := maker{state: 6}
	for range 500 {
		l := m.statements()
		s := spared(l)
		before := whole(s)
		got, f := Print(s)
		want, f2 := Print(l)
		if got != want || f != f2 || Wrong(s) != Wrong(l) {
			t.Errorf("with spare room: %v and %q come, not %v and %q", f, got, f2, want)
		}
		if !reflect.DeepEqual(whole(s), before) {
			t.Errorf("what was given is changed: %s", told(l))
		}
	}
}

func TestZ2AnswersAreTheCallers(t *testing.T) {
	m := maker{state: 7}
	for range 500 {
		s, _ := Print(m.statements())
		one, _ := Read(s)
		want := told(one)
		two, _ := Read(s)
		if shared(slices.Concat(rooms(reflect.ValueOf(one)), rooms(reflect.ValueOf(two)))) {
			t.Errorf("two lists share memory: %s", want)
		}
		scribble(reflect.ValueOf(one))
		if three, _ := Read(s); told(two) != want || told(three) != want {
			t.Errorf("%s and %s come, not %s again", told(two), told(three), want)
		}
	}
}

// emptied is a copy of v, in which each list without entries is empty, or nil.
func emptied[T any](x T, isNil bool) T {
	return remade(reflect.ValueOf(x), func(l reflect.Value) (reflect.Value, int) {
		if l.Len() == 0 && isNil {
			return reflect.Zero(l.Type()), 0
		}
		return reflect.MakeSlice(l.Type(), l.Len(), l.Len()), l.Len()
	}).Interface().(T)
}

func TestZ3NilAndEmptyAreTheSame(t *testing.T) {
	m := maker{state: 8}
	for range 1000 {
		l := m.statements()
		if m.upTo(2) == 0 {
			l = m.odd()
		}
		s, f := Print(emptied(l, false))
		s2, f2 := Print(emptied(l, true))
		if s != s2 || f != f2 || Wrong(emptied(l, false)) != f2 && f2.Err != api.ErrMuch {
			t.Errorf("%v and %q come, or %v and %q", f, s, f2, s2)
		}
	}
	for _, l := range [][]api.Stmt{nil, {}} {
		if s, f := Print(l); s != "" || f != (api.Fault{}) || Wrong(l) != (api.Fault{}) {
			t.Errorf("%v and %q come of nothing", f, s)
		}
	}
}

// odd makes statements in which much may be wrong.
func (m *maker) odd() []api.Stmt {
	l := m.statements()
	for range 1 + m.upTo(3) {
		m.spoil(reflect.ValueOf(l))
	}
	return l
}

// spoil puts something odd into one place of v.
func (m *maker) spoil(v reflect.Value) {
	switch v.Kind() {
	case reflect.Slice:
		if v.Len() == 0 {
			return
		}
		place := v.Index(m.upTo(v.Len()))
		if m.upTo(6) == 0 {
			place.SetZero()
			return
		}
		m.spoil(place)
	case reflect.Struct:
		m.spoil(v.Field(m.upTo(v.NumField())))
	case reflect.Bool:
		v.SetBool(!v.Bool())
	case reflect.Int, reflect.Int64:
		v.SetInt(int64(pick(m, math.MinInt, -1, 0, 1, 2, 3, 4, 5, 6, 19, 23, 24, 50, 51, api.MaxInt+1, math.MaxInt)))
	case reflect.String:
		v.SetString(pick(m, "", "a", "A", "1", "select", long, strings.Repeat("'", api.MaxText+1), "\x00\xff"))
	}
}

func TestZ1NothingPanics(t *testing.T) {
	m := maker{state: 9}
	times := map[api.Errno]int{}
	for range 20000 {
		l := m.odd()
		f := Wrong(l)
		times[f.Err]++
		s, f2 := Print(l)
		if f != (api.Fault{}) && (f2 != f || s != "") || f.At < 0 || f.At >= len(l) {
			t.Errorf("%v, %v and %q come", f, f2, s)
		}
		if _, f3 := Read(s); f3 != (api.Fault{}) {
			t.Errorf("%q can't be read: %v", s, f3)
		}
	}
	for _, err := range []api.Errno{api.OK, api.ErrKind, api.ErrRange, api.ErrMuch, api.ErrMany, api.ErrName} {
		if times[err] == 0 {
			t.Errorf("error %d never comes", err)
		}
	}
	endless := these(made(api.XNot))
	endless[0].Kids = endless
	checkWrong(t, "an expression without an end", stmts(where(endless[0])), api.Fault{Err: api.ErrMuch})
	endless = make([]api.SExpr, 3)
	for i := range endless {
		endless[i] = api.SExpr{Kind: api.XCase, Kids: endless}
	}
	checkWrong(t, "an expression without an end, and wide", stmts(where(endless[1])), api.Fault{Err: api.ErrMuch})
}

// Whatever stands in a text, Read answers, at a byte of it, or at its end.
func TestZ1AnyText(t *testing.T) {
	m := maker{state: 10}
	words := append(soup(), "!", "'", "\n", "\r", strings.Repeat("1", 17), "show select", "create view v as select", "delete from t where", "insert into t values", "( a )", "a from t", ";", ";", "( (", "not not", "case when a then b else")
	for range 30000 {
		var l []string
		for range m.upTo(40) {
			l = append(l, pick(&m, words...))
		}
		s := strings.Join(l, pick(&m, "", " ", "  "))
		got, f := Read(s)
		if f.At < 0 || f.At > len(s) || f.Err != api.OK && got != nil || f.Err == api.OK && f.At != 0 {
			t.Errorf("%q: %v and %s come", s, f, told(got))
		}
	}
	for range 30000 {
		b := make([]byte, m.upTo(30))
		for i := range b {
			b[i] = byte(m.upTo(256))
		}
		if got, f := Read(string(b)); f.At > len(b) || f.Err != api.OK && got != nil {
			t.Errorf("%q: %v and %s come", b, f, told(got))
		}
	}
	for _, w := range soup() {
		_, f := Read(strings.Repeat(w+" ", api.MaxSource/(len(w)+1)))
		if w == ";" && f != (api.Fault{Err: api.ErrForm}) || f.Err == api.OK {
			t.Errorf("%q, again and again: %v comes", w, f)
		}
	}
}

// Fields that a kind has not mean nothing, not even if they have no end.
func TestZ5OtherFieldsMeanNothing(t *testing.T) {
	endless := these(made(api.XNot))
	endless[0].Kids = endless
	m := maker{state: 11}
	for range 1000 {
		l := m.statements()
		want, f := Print(l)
		for i := range l {
			junked(&l[i], endless[0])
		}
		got, f2 := Print(l)
		if got != want || f2 != f {
			t.Errorf("with junk: %v and %q come, not %v and %q", f2, got, f, want)
		}
	}
}

// junked puts something into the fields that a statement's kind has not.
func junked(s *api.Stmt, x api.SExpr) {
	q, bad := api.Query{Parts: []api.Select{{Where: x}}, Limit: 99}, *s
	*s = api.Stmt{Kind: s.Kind, Name: "1", Cols: []api.Column{{}}, Query: q, Rows: [][]api.Val{nil}, HasWhere: true, Where: x}
	if bad.Kind != api.StShow {
		s.Name = bad.Name
	}
	switch bad.Kind {
	case api.StTable:
		s.Cols = bad.Cols
	case api.StInsert:
		s.Rows = bad.Rows
	case api.StDelete:
		s.HasWhere, s.Where = bad.HasWhere, bad.Where
		junkedIf(s.HasWhere, &s.Where, x)
	default:
		s.Query = bad.Query
		junkedQuery(&s.Query, x)
	}
}

func junkedQuery(q *api.Query, x api.SExpr) {
	if q.Limit < 0 {
		q.Limit, q.Order = -7, slices.Repeat(these(x), 99)
	}
	for i := range q.Parts {
		s := &q.Parts[i]
		if s.Star {
			s.Items = slices.Repeat([]api.Item{{X: x, As: "1"}}, 99)
		}
		s.From[0].On = x
		junkedIf(s.HasWhere, &s.Where, x)
		junkedIf(s.HasHaving, &s.Having, x)
	}
}

// junkedIf puts x where no expression is, and something into the fields that one has not.
func junkedIf(has bool, place *api.SExpr, x api.SExpr) {
	if !has {
		*place = x
		return
	}
	junkedExpr(place)
}

func junkedExpr(x *api.SExpr) {
	if x.Kind != api.XLit {
		x.Val = api.Val{Kind: 99}
	} else if x.Val.Kind != api.VText {
		x.Val.Text = strings.Repeat("junk", 99)
	}
	if x.Kind != api.XCol {
		x.Tab, x.Name = "1", "select"
	}
	for i := range x.Kids {
		junkedExpr(&x.Kids[i])
	}
}
