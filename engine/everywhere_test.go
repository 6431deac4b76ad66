package engine

import (
	"math"
	"reflect"
	"slices"
	"strings"
	"testing"

	"tidemark/api"
)

// filled puts something else into each place of v; a list becomes nil.
func filled(v reflect.Value) {
	switch v.Kind() {
	case reflect.Bool:
		v.SetBool(!v.Bool())
	case reflect.Int, reflect.Int64:
		v.SetInt(99)
	case reflect.String:
		v.SetString("scribble")
	case reflect.Slice:
		v.SetZero()
	case reflect.Struct:
		for i := range v.NumField() {
			filled(v.Field(i))
		}
	}
}

// spared is a copy of x, in which there is something in the spare room behind each list.
func spared[T any](x T) T {
	return remade(reflect.ValueOf(x), func(l reflect.Value) (reflect.Value, int) {
		out := reflect.MakeSlice(l.Type(), l.Len()+2, l.Len()+2)
		filled(out.Index(l.Len()))
		filled(out.Index(l.Len() + 1))
		return out, l.Len()
	}).Interface().(T)
}

// whole is a copy of x, in which each list has its spare room in it.
func whole[T any](x T) T {
	return remade(reflect.ValueOf(x), func(l reflect.Value) (reflect.Value, int) {
		return reflect.MakeSlice(l.Type(), l.Cap(), l.Cap()), l.Cap()
	}).Interface().(T)
}

// emptied is a copy of x, in which each list without entries is empty, or nil.
func emptied[T any](x T, isNil bool) T {
	return remade(reflect.ValueOf(x), func(l reflect.Value) (reflect.Value, int) {
		if l.Len() == 0 && isNil {
			return reflect.Zero(l.Type()), 0
		}
		return reflect.MakeSlice(l.Type(), l.Len(), l.Len()), l.Len()
	}).Interface().(T)
}

// remade is a copy of v; room makes the memory of a list, and says how long the copy is.
func remade(v reflect.Value, room func(l reflect.Value) (reflect.Value, int)) reflect.Value {
	out := reflect.New(v.Type()).Elem()
	switch v.Kind() {
	case reflect.Slice:
		list, n := room(v)
		for i := range n {
			list.Index(i).Set(remade(v.Slice(0, n).Index(i), room))
		}
		out.Set(list.Slice(0, n))
	case reflect.Struct:
		for i := range v.NumField() {
			out.Field(i).Set(remade(v.Field(i), room))
		}
	default:
		out.Set(v)
	}
	return out
}

// scribble writes into all lists of v, and into their spare room.
func scribble(v reflect.Value) {
	switch v.Kind() {
	case reflect.Slice:
		for i := range v.Cap() {
			scribble(v.Slice(0, v.Cap()).Index(i))
			filled(v.Slice(0, v.Cap()).Index(i))
		}
	case reflect.Struct:
		for i := range v.NumField() {
			scribble(v.Field(i))
		}
	}
}

// room is the memory of a list, its spare room too.
type room struct{ from, to uintptr }

// rooms are those of all lists of v.
func rooms(v reflect.Value) (out []room) {
	switch v.Kind() {
	case reflect.Slice:
		if v.Cap() > 0 {
			out = append(out, room{v.Pointer(), v.Pointer() + uintptr(v.Cap())*v.Type().Elem().Size()})
		}
		for i := range v.Len() {
			out = append(out, rooms(v.Index(i))...)
		}
	case reflect.Struct:
		for i := range v.NumField() {
			out = append(out, rooms(v.Field(i))...)
		}
	}
	return out
}

// shared tells whether two of these lists share memory.
func shared(l []room) bool {
	slices.SortFunc(l, func(a, b room) int { return int(a.from) - int(b.from) })
	for i := range l {
		if i > 0 && l[i].from < l[i-1].to {
			return true
		}
	}
	return false
}

// some makes statements that play; values among them have more than their kinds have.
func (m *maker) some(t *testing.T) []api.Stmt {
	t.Helper()
	l := m.program(t, 12)
	junk := inserted("t", []api.Val{{Kind: api.VInt, N: 1, Text: "junk"}, {Kind: api.VText, N: 7, Text: "x"}, {Kind: api.VNull, N: 7, Text: "junk"}})
	return joined(t, l, junk, "create view z1 as select * from t; show select * from t; show select * from z1; show select * from z1;")
}

// answer is all that Play answers.
type answer struct {
	Shown []api.Shown
	Fault api.Fault
}

func answered(l []api.Stmt) answer {
	shown, f := Play(l)
	return answer{shown, f}
}

func TestZ2ArgumentsAreOnlyRead(t *testing.T) {
	m := &maker{state: 11}
	for range 80 {
		l := m.some(t)
		s := spared(l)
		before := whole(s)
		if got, want := answered(s), answered(l); told(got) != told(want) || got.Fault.Err != api.OK {
			t.Errorf("with spare room: %s comes, not %s", told(got), told(want))
		}
		if !reflect.DeepEqual(whole(s), before) {
			t.Errorf("what was given is changed: %s", printed(l))
		}
		if strings.Contains(told(answered(l)), "junk") {
			t.Errorf("a value isn't bare: %s", told(answered(l)))
		}
	}
}

func TestZ2AnswersAreTheCallers(t *testing.T) {
	m := &maker{state: 12}
	for range 80 {
		l := emptied(m.some(t), true)
		one, two := answered(l), answered(l)
		want := told(one)
		if shared(slices.Concat(rooms(reflect.ValueOf(one)), rooms(reflect.ValueOf(two)), rooms(reflect.ValueOf(l)))) {
			t.Errorf("%s\ntwo lists share memory", printed(l))
		}
		scribble(reflect.ValueOf(one))
		if told(two) != want || told(answered(l)) != want {
			t.Errorf("%s\nwhat was answered is not the caller's alone", printed(l))
		}
		scribble(reflect.ValueOf(l))
		if told(two) != want {
			t.Error("something of what was given is kept")
		}
	}
}

// Nothing is left of one call in the next one.
func TestZ1CallsStandAlone(t *testing.T) {
	l := read(t, shop+"create view v as select * from t; show select * from v;")
	want := told(answered(l))
	Play(read(t, "create table x (a int); insert into x values (1);"))
	if got := told(answered(l)); got != want {
		t.Errorf("%s comes, not %s", got, want)
	}
	checkFault(t, "show select * from x;", api.ErrName, 0)
}

func TestZ3NilAndEmptyAreTheSame(t *testing.T) {
	m := &maker{state: 13}
	for range 150 {
		l := m.some(t)
		for range m.upTo(3) {
			m.spoil(reflect.ValueOf(&l).Elem())
		}
		one, two := answered(emptied(l, false)), answered(emptied(l, true))
		if told(one) != told(two) {
			t.Errorf("%s or %s comes", told(one), told(two))
		}
	}
}

// spoil puts something odd into one place of v.
func (m *maker) spoil(v reflect.Value) {
	switch v.Kind() {
	case reflect.Slice:
		if v.Len() == 0 {
			return
		}
		place := v.Index(m.upTo(v.Len()))
		switch m.upTo(8) {
		case 0:
			place.SetZero()
		case 1:
			v.Set(v.Slice(0, v.Len()-1))
		case 2:
			v.Set(reflect.Append(v, place))
		default:
			m.spoil(place)
		}
	case reflect.Struct:
		m.spoil(v.Field(m.upTo(v.NumField())))
	case reflect.Bool:
		v.SetBool(!v.Bool())
	case reflect.Int, reflect.Int64:
		v.SetInt(int64(pick(m, math.MinInt, -1, 0, 1, 2, 3, 4, 5, 6, 19, 23, 24, 50, 51, api.MaxInt+1, math.MaxInt)))
	case reflect.String:
		v.SetString(pick(m, "", "a", "t", "v", "A", "select", strings.Repeat("x", api.MaxText+1), "\x00\xff"))
	}
}

func TestZ1NothingPanics(t *testing.T) {
	m := &maker{state: 14}
	times := map[api.Errno]int{}
	for range 60 {
		right := m.some(t)
		for range 100 {
			l := emptied(right, true)
			for range 1 + m.upTo(3) {
				m.spoil(reflect.ValueOf(&l).Elem())
			}
			a := answered(l)
			times[a.Fault.Err]++
			if a.Fault.Err != api.OK && (len(a.Shown) != 0 || a.Fault.At < 0 || a.Fault.At >= max(len(l), 1)) || a.Fault.Err == api.OK && a.Fault.At != 0 {
				t.Errorf("fault %v and %s come", a.Fault, toldShown(a.Shown))
			}
		}
	}
	for _, err := range []api.Errno{api.OK, api.ErrKind, api.ErrRange, api.ErrMuch, api.ErrMany, api.ErrName, api.ErrFit, api.ErrType} {
		if times[err] == 0 {
			t.Errorf("error %d never comes", err)
		}
	}
}

// endless has itself as a part.
func endless(kind, kids int) api.SExpr {
	l := make([]api.SExpr, kids)
	for i := range l {
		l[i] = api.SExpr{Kind: kind, Kids: l}
	}
	return l[0]
}

func TestZ1WhatHasNoEnd(t *testing.T) {
	for _, x := range []api.SExpr{endless(api.XNot, 1), endless(api.XAnd, 2), endless(api.XCase, 3), endless(api.XSum, 1)} {
		for _, into := range []func(l []api.Stmt){
			func(l []api.Stmt) { l[4].Query.Parts[0].Where = x },
			func(l []api.Stmt) { l[4].Query.Parts[0].Items[0].X = x },
			func(l []api.Stmt) { l[4] = api.Stmt{Kind: api.StDelete, Name: "t", HasWhere: true, Where: x} },
		} {
			for _, s := range []string{"show", "create view v as"} {
				l := read(t, shop+s+" select a from t where true;")
				into(l)
				checkFaultOf(t, s, l, api.ErrMuch, 4)
			}
		}
	}
}

// Fields that a kind has not mean nothing, not even if they have no end.
func TestZ5OtherFieldsMeanNothing(t *testing.T) {
	m := &maker{state: 15}
	for range 150 {
		l := m.some(t)
		want := told(answered(l))
		l = emptied(l, true)
		for i := range l {
			junkedStmt(&l[i])
		}
		if got := told(answered(l)); got != want {
			t.Errorf("%s\nwith junk: %s comes, not\n%s", printed(l), got, want)
		}
	}
}

// junkedStmt puts something into the fields that a statement has not.
func junkedStmt(s *api.Stmt) {
	x := endless(api.XSum, 1)
	if s.Kind == api.StShow {
		s.Name = "t"
	}
	if s.Kind != api.StTable {
		s.Cols = []api.Column{{Name: "a", Type: 99}, {Name: "a", Type: 99}}
	}
	if s.Kind != api.StInsert {
		s.Rows = make([][]api.Val, 999)
	}
	if s.Kind != api.StDelete {
		s.HasWhere = true
	}
	if s.Kind != api.StDelete || !s.HasWhere {
		s.Where = x
	}
	if s.Kind != api.StView && s.Kind != api.StShow {
		s.Query = api.Query{Parts: make([]api.Select, 99), Limit: 999, Order: []api.SExpr{x}}
		return
	}
	if s.Query.Limit < 0 {
		s.Query.Limit, s.Query.Order = -7, []api.SExpr{x}
	}
	for i := range s.Query.Parts {
		part := &s.Query.Parts[i]
		part.From[0].On = x
		if part.Star {
			part.Items = []api.Item{{X: x, As: "1"}}
		}
		if !part.HasWhere {
			part.Where = x
		}
		if !part.HasHaving {
			part.Having = x
		}
	}
}
