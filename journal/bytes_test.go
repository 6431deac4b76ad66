package journal

import (
	"fmt"
	"math"
	"strings"
	"testing"

	"tidemark/api"
	"tidemark/sql"
)

// told is how a value is told, so that nil and an empty list are the same.
func told(x any) string { return fmt.Sprintf("%+v", x) }

// divided is the check sum as what is left when all bits, with what it begins with in front, are divided by x^16 + x^12 + x^5 + 1.
func divided(b string) uint16 {
	left := make([]byte, 0, 8*len(b)+16)
	for _, c := range []byte(b + "\x00\x00") {
		for i := 7; i >= 0; i-- {
			left = append(left, c>>i&1)
		}
	}
	for i, bit := range "0001110100001111" {
		left[i] ^= byte(bit - '0')
	}
	for i := range 8 * len(b) {
		if left[i] == 1 {
			left[i] ^= 1
			left[i+4] ^= 1
			left[i+11] ^= 1
			left[i+16] ^= 1
		}
	}
	out := uint16(0)
	for _, bit := range left[8*len(b):] {
		out = out<<1 | uint16(bit)
	}
	return out
}

// summed is a text with its length ahead and its check sum behind, whatever it is.
func summed(text string) string {
	out := string([]byte{byte(len(text) >> 8), byte(len(text))}) + text
	n := divided(out)
	return out + string([]byte{byte(n >> 8), byte(n)})
}

// insert is a statement that is written with so many bytes: at least 97.
func insert(t *testing.T, size int) api.Stmt {
	t.Helper()
	s := api.Stmt{Kind: api.StInsert, Name: "t"}
	text := func(n int) []api.Val { return []api.Val{{Kind: api.VText, Text: strings.Repeat("x", n)}} }
	left := size - len("insert into t values ;")
	for left > 0 {
		// A row is ` ( '` and its text and `' )`, and all but the last one have ` ,` behind.
		n := min(left, 69)
		if left > 69 && left < 80 {
			n = 40
		}
		s.Rows = append(s.Rows, text(n-9))
		if left == n {
			s.Rows[len(s.Rows)-1] = text(n - 7)
		}
		left -= n
	}
	if got, f := sql.Print([]api.Stmt{s}); f.Err != api.ErrMuch && len(got) != size {
		t.Fatalf("%d bytes are made, not %d: %v", len(got), size, f)
	}
	return s
}

func checkBytes(t *testing.T, want string, l ...api.Stmt) {
	t.Helper()
	got, f := Bytes(l)
	if f != (api.Fault{}) || string(got) != want {
		t.Errorf("%q and %v come, not %q", got, f, want)
	}
}

func checkFault(t *testing.T, err api.Errno, at int, l ...api.Stmt) {
	t.Helper()
	got, f := Bytes(l)
	if f != (api.Fault{Err: err, At: at}) || got != nil {
		t.Errorf("%d bytes and %v come, not error %d at %d", len(got), f, err, at)
	}
}

func TestP1CheckSum(t *testing.T) {
	for s, want := range map[string]uint16{"": 0x1D0F, "\x00": 0xCC9C, "\xff": 0xD26C, "A": 0x9479, "123456789": 0xE5CC} {
		if got := checkSum([]byte(s)); got != want || divided(s) != want {
			t.Errorf("%q: %x and %x come, not %x", s, got, divided(s), want)
		}
	}
	m := maker{state: 1}
	for range 2000 {
		b := make([]byte, m.upTo(50))
		for i := range b {
			b[i] = byte(m.upTo(256))
		}
		if got := checkSum(b); got != divided(string(b)) {
			t.Errorf("%x: %x comes, not %x", b, got, divided(string(b)))
		}
	}
}

func TestP1Records(t *testing.T) {
	table, show := "create table t ( a int ) ;", "show select * from t ;"
	for _, c := range []struct{ source, want string }{
		{table, "\x00\x1a" + table + "\xc3\xea"},
		{show, "\x00\x16" + show + "\xf9\xeb"},
		{"delete\nfrom t;", "\x00\x0fdelete from t ;\x2f\x34"},
		{"insert into t values ('it''s');", "\x00\x22insert into t values ( 'it''s' ) ;\xea\xac"},
		{"insert into t values ('\xff\x00\n');", "\x00\x20insert into t values ( '\xff\x00\n' ) ;\x51\xe2"},
		{table + show, "\x00\x1a" + table + "\xc3\xea\x00\x16" + show + "\xf9\xeb"},
		{show + show, "\x00\x16" + show + "\xf9\xeb\x00\x16" + show + "\xf9\xeb"},
		{"", ""},
	} {
		checkBytes(t, c.want, read(t, c.source)...)
	}
	// A statement of 26 bytes has a record of 30.
	if b, _ := Bytes(read(t, table)); len(b) != 30 {
		t.Errorf("%d bytes come", len(b))
	}
}

func TestP1EachKindAsItIsPrinted(t *testing.T) {
	m := maker{state: 2}
	kinds := map[int]int{}
	for range 2000 {
		l := m.statements(t, 4)
		want := ""
		for _, s := range l {
			kinds[s.Kind]++
			text, _ := sql.Print([]api.Stmt{s})
			want += summed(text)
		}
		checkBytes(t, want, l...)
	}
	for kind := api.StTable; kind <= api.StShow; kind++ {
		if kinds[kind] == 0 {
			t.Errorf("kind %d never comes", kind)
		}
	}
}

func TestP1LengthInTwoBytes(t *testing.T) {
	for _, n := range []int{97, 255, 256, 257, 511, 512, 3839, 3840, 3999, api.MaxSource} {
		b, f := Bytes([]api.Stmt{insert(t, n)})
		if f != (api.Fault{}) || len(b) != n+4 || int(b[0]) != n/256 || int(b[1]) != n%256 {
			t.Errorf("of %d bytes %d and %v come", n, len(b), f)
		}
		if len(b) == n+4 && string(b) != summed(string(b[2:n+2])) {
			t.Errorf("of %d bytes another check sum comes: %x", n, b[n+2:])
		}
	}
}

func TestP1WhatPrintSaysOfEachAlone(t *testing.T) {
	l := read(t, "create table t ( a int ) ;")
	right := l[0]
	wrongs := []struct {
		s   api.Stmt
		err api.Errno
	}{
		{api.Stmt{}, api.ErrKind},
		{api.Stmt{Kind: 6}, api.ErrKind},
		{api.Stmt{Kind: api.StDelete}, api.ErrName},
		{api.Stmt{Kind: api.StDelete, Name: "select"}, api.ErrName},
		{api.Stmt{Kind: api.StTable, Name: "t"}, api.ErrMany},
		{api.Stmt{Kind: api.StInsert, Name: "t"}, api.ErrMany},
		{api.Stmt{Kind: api.StInsert, Name: "t", Rows: [][]api.Val{{{Kind: api.VBool, N: 2}}}}, api.ErrRange},
		{api.Stmt{Kind: api.StInsert, Name: "t", Rows: [][]api.Val{{{Kind: api.VText, Text: strings.Repeat("x", 61)}}}}, api.ErrMuch},
		{api.Stmt{Kind: api.StShow}, api.ErrMany},
		{insert(t, api.MaxSource+1), api.ErrMuch},
	}
	for _, w := range wrongs {
		checkFault(t, w.err, 0, w.s)
		checkFault(t, w.err, 0, w.s, right)
		checkFault(t, w.err, 1, right, w.s)
		checkFault(t, w.err, 2, right, right, w.s, right)
		// The first one that is wrong is told, whatever the next one is.
		for _, other := range wrongs {
			checkFault(t, w.err, 1, right, w.s, other.s)
		}
	}
}

// What many statements are too much for together, they may be one by one.
func TestP1AloneIsNotTogether(t *testing.T) {
	one := read(t, "delete from t ;")[0]
	var l []api.Stmt
	want := ""
	for range 3 * api.MaxStmts {
		l = append(l, one)
		want += "\x00\x0fdelete from t ;\x2f\x34"
	}
	checkBytes(t, want, l...)
	checkFault(t, api.ErrKind, len(l), append(l, api.Stmt{})...)
	long := insert(t, api.MaxSource)
	if b, f := Bytes([]api.Stmt{long, long, long}); f != (api.Fault{}) || len(b) != 3*(api.MaxSource+4) {
		t.Errorf("%d bytes and %v come", len(b), f)
	}
}

// filling is statements whose records have just so many bytes: more than 4004.
func filling(t *testing.T, size int) []api.Stmt {
	t.Helper()
	var out []api.Stmt
	for size > api.MaxSource+4 {
		n := min(size-200, api.MaxSource+4)
		out = append(out, insert(t, n-4))
		size -= n
	}
	return append(out, insert(t, size-4))
}

func TestP1MaxLog(t *testing.T) {
	whole := filling(t, api.MaxLog)
	last := len(whole) - 1
	b, f := Bytes(whole)
	if f != (api.Fault{}) || len(b) != api.MaxLog {
		t.Fatalf("%d bytes and %v come", len(b), f)
	}
	more := read(t, "delete from t ;")[0]
	checkFault(t, api.ErrMuch, last+1, append(whole, more)...)
	checkFault(t, api.ErrMuch, last+1, append(whole, more, more)...)
	checkFault(t, api.ErrMuch, last, filling(t, api.MaxLog+1)...)
	// What Print says of a statement comes ahead of what the records have, and both ahead of the next statement.
	checkFault(t, api.ErrName, last+1, append(whole, api.Stmt{Kind: api.StDelete}, more)...)
	checkFault(t, api.ErrMuch, last+1, append(whole, more, api.Stmt{Kind: api.StDelete})...)
	checkFault(t, api.ErrMuch, last, append(filling(t, api.MaxLog+1), api.Stmt{})...)
	checkFault(t, api.ErrKind, 0, append([]api.Stmt{{}}, filling(t, api.MaxLog+1)...)...)
}

// Fields that a kind has not mean nothing.
func TestP1OtherFieldsMeanNothing(t *testing.T) {
	s := read(t, "delete from t ;")[0]
	s.Cols = []api.Column{{Name: "select", Type: 99}}
	s.Rows = [][]api.Val{nil, {{Kind: -1}}}
	s.Where = api.SExpr{Kind: 99}
	s.Query = api.Query{Ops: []int{99}, Limit: math.MaxInt}
	checkBytes(t, "\x00\x0fdelete from t ;\x2f\x34", s)
}
