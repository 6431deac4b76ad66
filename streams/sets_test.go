package streams

import (
	"fmt"
	"slices"
	"strings"
	"testing"

	"tidemark/api"
	"tidemark/zsets"
)

type rows = []api.ZRow

const (
	integer = api.VInt
	texts   = api.VText
	most    = api.MaxWeight
	longest = api.MaxChanges
)

var null = api.Val{Kind: api.VNull}

func num(n int64) api.Val   { return api.Val{Kind: integer, N: n} }
func text(s string) api.Val { return api.Val{Kind: texts, Text: s} }

func row(w int64, l ...api.Val) api.ZRow { return api.ZRow{Row: l, W: w} }

// set is rows of one number each: a number and its weight, and so on.
func set(l ...int64) rows {
	var out rows
	for i := 0; i < len(l); i += 2 {
		out = append(out, row(l[i+1], num(l[i])))
	}
	return out
}

// run is so many rows, each once, with the numbers from first on.
func run(first, n int64) rows {
	var out rows
	for i := range n {
		out = append(out, row(1, num(first+i)))
	}
	return out
}

// told is a stream as a text, in which nil and a list without entries are the same.
func told(l []rows) string {
	var out strings.Builder
	for _, z := range l {
		out.WriteString("[")
		for _, r := range z {
			for _, v := range r.Row {
				fmt.Fprintf(&out, "{%d %d %q} ", v.Kind, v.N, v.Text)
			}
			fmt.Fprintf(&out, "times %d; ", r.W)
		}
		out.WriteString("] ")
	}
	return out.String()
}

func check(t *testing.T, what string, got []rows, f api.Fault, want ...rows) {
	t.Helper()
	if f != (api.Fault{}) || told(got) != told(want) {
		t.Errorf("%s: fault %v and %s come, not %s", what, f, told(got), told(want))
	}
}

func checkFault(t *testing.T, what string, got []rows, f api.Fault, err api.Errno, at int) {
	t.Helper()
	if want := (api.Fault{Err: err, At: at}); f != want || got != nil {
		t.Errorf("%s: fault %v and %s come, not fault %v alone", what, f, told(got), want)
	}
}

// way is one of the functions of sets alone.
type way struct {
	name string
	call func(l []rows) ([]rows, api.Fault)
}

func ways() []way {
	return []way{{"Integrate", Integrate}, {"Differentiate", Differentiate}, {"Delay", Delay}}
}

func TestH1SetBySet(t *testing.T) {
	for _, c := range []struct {
		what                string
		l, sum, less, ahead []rows
	}{
		{what: "nothing"},
		{"one set", []rows{set(1, 2)}, []rows{set(1, 2)}, []rows{set(1, 2)}, []rows{nil}},
		{"an empty one", []rows{nil}, []rows{nil}, []rows{nil}, []rows{nil}},
		{"a row, and the same twice more", []rows{set(1, 1), set(1, 2)}, []rows{set(1, 1), set(1, 3)}, []rows{set(1, 1), set(1, 1)}, []rows{nil, set(1, 1)}},
		{"a row that goes", []rows{set(1, 1, 2, 3), set(1, -1)}, []rows{set(1, 1, 2, 3), set(2, 3)}, []rows{set(1, 1, 2, 3), set(1, -2, 2, -3)}, []rows{nil, set(1, 1, 2, 3)}},
		{"the same ones", []rows{set(1, 2), set(1, 2), set(1, 2)}, []rows{set(1, 2), set(1, 4), set(1, 6)}, []rows{set(1, 2), nil, nil}, []rows{nil, set(1, 2), set(1, 2)}},
		{"with an empty one between", []rows{set(1, 5), nil, set(2, 1)}, []rows{set(1, 5), set(1, 5), set(1, 5, 2, 1)}, []rows{set(1, 5), set(1, -5), set(2, 1)}, []rows{nil, set(1, 5), nil}},
		{"less than nothing", []rows{set(1, -2), set(1, 5)}, []rows{set(1, -2), set(1, 3)}, []rows{set(1, -2), set(1, 7)}, []rows{nil, set(1, -2)}},
		{"the row without values", []rows{{row(1)}, {row(2)}}, []rows{{row(1)}, {row(3)}}, []rows{{row(1)}, {row(1)}}, []rows{nil, {row(1)}}},
		{"rows of other lengths and kinds", []rows{{row(1, num(1))}, {row(1, null), row(1, num(1), text("a"))}}, []rows{{row(1, num(1))}, {row(1, null), row(1, num(1)), row(1, num(1), text("a"))}}, []rows{{row(1, num(1))}, {row(1, null), row(-1, num(1)), row(1, num(1), text("a"))}}, []rows{nil, {row(1, num(1))}}},
	} {
		for i, want := range [][]rows{c.sum, c.less, c.ahead} {
			w := ways()[i]
			got, f := w.call(c.l)
			check(t, w.name+" of "+c.what, got, f, want...)
		}
	}
}

func TestH1HowMany(t *testing.T) {
	ones := slices.Repeat([]rows{set(1, 1)}, longest+1)
	var sums []rows
	for i := range int64(longest) {
		sums = append(sums, set(1, i+1))
	}
	wants := [][]rows{sums, append([]rows{set(1, 1)}, make([]rows, longest-1)...), append([]rows{nil}, ones[:longest-1]...)}
	for i, w := range ways() {
		got, f := w.call(ones[:longest])
		check(t, w.name+" of as many as may be", got, f, wants[i]...)
		heavy := slices.Repeat([]rows{set(1, most), set(1, -most)}, longest)
		wrong := slices.Repeat([]rows{set(1, 0)}, longest+1)
		for _, l := range [][]rows{ones, heavy, wrong, make([]rows, longest+1), slices.Repeat(ones, 9)} {
			got, f = w.call(l)
			checkFault(t, w.name+" of one too many", got, f, api.ErrMany, 0)
		}
		got, f = w.call(append(slices.Clone(ones[:longest-1]), set(1, 0)))
		checkFault(t, w.name+", the last one that may be", got, f, api.ErrRange, longest-1)
	}
}

type lie struct {
	what string
	z    rows
	want api.Errno
}

func lies() []lie {
	return []lie{
		{"a row too many", run(0, api.MaxRows+1), api.ErrMany},
		{"a value too many", rows{row(1, slices.Repeat([]api.Val{null}, api.MaxCols+1)...)}, api.ErrMany},
		{"no kind", rows{row(1, api.Val{})}, api.ErrKind},
		{"no truth", rows{row(1, api.Val{Kind: api.VBool, N: 2})}, api.ErrRange},
		{"a number too large", rows{row(1, num(api.MaxInt+1))}, api.ErrRange},
		{"a text too long", rows{row(1, text(strings.Repeat("a", api.MaxText+1)))}, api.ErrMuch},
		{"no weight", set(1, 0), api.ErrRange},
		{"too much weight", set(1, most+1), api.ErrRange},
		{"too little weight", set(1, -most-1), api.ErrRange},
		{"a row twice", set(1, 1, 1, 1), api.ErrForm},
		{"rows that fall", set(2, 1, 1, 1), api.ErrForm},
		{"what is not known last", rows{row(1, num(1)), row(1, null)}, api.ErrForm},
	}
}

// What is wrong is told of the first set of which something is, also of the last one, which Delay leaves out.
func TestH1WrongSets(t *testing.T) {
	for _, w := range ways() {
		for i, c := range lies() {
			for ahead := range 4 {
				l := append(slices.Repeat([]rows{set(1, 1)}, ahead), c.z)
				got, f := w.call(l)
				checkFault(t, w.name+" of "+c.what, got, f, c.want, ahead)
				other := lies()[(i+1)%len(lies())].z
				got, f = w.call(append(l, set(1, 1), other))
				checkFault(t, w.name+" of "+c.what+", and more behind it", got, f, c.want, ahead)
			}
			for _, large := range [][]rows{{set(1, most), set(1, most)}, {set(1, most), set(1, -most)}, {run(0, 400), run(400, 400)}} {
				got, f := w.call(append(slices.Clone(large), c.z))
				checkFault(t, w.name+" of what becomes too large ahead of "+c.what, got, f, c.want, 2)
			}
		}
	}
}

func TestH1TooLarge(t *testing.T) {
	const half = most / 2
	for _, c := range []struct {
		w    way
		what string
		l    []rows
		want api.Errno
		at   int
	}{
		{ways()[0], "too heavy", []rows{set(1, most), set(1, 1)}, api.ErrRange, 1},
		{ways()[0], "too light", []rows{set(1, -most), nil, set(1, -1)}, api.ErrRange, 2},
		{ways()[0], "too heavy at last", []rows{set(1, half), set(1, -1), set(1, half), set(1, 2)}, api.ErrRange, 3},
		{ways()[0], "too heavy for a while", []rows{set(1, most), set(1, 1), set(1, -1)}, api.ErrRange, 1},
		{ways()[0], "a row too many", []rows{run(0, 400), nil, run(400, 1)}, api.ErrMany, 2},
		{ways()[0], "too heavy, and a row too many", []rows{append(set(-1, most), run(0, 399)...), set(-1, 1, 400, 1)}, api.ErrRange, 1},
		{ways()[0], "a row too many, then too heavy", []rows{append(set(-1, most), run(0, 399)...), set(400, 1), set(-1, 1)}, api.ErrMany, 1},
		{ways()[1], "from below to above", []rows{set(1, -1), set(1, most)}, api.ErrRange, 1},
		{ways()[1], "from above to below", []rows{nil, set(1, most), set(1, -1)}, api.ErrRange, 2},
		{ways()[1], "other rows", []rows{run(0, 400), run(0, 400), run(400, 1)}, api.ErrMany, 2},
		{ways()[1], "the first one of two", []rows{set(1, most), set(1, -1), set(1, most)}, api.ErrRange, 1},
	} {
		got, f := c.w.call(c.l)
		checkFault(t, c.w.name+": "+c.what, got, f, c.want, c.at)
	}
}

// What may just be is no error.
func TestH1AsLargeAsMayBe(t *testing.T) {
	const half = most / 2
	got, f := Integrate([]rows{set(1, half), set(1, half), set(1, -most), set(1, -most), set(1, most)})
	check(t, "up and down", got, f, set(1, half), set(1, most), nil, set(1, -most), nil)
	got, f = Integrate([]rows{run(0, 200), run(200, 200), set(0, -1, 400, 1), run(1, 399)})
	twice := run(1, 400)
	for i := range 399 {
		twice[i].W = 2
	}
	check(t, "full", got, f, run(0, 200), run(0, 400), run(1, 400), twice)
	got, f = Differentiate([]rows{set(1, most), set(1, most), nil, set(1, -most), set(1, -most), set(1, -1), set(1, most-1)})
	check(t, "steps", got, f, set(1, most), nil, set(1, -most), set(1, -most), nil, set(1, most-1), set(1, most))
	got, f = Differentiate([]rows{run(0, 200), run(200, 200)})
	want := run(0, 400)
	for i := range 200 {
		want[i].W = -1
	}
	check(t, "other rows", got, f, run(0, 200), want)
	got, f = Delay([]rows{set(1, most), set(1, -most), run(0, 400), run(400, 400), set(1, 1)})
	check(t, "delayed", got, f, nil, set(1, most), set(1, -most), run(0, 400), run(400, 400))
}

// maker makes streams and plans, the same ones in each run.
type maker struct{ state uint32 }

func (m *maker) upTo(n int) int {
	m.state = m.state*1664525 + 1013904223
	return int(m.state>>16) % n
}

func (m *maker) set(cols []int) rows {
	var l rows
	for range m.upTo(5) {
		r := row([]int64{-2, -1, -1, 1, 1, 2, 3, 5000}[m.upTo(8)])
		for _, kind := range cols {
			v := []api.Val{null, num(int64(m.upTo(4))), num(int64(m.upTo(4)))}[m.upTo(3)]
			if kind == texts && v.Kind == integer {
				v = text([]string{"", "a", "b", "ab"}[v.N])
			}
			r.Row = append(r.Row, v)
		}
		l = append(l, r)
	}
	z, _ := zsets.Of(l)
	return z
}

func (m *maker) stream(cols []int) []rows {
	var out []rows
	for range m.upTo(7) {
		out = append(out, m.set(cols))
	}
	return out
}

// pairwise is what f tells of two streams, set by set.
func pairwise(f func(a, b []api.ZRow) ([]api.ZRow, api.Errno), a, b []rows) []rows {
	var out []rows
	for i := range a {
		z, _ := f(a[i], b[i])
		out = append(out, z)
	}
	return out
}

// Added up and told apart are each other turned round.
func TestH1Laws(t *testing.T) {
	m := maker{state: 5}
	for range 5000 {
		l := m.stream([]int{integer, texts})
		sum, f := Integrate(l)
		var plainly []rows
		for i := range l {
			z, _ := zsets.Of(slices.Concat(l[:i+1]...))
			plainly = append(plainly, z)
		}
		check(t, "all up to each one at once", sum, f, plainly...)
		less, f := Differentiate(l)
		check(t, "added up and told apart", must(Differentiate(sum)), f, l...)
		check(t, "told apart and added up", must(Integrate(less)), f, l...)
		ahead, f := Delay(l)
		check(t, "a set and all ahead of it", pairwise(zsets.Add, l, must(Delay(sum))), f, sum...)
		check(t, "a set less the one ahead", pairwise(zsets.Sub, l, ahead), f, less...)
		for _, w := range ways() {
			check(t, w.name+" late", must(w.call(ahead)), f, must(Delay(must(w.call(l))))...)
			doubled := must(w.call(pairwise(zsets.Add, l, l)))
			once := must(w.call(l))
			check(t, w.name+" of twice as much", doubled, f, pairwise(zsets.Add, once, once)...)
		}
	}
}

// must is what comes where no fault may.
func must(l []rows, f api.Fault) []rows {
	if f != (api.Fault{}) {
		return []rows{{row(int64(f.Err), text("fault"), num(int64(f.At)))}}
	}
	return l
}
