package shelf

import (
	"cmp"
	"slices"
	"strconv"
	"strings"
	"testing"

	"tidemark/api"
	"tidemark/engine"
	"tidemark/sql"
	"tidemark/vals"
	"tidemark/zsets"
)

// bag is rows as they come, each as often as it stands there; what is not known is below 0.
type bag [][]api.Val

func num(n int64) api.Val {
	if n < 0 {
		return vals.Null()
	}
	return vals.Int(n)
}

func (b *bag) add(l ...int64) {
	var row []api.Val
	for _, n := range l {
		row = append(row, num(n))
	}
	*b = append(*b, row)
}

// set is the bag's rows with how often they are there, or each once.
func (b bag) set(once bool) []api.ZRow {
	var z []api.ZRow
	for _, row := range b {
		z = append(z, api.ZRow{Row: row, W: 1})
	}
	z, _ = zsets.Of(z)
	if once {
		z, _ = zsets.Distinct(z)
	}
	return z
}

// column is the numbers of a column, those of what is not known all the same.
func column(rows [][]int64, k int) []int64 {
	var out []int64
	for _, r := range rows {
		out = append(out, max(r[k], -1))
	}
	return out
}

// meets tells whether a number is known, and among others.
func meets(n int64, l []int64) bool { return n >= 0 && slices.Contains(l, n) }

// plainly is what a view shows, said once more, with loops.
func plainly(name string, sales, people [][]int64) []api.ZRow {
	switch name {
	case "active", "idle", "bosses", "orphans", "without", "known":
		return ofPeople(name, sales, people)
	case "most", "totals", "popular", "sums":
		return ofParts(name, sales)
	}
	return ofSales(name, sales)
}

func ofPeople(name string, sales, people [][]int64) []api.ZRow {
	var out bag
	buyers, ids := column(sales, 0), column(people, 0)
	for _, p := range people {
		id, boss := max(p[0], -1), p[1]
		bought := meets(id, buyers)
		switch {
		case name == "active" && bought, name == "idle" && !bought:
			out.add(id)
		case name == "orphans" && !meets(boss, ids):
			out.add(id)
		case name == "known", name == "without" && !slices.Contains(buyers, id):
			out.add(id)
		case name == "bosses":
			for _, b := range ids {
				if boss >= 0 && boss == b {
					out.add(id, b)
				}
			}
		}
	}
	if name == "known" {
		for _, n := range buyers {
			out.add(n)
		}
	}
	return out.set(name == "known" || name == "without")
}

func ofSales(name string, sales [][]int64) []api.ZRow {
	var out bag
	sorted := slices.Clone(sales)
	slices.SortFunc(sorted, func(a, b []int64) int { return cmp.Or(cmp.Compare(a[2], b[2]), cmp.Compare(a[0], b[0])) })
	for i, s := range sorted {
		twos := slices.ContainsFunc(sales, func(o []int64) bool { return o[0] == s[0] && o[1] == 2 })
		switch {
		case name == "buyers", name == "both" && s[1] == 1 && s[0] >= 0 && twos:
			out.add(s[0])
		case name == "first" && i < 3:
			out.add(s[0], s[2])
		case name == "sizes":
			size := "many"
			if s[2] >= 0 && s[2] < 10 {
				size = "few"
			}
			out = append(out, []api.Val{num(s[0]), {Kind: api.VText, Text: size}})
		}
	}
	return out.set(name == "buyers" || name == "both")
}

// ofParts goes part by part: those with one number in a column, or all.
func ofParts(name string, sales [][]int64) []api.ZRow {
	var out bag
	by := map[string]int{"most": 0, "totals": 0, "popular": 1}
	parts := map[int64][][]int64{}
	if name == "sums" {
		parts[0] = sales
	} else {
		for _, s := range sales {
			key := max(s[by[name]], -1)
			parts[key] = append(parts[key], s)
		}
	}
	for key, part := range parts {
		k, sum, low, high := added(part)
		switch {
		case name == "most":
			out.add(key, high)
		case name == "totals":
			out.add(key, sum)
		case name == "popular" && k > 1:
			out.add(key, k)
		case name == "sums":
			out.add(k, sum, low, high)
		}
	}
	return out.set(false)
}

// added is how many sales there are, and of the n that are known the sum, the least and the greatest, below 0 of none.
func added(sales [][]int64) (k, sum, low, high int64) {
	k, sum, low, high = int64(len(sales)), -1, -1, -1
	var known []int64
	for _, s := range sales {
		if s[2] >= 0 {
			known = append(known, s[2])
		}
	}
	if len(known) == 0 {
		return k, sum, low, high
	}
	sum = 0
	for _, n := range known {
		sum += n
	}
	if sum > api.MaxInt {
		sum = -1
	}
	return k, sum, slices.Min(known), slices.Max(known)
}

func TestLawPlainly(t *testing.T) {
	m := &maker{state: 1}
	for range 150 {
		sales, people := m.rows(12, 3), m.rows(9, 2)
		for _, name := range Names() {
			checkAsk(t, name, sales, people, toldRows(plainly(name, sales, people)))
		}
	}
}

// inserted is a statement as it is written, or nothing.
func inserted(into string, rows [][]int64) string {
	var out []string
	for _, r := range rows {
		var row []string
		for _, n := range r {
			s := "null"
			if n >= 0 {
				s = strconv.FormatInt(n, 10)
			}
			row = append(row, s)
		}
		out = append(out, "( "+strings.Join(row, " , ")+" )")
	}
	if len(out) == 0 {
		return ""
	}
	return "insert into " + into + " values " + strings.Join(out, " , ") + " ; "
}

// What is asked is what the statements show, as they are written; and a view is its query, whenever it is made.
func TestLawStatements(t *testing.T) {
	m := &maker{state: 2}
	const make2 = "create table sale ( who int , what int , n int ) ; create table person ( id int , boss int ) ; "
	for range 40 {
		sales, people := m.rows(12, 3), m.rows(9, 2)
		rows := inserted("sale", sales) + inserted("person", people)
		for _, name := range Names() {
			query, _ := Text(name)
			view := "create view v as " + query + " ; "
			for _, s := range []string{make2 + view + rows + "show select * from v ;", make2 + rows + view + "show select * from v ;", make2 + rows + "show " + query + " ;"} {
				l, f := sql.Read(s)
				shown, g := engine.Play(l)
				if f.Err != api.OK || g.Err != api.OK || len(shown) != 1 {
					t.Fatalf("%s: faults %v and %v", s, f, g)
				}
				checkAsk(t, name, sales, people, toldRows(shown[0].Rows))
			}
		}
	}
}

// Who there is has bought, or has not; and rows in another order are the same.
func TestLawParts(t *testing.T) {
	m := &maker{state: 3}
	for range 80 {
		sales, people := m.rows(12, 3), m.rows(9, 2)
		active, _ := Ask("active", sales, people)
		idle, _ := Ask("idle", sales, people)
		all, _ := Ask("idle", nil, people)
		if both, _ := zsets.Add(active, idle); toldRows(both) != toldRows(all) {
			t.Errorf("%s and %s are not %s", toldRows(active), toldRows(idle), toldRows(all))
		}
		without, _ := Ask("without", sales, people)
		buyers, _ := Ask("buyers", sales, people)
		known, _ := Ask("known", sales, people)
		if both, _ := zsets.Add(without, buyers); toldRows(both) != toldRows(known) {
			t.Errorf("%s and %s are not %s", toldRows(without), toldRows(buyers), toldRows(known))
		}
		turned, back := slices.Clone(sales), slices.Clone(people)
		slices.Reverse(turned)
		slices.Reverse(back)
		for _, name := range Names() {
			got, _ := Ask(name, sales, people)
			checkAsk(t, name, turned, back, toldRows(got))
		}
	}
}
