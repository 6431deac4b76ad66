package shelf

import (
	"fmt"
	"math"
	"slices"
	"strconv"
	"strings"
	"testing"

	"tidemark/api"
	"tidemark/sql"
)

// told is how a value is told, so that nil and an empty list are the same.
func told(x any) string { return fmt.Sprintf("%+v", x) }

// toldRows tells rows, such as `1 'few', 2 null *3`, with how often they are there.
func toldRows(l []api.ZRow) string {
	var rows []string
	for _, r := range l {
		var out []string
		for _, v := range r.Row {
			out = append(out, toldVal(v))
		}
		if r.W != 1 {
			out = append(out, "*"+strconv.FormatInt(r.W, 10))
		}
		rows = append(rows, strings.Join(out, " "))
	}
	return strings.Join(rows, ", ")
}

func toldVal(v api.Val) string {
	switch v {
	case api.Val{Kind: api.VNull}:
		return "null"
	case api.Val{Kind: api.VInt, N: v.N}:
		return strconv.FormatInt(v.N, 10)
	case api.Val{Kind: api.VText, Text: v.Text}:
		return "'" + v.Text + "'"
	}
	return told(v)
}

func checkAsk(t *testing.T, name string, sales, people [][]int64, want string) {
	t.Helper()
	got, err := Ask(name, sales, people)
	if err != api.OK || toldRows(got) != want {
		t.Errorf("%s of %v and %v: error %d and %s come, not %s", name, sales, people, err, toldRows(got), want)
	}
}

func checkErr(t *testing.T, name string, sales, people [][]int64, want api.Errno) {
	t.Helper()
	if got, err := Ask(name, sales, people); err != want || got != nil {
		t.Errorf("%.20q: error %d and %s come, not error %d", name, err, toldRows(got), want)
	}
}

// checkEvery tells whether one error comes of every view.
func checkEvery(t *testing.T, sales, people [][]int64, want api.Errno) {
	t.Helper()
	for _, name := range Names() {
		checkErr(t, name, sales, people, want)
	}
}

// rising are rows of so many columns, each with a number of its own, from one on.
func rising(from, rows, cols int) [][]int64 {
	var out [][]int64
	for i := range rows {
		row := make([]int64, cols)
		for k := range row {
			row[k] = int64(from + i)
		}
		out = append(out, row)
	}
	return out
}

// ones are rows that are all the same.
func ones(rows, cols int) [][]int64 {
	var out [][]int64
	for range rows {
		out = append(out, rising(1, 1, cols)[0])
	}
	return out
}

// shop is sales and people: of both there is one twice, and one of whom not all is known.
func shop() (sales, people [][]int64) {
	sales = [][]int64{{1, 1, 5}, {1, 2, 12}, {2, 1, 3}, {3, 3, 9}, {3, 3, 9}, {4, 2, -1}, {-1, 1, 10}}
	people = [][]int64{{1, 2}, {2, 9}, {5, 1}, {5, 1}, {6, -1}, {-1, 2}}
	return sales, people
}

func TestN1Names(t *testing.T) {
	want := "active bosses both buyers first idle known most orphans popular sizes sums totals without"
	if got := strings.Join(Names(), " "); got != want {
		t.Errorf("%s come, not %s", got, want)
	}
	if !slices.IsSorted(Names()) {
		t.Error("names don't rise")
	}
}

func TestN1Text(t *testing.T) {
	for _, c := range [][2]string{
		{"active", "select id from person semi join sale on person . id = sale . who"},
		{"bosses", "select a . id as id , b . id as boss from person as a join person as b on a . boss = b . id"},
		{"both", "select distinct a . who as who from sale as a semi join sale as b on a . who = b . who and b . what = 2 where a . what = 1"},
		{"buyers", "select distinct who from sale"},
		{"first", "select who , n from sale order by n , who limit 3"},
		{"idle", "select id from person anti join sale on person . id = sale . who"},
		{"known", "select who as p from sale union select id from person"},
		{"most", "select who , max ( n ) as m from sale group by who"},
		{"orphans", "select a . id as id from person as a left join person as b on a . boss = b . id where b . id is null"},
		{"popular", "select what , count ( * ) as k from sale group by what having count ( * ) > 1"},
		{"sizes", "select who , case when n < 10 then 'few' else 'many' end as size from sale"},
		{"sums", "select count ( * ) as k , sum ( n ) as s , min ( n ) as low , max ( n ) as high from sale"},
		{"totals", "select who , sum ( n ) as total from sale group by who"},
		{"without", "select id from person except select who from sale"},
	} {
		if got, err := Text(c[0]); err != api.OK || got != c[1] {
			t.Errorf("%s: error %d and %q come, not %q", c[0], err, got, c[1])
		}
	}
}

// A view's text is written as Print writes it.
func TestN1TextsAreQueries(t *testing.T) {
	for _, name := range Names() {
		text, _ := Text(name)
		l, f := sql.Read("show " + text + " ;")
		if f.Err != api.OK {
			t.Errorf("%s can't be read: %v", name, f)
			continue
		}
		if got, _ := sql.Print(l); got != "show "+text+" ;" {
			t.Errorf("%s: %s is printed", name, got)
		}
	}
}

func TestN1NoSuchName(t *testing.T) {
	wrong := []int64{api.MaxInt + 1}
	for _, name := range []string{"", "nobody", "Active", "active ", " active", "activ", "sale", "person", "v", "active\x00", "acti\xff", "select", strings.Repeat("sums", 9999)} {
		if got, err := Text(name); got != "" || err != api.ErrName {
			t.Errorf("%.20q: error %d and %q come", name, err, got)
		}
		checkErr(t, name, nil, nil, api.ErrName)
		checkErr(t, name, [][]int64{wrong}, [][]int64{nil}, api.ErrName)
	}
}

func TestN1AskOfAShop(t *testing.T) {
	sales, people := shop()
	for _, c := range [][2]string{
		{"active", "1, 2"},
		{"bosses", "null 2, 1 2, 5 1 *2"},
		{"both", "1"},
		{"buyers", "null, 1, 2, 3, 4"},
		{"first", "1 5, 2 3, 4 null"},
		{"idle", "null, 5 *2, 6"},
		{"known", "null, 1, 2, 3, 4, 5, 6"},
		{"most", "null 10, 1 12, 2 3, 3 9, 4 null"},
		{"orphans", "2, 6"},
		{"popular", "1 3, 2 2, 3 2"},
		{"sizes", "null 'many', 1 'few', 1 'many', 2 'few', 3 'few' *2, 4 'many'"},
		{"sums", "7 48 3 12"},
		{"totals", "null 10, 1 17, 2 3, 3 18, 4 null"},
		{"without", "5, 6"},
	} {
		checkAsk(t, c[0], sales, people, c[1])
	}
}

func TestN1AskOfNothing(t *testing.T) {
	sales, people := shop()
	for _, name := range Names() {
		want := ""
		if name == "sums" {
			want = "0 null null null"
		}
		checkAsk(t, name, nil, nil, want)
		checkAsk(t, name, [][]int64{}, [][]int64{}, want)
	}
	checkAsk(t, "idle", nil, people, "null, 1, 2, 5 *2, 6")
	checkAsk(t, "without", nil, people, "null, 1, 2, 5, 6")
	checkAsk(t, "known", nil, people, "null, 1, 2, 5, 6")
	checkAsk(t, "known", sales, nil, "null, 1, 2, 3, 4")
	checkAsk(t, "orphans", sales, nil, "")
	checkAsk(t, "active", sales, nil, "")
}

// Who buys twice is one buyer.
func TestN1BuysTwice(t *testing.T) {
	checkAsk(t, "buyers", [][]int64{{7, 1, 1}, {7, 2, 1}}, nil, "7")
	checkAsk(t, "both", [][]int64{{7, 1, 1}, {7, 2, 1}, {7, 2, 3}, {7, 1, 3}}, nil, "7")
	checkAsk(t, "both", [][]int64{{7, 1, 1}, {8, 2, 1}}, nil, "")
}

// Just what is below 0 is not known.
func TestN1NotKnown(t *testing.T) {
	for _, n := range []int64{-1, -2, -api.MaxInt, -api.MaxInt - 1, math.MinInt64} {
		checkAsk(t, "buyers", [][]int64{{n, n, n}}, nil, "null")
		checkAsk(t, "sums", [][]int64{{n, n, n}}, nil, "1 null null null")
		checkAsk(t, "popular", [][]int64{{1, n, n}, {2, n, n}}, nil, "null 2")
		checkAsk(t, "without", nil, [][]int64{{n, n}}, "null")
		checkAsk(t, "bosses", nil, [][]int64{{n, n}}, "")
		checkAsk(t, "active", [][]int64{{n, 1, 1}}, [][]int64{{n, 1}}, "")
		checkAsk(t, "orphans", nil, [][]int64{{n, 1}, {1, n}}, "1")
	}
	checkAsk(t, "sums", [][]int64{{0, 0, 0}}, nil, "1 0 0 0")
	checkAsk(t, "bosses", nil, [][]int64{{0, 0}}, "0 0")
	checkAsk(t, "buyers", [][]int64{{api.MaxInt, 0, 0}}, nil, "1000000000000000")
	checkAsk(t, "sums", [][]int64{{0, 0, api.MaxInt}, {0, 0, 1}}, nil, "2 null 1 1000000000000000")
}

func TestN1RowsThatDontFit(t *testing.T) {
	sales, people := shop()
	for _, n := range []int{1, 2, 4, api.MaxCols} {
		checkEvery(t, rising(1, 1, n), people, api.ErrFit)
		checkEvery(t, append(sales, make([]int64, n)), nil, api.ErrFit)
	}
	for _, n := range []int{1, 3, api.MaxCols} {
		checkEvery(t, sales, rising(1, 1, n), api.ErrFit)
		checkEvery(t, nil, append(people, make([]int64, n)), api.ErrFit)
	}
	checkEvery(t, people, sales, api.ErrFit)
}

func TestN1StatementsThatAreWrong(t *testing.T) {
	sales, people := shop()
	for _, n := range []int64{api.MaxInt + 1, math.MaxInt64} {
		checkEvery(t, append(sales, []int64{1, 2, n}), people, api.ErrRange)
		checkEvery(t, nil, append(people, []int64{n, 1}), api.ErrRange)
	}
	for _, n := range []int{0, api.MaxCols + 1, 99} {
		checkEvery(t, append(sales, make([]int64, n)), nil, api.ErrMany)
		checkEvery(t, sales, append(people, make([]int64, n)), api.ErrMany)
	}
	checkEvery(t, ones(api.MaxRows+1, 3), nil, api.ErrMany)
	checkEvery(t, nil, ones(api.MaxRows+1, 2), api.ErrMany)
	checkAsk(t, "sums", ones(api.MaxRows, 3), ones(api.MaxRows, 2), "400 400 1 1")
	checkAsk(t, "bosses", ones(api.MaxRows, 3), ones(api.MaxRows, 2), "1 1 *160000")
	checkAsk(t, "active", rising(1, api.MaxRows, 3), ones(api.MaxRows, 2), "1 *400")
}

// What is wrong with the statements is told ahead of what comes when they play, and sales ahead of people.
func TestN1WhichErrorIsTold(t *testing.T) {
	short, empty, large := []int64{1}, []int64{}, []int64{api.MaxInt + 1}
	checkEvery(t, [][]int64{short}, [][]int64{large}, api.ErrRange)
	checkEvery(t, [][]int64{short}, [][]int64{empty}, api.ErrMany)
	checkEvery(t, [][]int64{short, large}, nil, api.ErrRange)
	checkEvery(t, [][]int64{large, empty}, nil, api.ErrRange)
	checkEvery(t, [][]int64{empty, large}, nil, api.ErrMany)
	checkEvery(t, [][]int64{large}, [][]int64{empty}, api.ErrRange)
	checkEvery(t, [][]int64{empty}, [][]int64{large}, api.ErrMany)
	checkEvery(t, append(ones(api.MaxRows, 3), large), nil, api.ErrMany)
}

// A view that becomes too large is told.
func TestN1TooLarge(t *testing.T) {
	half := api.MaxRows / 2
	checkErr(t, "known", rising(1, api.MaxRows, 3), [][]int64{{api.MaxRows + 1, 1}}, api.ErrMany)
	checkErr(t, "known", rising(1, half, 3), rising(half+1, half+1, 2), api.ErrMany)
	if got, err := Ask("known", rising(1, half, 3), rising(half+1, half, 2)); err != api.OK || len(got) != api.MaxRows {
		t.Errorf("error %d and %d rows come", err, len(got))
	}
	var people [][]int64
	for i := range 21 {
		people = append(people, []int64{int64(i), 1}, []int64{1, int64(i)})
	}
	checkErr(t, "bosses", nil, people, api.ErrMany)
	checkErr(t, "orphans", nil, people, api.ErrMany)
	checkAsk(t, "buyers", nil, people, "")
}
