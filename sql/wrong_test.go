package sql

import (
	"math"
	"slices"
	"strings"
	"testing"

	"tidemark/api"
)

const long = "abcdefghijklm"

// checkEach tells what is wrong with a statement, alone and behind others.
func checkEach(t *testing.T, what string, s api.Stmt, err api.Errno) {
	t.Helper()
	right := api.Stmt{Kind: api.StDelete, Name: "t"}
	if err == api.OK {
		for _, l := range [][]api.Stmt{{s}, {right, s, right}} {
			if f := Wrong(l); f != (api.Fault{}) {
				t.Errorf("%s: Wrong tells %v", what, f)
			}
		}
		return
	}
	checkWrong(t, what, stmts(s), api.Fault{Err: err})
	checkWrong(t, what+", behind others", stmts(right, right, s, api.Stmt{}), api.Fault{Err: err, At: 2})
}

func TestK5Statements(t *testing.T) {
	checkWrong(t, "too many", make([]api.Stmt, api.MaxStmts+1), api.Fault{Err: api.ErrMany})
	full := slices.Repeat(stmts(api.Stmt{Kind: api.StDelete, Name: "t"}), api.MaxStmts)
	if f := Wrong(full); f != (api.Fault{}) {
		t.Errorf("as many as may be: %v comes", f)
	}
	if f := Wrong(nil); f != (api.Fault{}) {
		t.Errorf("none: %v comes", f)
	}
	full[api.MaxStmts-1].Name = "1"
	checkWrong(t, "the last one", full, api.Fault{Err: api.ErrName, At: api.MaxStmts - 1})
	full[7].Kind = 9
	checkWrong(t, "the first one is told", full, api.Fault{Err: api.ErrKind, At: 7})
	for _, kind := range []int{math.MinInt, -1, 0, 6, math.MaxInt} {
		checkEach(t, "no kind, ahead of no name", api.Stmt{Kind: kind}, api.ErrKind)
	}
	for _, kind := range []int{api.StTable, api.StView, api.StInsert, api.StDelete} {
		for _, name := range []string{"", "1", "A", "select", long, " t"} {
			checkEach(t, "no name, ahead of all else", api.Stmt{Kind: kind, Name: name, HasWhere: true}, api.ErrName)
		}
	}
	for _, name := range []string{"", "1", "select", "t"} {
		checkEach(t, "a name that isn't asked for", api.Stmt{Kind: api.StShow, Name: name, Query: asked(all("t"))}, api.OK)
	}
}

func TestK5Tables(t *testing.T) {
	table := func(l ...api.Column) api.Stmt { return api.Stmt{Kind: api.StTable, Name: "t", Cols: l} }
	right := api.Column{Name: "a", Type: api.VInt}
	checkEach(t, "no columns", table(), api.ErrMany)
	checkEach(t, "as many columns as may be", table(slices.Repeat([]api.Column{right}, api.MaxCols)...), api.OK)
	checkEach(t, "too many columns", table(make([]api.Column, api.MaxCols+1)...), api.ErrMany)
	for _, kind := range []int{api.VBool, api.VInt, api.VText} {
		checkEach(t, "a type", table(right, api.Column{Name: "b", Type: kind}), api.OK)
	}
	for _, kind := range []int{math.MinInt, -1, 0, api.VNull, 5, math.MaxInt} {
		checkEach(t, "no type", table(right, api.Column{Name: "b", Type: kind}), api.ErrKind)
		checkEach(t, "no name ahead of no type", table(right, api.Column{Name: "B", Type: kind}), api.ErrName)
		checkEach(t, "the first column ahead of the second one", table(api.Column{Name: "b", Type: kind}, api.Column{}), api.ErrKind)
	}
	checkEach(t, "a name that is too long", table(api.Column{Name: long, Type: api.VInt}), api.ErrName)
}

func TestK5Inserts(t *testing.T) {
	insert := func(l ...[]api.Val) api.Stmt { return api.Stmt{Kind: api.StInsert, Name: "t", Rows: l} }
	wide := slices.Repeat([]api.Val{null}, api.MaxCols)
	checkEach(t, "no rows", insert(), api.ErrMany)
	checkEach(t, "too many rows", insert(make([][]api.Val, api.MaxRows+1)...), api.ErrMany)
	checkEach(t, "no values", insert(nil), api.ErrMany)
	checkEach(t, "no values, behind others", insert(wide, []api.Val{}), api.ErrMany)
	checkEach(t, "too many values", insert(wide, append(wide, api.Val{})), api.ErrMany)
	checkEach(t, "as much as may be", insert(slices.Repeat([][]api.Val{wide}, api.MaxRows)...), api.OK)
	for _, v := range []api.Val{null, yes, no, num(api.MaxInt), num(-api.MaxInt), text(""), text(strings.Repeat("'", api.MaxText)), {Kind: api.VNull, N: math.MinInt64, Text: strings.Repeat("a", 99)}} {
		checkEach(t, "a right value", insert([]api.Val{v}), api.OK)
	}
	for _, c := range []struct {
		v   api.Val
		err api.Errno
	}{
		{api.Val{}, api.ErrKind}, {api.Val{Kind: 5}, api.ErrKind}, {api.Val{Kind: -1}, api.ErrKind},
		{num(api.MaxInt + 1), api.ErrRange}, {num(-api.MaxInt - 1), api.ErrRange}, {num(math.MinInt64), api.ErrRange}, {api.Val{Kind: api.VBool, N: 2}, api.ErrRange}, {api.Val{Kind: api.VBool, N: -1}, api.ErrRange},
		{text(strings.Repeat("a", api.MaxText+1)), api.ErrMuch},
	} {
		checkEach(t, "a value", insert([]api.Val{yes, c.v}), c.err)
		checkEach(t, "a value, ahead of the next row", insert([]api.Val{yes, c.v}, nil), c.err)
		checkEach(t, "a value in an expression", where(made(api.XNot, lit(c.v))), c.err)
	}
}

func TestK5Deletes(t *testing.T) {
	checkEach(t, "nothing where there is something", api.Stmt{Kind: api.StDelete, Name: "t", HasWhere: true}, api.ErrKind)
	checkEach(t, "something that isn't there", api.Stmt{Kind: api.StDelete, Name: "t", Where: api.SExpr{Kind: 99}}, api.OK)
	checkEach(t, "something", where(col("a")), api.OK)
}

// altered is what becomes of something by a change.
func altered[T any](x T, change func(x *T)) T {
	change(&x)
	return x
}

func TestK5Queries(t *testing.T) {
	bad := api.SExpr{Kind: 99}
	query := func(change func(q *api.Query)) api.Query { return altered(asked(all("t"), all("u")), change) }
	for what, c := range map[string]struct {
		q   api.Query
		err api.Errno
	}{
		"right":                             {asked(all("t"), all("u")), api.OK},
		"none":                              {api.Query{Limit: -1}, api.ErrMany},
		"as many as may be":                 {asked(all("t"), all("t"), all("t"), all("t")), api.OK},
		"too many":                          {asked(slices.Repeat([]api.Select{all("t")}, api.MaxParts+1)...), api.ErrMany},
		"too few between":                   {query(func(q *api.Query) { q.Ops = nil }), api.ErrMany},
		"too many between":                  {query(func(q *api.Query) { q.Ops = []int{1, 1} }), api.ErrMany},
		"one between nothing":               {altered(asked(all("t")), func(q *api.Query) { q.Ops = []int{1} }), api.ErrMany},
		"too few between ahead of its kind": {altered(asked(all("t"), all("t"), all("t")), func(q *api.Query) { q.Ops = []int{9} }), api.ErrMany},
		"no order":                          {query(func(q *api.Query) { q.Limit = 0 }), api.ErrMany},
		"no order ahead of the limit":       {query(func(q *api.Query) { q.Limit = 51 }), api.ErrMany},
		"too much order":                    {query(func(q *api.Query) { q.Limit, q.Order = 5, slices.Repeat(these(bad), api.MaxCols+1) }), api.ErrMany},
		"as much order as may be":           {query(func(q *api.Query) { q.Limit, q.Order = 5, slices.Repeat(these(col("a")), api.MaxCols) }), api.OK},
		"order that isn't there":            {query(func(q *api.Query) { q.Order = slices.Repeat(these(bad), api.MaxCols+1) }), api.OK},
		"any limit below 0":                 {query(func(q *api.Query) { q.Limit = math.MinInt }), api.OK},
		"the greatest limit":                {query(func(q *api.Query) { q.Limit, q.Order = api.MaxTop, these(col("a")) }), api.OK},
		"a greater limit":                   {query(func(q *api.Query) { q.Limit, q.Order = api.MaxTop+1, these(col("a")) }), api.ErrRange},
		"the greatest number as a limit":    {query(func(q *api.Query) { q.Limit, q.Order = math.MaxInt, these(col("a")) }), api.ErrRange},
		"the limit ahead of selects":        {query(func(q *api.Query) { q.Limit, q.Order, q.Parts[0] = 51, these(bad), api.Select{} }), api.ErrRange},
		"no kind between":                   {query(func(q *api.Query) { q.Ops = []int{0} }), api.ErrKind},
		"no kind between, by one":           {query(func(q *api.Query) { q.Ops = []int{5} }), api.ErrKind},
		"the first select ahead of that":    {query(func(q *api.Query) { q.Ops, q.Parts[0].From = []int{0}, nil }), api.ErrMany},
		"that ahead of the second select":   {query(func(q *api.Query) { q.Ops, q.Parts[1].From = []int{0}, nil }), api.ErrKind},
		"the second select":                 {query(func(q *api.Query) { q.Parts[1].From = nil }), api.ErrMany},
		"order":                             {query(func(q *api.Query) { q.Limit, q.Order = 5, these(col("a"), bad) }), api.ErrKind},
		"order behind selects":              {query(func(q *api.Query) { q.Limit, q.Order, q.Parts[1].From = 5, these(bad), nil }), api.ErrMany},
	} {
		checkEach(t, what, show(c.q), c.err)
		checkEach(t, what+", of a view", api.Stmt{Kind: api.StView, Name: "v", Query: c.q}, c.err)
	}
	for _, op := range []int{api.SetUnionAll, api.SetUnion, api.SetExceptAll, api.SetExcept} {
		checkEach(t, "a kind between", show(query(func(q *api.Query) { q.Ops = []int{op} })), api.OK)
	}
}

func TestK5Selects(t *testing.T) {
	bad := api.SExpr{Kind: 99}
	many := func(x api.SExpr, n int) []api.SExpr { return slices.Repeat(these(x), n) }
	items := func(change func(s *api.Select)) api.Select { return altered(some(col("a"), col("b")), change) }
	star := func(change func(s *api.Select)) api.Select { return altered(all("t"), change) }
	for what, c := range map[string]struct {
		s   api.Select
		err api.Errno
	}{
		"no sources":                         {items(func(s *api.Select) { s.From = nil }), api.ErrMany},
		"no sources, with star":              {star(func(s *api.Select) { s.From = nil }), api.ErrMany},
		"too many sources":                   {star(func(s *api.Select) { s.From = make([]api.Source, api.MaxFrom+1) }), api.ErrMany},
		"too many sources ahead of items":    {items(func(s *api.Select) { s.From, s.Items[0].X = make([]api.Source, api.MaxFrom+1), bad }), api.ErrMany},
		"too many of group":                  {star(func(s *api.Select) { s.Group = many(bad, api.MaxCols+1) }), api.ErrMany},
		"too many of group ahead of items":   {items(func(s *api.Select) { s.Group, s.Items[0].X = many(bad, api.MaxCols+1), bad }), api.ErrMany},
		"as many of group as may be":         {star(func(s *api.Select) { s.Group = many(col("a"), api.MaxCols) }), api.OK},
		"no items":                           {items(func(s *api.Select) { s.Items = nil }), api.ErrMany},
		"no items ahead of sources":          {items(func(s *api.Select) { s.Items, s.From[0].Name = nil, "" }), api.ErrMany},
		"too many items":                     {some(many(bad, api.MaxCols+1)...), api.ErrMany},
		"as many items as may be":            {some(many(col("a"), api.MaxCols)...), api.OK},
		"items that aren't there":            {star(func(s *api.Select) { s.Items = some(many(bad, api.MaxCols+1)...).Items }), api.OK},
		"an item":                            {items(func(s *api.Select) { s.Items[1].X = bad }), api.ErrKind},
		"an item's name":                     {items(func(s *api.Select) { s.Items[0].As = "As" }), api.ErrName},
		"an item ahead of its name":          {items(func(s *api.Select) { s.Items[0] = api.Item{X: bad, As: "1"} }), api.ErrKind},
		"the first item's name":              {items(func(s *api.Select) { s.Items[0].As, s.Items[1].X = "1", bad }), api.ErrName},
		"an item with a name":                {items(func(s *api.Select) { s.Items[1].As = "b" }), api.OK},
		"an item ahead of sources":           {items(func(s *api.Select) { s.Items[1].X, s.From[0].Name = bad, "1" }), api.ErrKind},
		"an item's name ahead of sources":    {items(func(s *api.Select) { s.Items[1].As, s.From[0].Kind = "1", 9 }), api.ErrName},
		"a source ahead of where":            {star(func(s *api.Select) { s.From[0].Name, s.HasWhere, s.Where = "1", true, bad }), api.ErrName},
		"where":                              {star(func(s *api.Select) { s.HasWhere, s.Where = true, bad }), api.ErrKind},
		"where, ahead of group":              {star(func(s *api.Select) { s.HasWhere, s.Where, s.Group = true, col("A"), these(bad) }), api.ErrName},
		"where that isn't there":             {star(func(s *api.Select) { s.Where = bad }), api.OK},
		"group":                              {star(func(s *api.Select) { s.Group = these(col("a"), bad) }), api.ErrKind},
		"group ahead of having":              {star(func(s *api.Select) { s.Group, s.HasHaving, s.Having = these(col("A")), true, bad }), api.ErrName},
		"having":                             {star(func(s *api.Select) { s.HasHaving, s.Having = true, bad }), api.ErrKind},
		"having that isn't there":            {star(func(s *api.Select) { s.Having = bad }), api.OK},
		"distinct":                           {star(func(s *api.Select) { s.Distinct = true }), api.OK},
		"an aggregate wherever it may stand": {star(func(s *api.Select) { s.HasWhere, s.Where, s.Group = true, made(api.XRows), these(made(api.XRows)) }), api.OK},
	} {
		checkEach(t, what, show(asked(c.s)), c.err)
	}
}

func TestK5Sources(t *testing.T) {
	bad := api.SExpr{Kind: 99}
	on := lit(yes)
	for what, c := range map[string]struct {
		l   []api.Source
		err api.Errno
	}{
		"no kind":                             {[]api.Source{{Name: "t"}}, api.ErrKind},
		"joined to nothing":                   {[]api.Source{{Kind: api.FromJoin, Name: "t", On: on}}, api.ErrKind},
		"left of nothing":                     {[]api.Source{{Kind: api.FromLeft, Name: "t", On: on}}, api.ErrKind},
		"two first ones":                      {append(first("t"), first("u")...), api.ErrKind},
		"no kind of the second one":           {append(first("t"), api.Source{Name: "u", On: on}), api.ErrKind},
		"no kind of the second one, by one":   {append(first("t"), api.Source{Kind: 6, Name: "u", On: on}), api.ErrKind},
		"no kind ahead of no name":            {[]api.Source{{}}, api.ErrKind},
		"no name":                             {first(""), api.ErrName},
		"a kept word":                         {first("left"), api.ErrName},
		"no other name":                       {[]api.Source{{Kind: api.FromFirst, Name: "t", As: "T"}}, api.ErrName},
		"another name":                        {[]api.Source{{Kind: api.FromFirst, Name: "t", As: "x"}}, api.OK},
		"on of the first one":                 {[]api.Source{{Kind: api.FromFirst, Name: "t", On: bad}}, api.OK},
		"on":                                  {append(first("t"), api.Source{Kind: api.FromSemi, Name: "u", On: bad}), api.ErrKind},
		"no on":                               {append(first("t"), api.Source{Kind: api.FromJoin, Name: "u"}), api.ErrKind},
		"no name ahead of on":                 {append(first("t"), api.Source{Kind: api.FromSemi, Name: "U", On: bad}), api.ErrName},
		"no other name ahead of on":           {append(first("t"), api.Source{Kind: api.FromSemi, Name: "u", As: "1", On: bad}), api.ErrName},
		"on ahead of the next one":            {append(first("t"), api.Source{Kind: api.FromSemi, Name: "u", On: col("A")}, api.Source{}), api.ErrName},
		"the first one ahead of the next one": {append(first("T"), api.Source{}), api.ErrName},
		"each kind":                           {append(first("t"), api.Source{Kind: api.FromSemi, Name: "t", On: on}, api.Source{Kind: api.FromAnti, Name: "t", On: on}, api.Source{Kind: api.FromLeft, Name: "t", On: on}), api.OK},
		"one more kind":                       {append(first("t"), api.Source{Kind: api.FromJoin, Name: "t", On: on}), api.OK},
	} {
		checkEach(t, what, show(asked(api.Select{Star: true, From: c.l})), c.err)
		checkEach(t, what+", ahead of where", show(asked(api.Select{Star: true, From: c.l, HasWhere: c.err != api.OK})), c.err)
	}
}

// nots is x below so many more.
func nots(n int, x api.SExpr) api.SExpr {
	for range n {
		x = made(api.XNot, x)
	}
	return x
}

// ands is so many leaves, and one node less above them.
func ands(n int, leaf api.SExpr) api.SExpr {
	if n == 1 {
		return leaf
	}
	return made(api.XAnd, ands(n/2, leaf), ands(n-n/2, leaf))
}

func TestK5Expressions(t *testing.T) {
	a := col("a")
	for what, c := range map[string]struct {
		x   api.SExpr
		err api.Errno
	}{
		"no kind":                         {api.SExpr{}, api.ErrKind},
		"no kind, below 0":                {api.SExpr{Kind: -1}, api.ErrKind},
		"no kind, by one":                 {api.SExpr{Kind: api.XMax + 1}, api.ErrKind},
		"no kind ahead of its kids":       {api.SExpr{Kind: 99, Kids: make([]api.SExpr, 99)}, api.ErrKind},
		"as deep as may be":               {nots(api.MaxDeep-1, a), api.OK},
		"too deep":                        {nots(api.MaxDeep, a), api.ErrMuch},
		"too deep ahead of no kind":       {nots(api.MaxDeep, api.SExpr{}), api.ErrMuch},
		"no kind as deep as may be":       {nots(api.MaxDeep-1, api.SExpr{}), api.ErrKind},
		"as many as may be":               {nots(1, ands(api.MaxNodes/2, a)), api.OK},
		"too many":                        {nots(2, ands(api.MaxNodes/2, a)), api.ErrMuch},
		"too many ahead of no kind":       {made(api.XAnd, ands(api.MaxNodes/2, a), api.SExpr{}), api.ErrMuch},
		"no kind ahead of too many":       {made(api.XAnd, api.SExpr{}, ands(api.MaxNodes/2, a)), api.ErrKind},
		"a node ahead of its kids":        {made(api.XNot, api.SExpr{}, api.SExpr{}), api.ErrMany},
		"the first kid as a whole":        {made(api.XOr, made(api.XNot, col("A")), made(api.XNot)), api.ErrName},
		"kids that a value has not":       {api.SExpr{Kind: api.XLit, Kids: these(a)}, api.ErrMany},
		"kids that a column has not":      {api.SExpr{Kind: api.XCol, Kids: these(a)}, api.ErrMany},
		"a column without a name":         {api.SExpr{Kind: api.XCol}, api.ErrName},
		"a column with a kept word":       {col("count"), api.ErrName},
		"a column whose name is too long": {col(long), api.ErrName},
		"a column of what has no name":    {of("T", "a"), api.ErrName},
		"a column of a name":              {of("t", "a"), api.OK},
		"a column without a name, of one": {of("t", ""), api.ErrName},
		"fields that a value has not":     {api.SExpr{Kind: api.XLit, Val: yes, Tab: "1", Name: "1"}, api.OK},
		"fields that a column has not":    {api.SExpr{Kind: api.XCol, Name: "a", Val: api.Val{Kind: 99}}, api.OK},
		"fields that a node has not":      {api.SExpr{Kind: api.XNot, Val: api.Val{Kind: 99}, Tab: "1", Name: "1", Kids: these(a)}, api.OK},
		"an aggregate in an aggregate":    {made(api.XSum, made(api.XSum, made(api.XRows))), api.OK},
		"what has no type":                {made(api.XAdd, lit(yes), lit(text("a"))), api.OK},
	} {
		checkEach(t, what, where(c.x), c.err)
		checkEach(t, what+", in an item", show(asked(some(a, c.x))), c.err)
	}
}

func TestK5Kids(t *testing.T) {
	kids := map[int]int{api.XLit: 0, api.XCol: 0, api.XNot: 1, api.XIsNull: 1, api.XCase: 3, api.XRows: 0, api.XCount: 1, api.XSum: 1, api.XMin: 1, api.XMax: 1}
	for kind := api.XLit; kind <= api.XMax; kind++ {
		want, ok := kids[kind]
		if !ok {
			want = 2
		}
		for n := range 5 {
			x := api.SExpr{Kind: kind, Val: yes, Name: "a", Kids: slices.Repeat(these(col("a")), n)}
			err := api.ErrMany
			if n == want {
				err = api.OK
			}
			checkEach(t, "kids", where(x), err)
		}
	}
}

// Each expression has nodes of its own.
func TestK5NodesOfEach(t *testing.T) {
	x := nots(1, ands(api.MaxNodes/2, col("a")))
	checkEach(t, "two items", show(asked(some(x, x))), api.OK)
	s := some(x)
	s.HasWhere, s.Where, s.Group, s.HasHaving, s.Having = true, x, these(x, x), true, x
	q := asked(s, s)
	q.Order, q.Limit = these(x, x), 3
	checkEach(t, "all", show(q), api.OK)
	q.Order[1] = nots(1, x)
	checkEach(t, "the last one", show(q), api.ErrMuch)
}
