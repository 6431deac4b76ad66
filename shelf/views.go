package shelf

// view is a name, and the query that it stands for.
type view struct{ name, query string }

// views are those that stand ready, by their names rising.
func views() []view {
	return []view{
		{"active", "select id from person semi join sale on person . id = sale . who"},
		{"bosses", "select a . id as id , b . id as boss from person as a join person as b on a . boss = b . id"},
		{"both", "select distinct a . who as who from sale as a semi join sale as b on a . who = b . who and b . what = 2 where a . what = 1"},
		{"buyers", "select distinct who from sale"},
		{"first", "select who , n from sale order by n , who limit 3"},
		{"idle", "select id from person anti join sale on person . id = sale . who"},
		{"known", "select who as p from sale union select id from person"},
		{"most", "select who , max ( n ) as m from sale group by who"},
		{"orphans", "select a . id as id from person as a left join person as b on a . boss = b . id where b . id is null"},
		{"popular", "select what , count ( * ) as k from sale group by what having count ( * ) > 1"},
		{"sizes", "select who , case when n < 10 then 'few' else 'many' end as size from sale"},
		{"sums", "select count ( * ) as k , sum ( n ) as s , min ( n ) as low , max ( n ) as high from sale"},
		{"totals", "select who , sum ( n ) as total from sale group by who"},
		{"without", "select id from person except select who from sale"},
	}
}
