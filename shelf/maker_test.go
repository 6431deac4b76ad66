package shelf

// maker makes things that hang on its state alone.
type maker struct{ state uint64 }

// upTo is a number from 0 on, and less than n.
func (m *maker) upTo(n int) int {
	m.state = m.state*6364136223846793005 + 1442695040888963407
	return int(m.state>>33) % n
}

func pick[T any](m *maker, l ...T) T { return l[m.upTo(len(l))] }

// rows makes some of so many columns; few numbers, so that they meet, and now and then one of what is not known.
func (m *maker) rows(most, cols int) [][]int64 {
	var out [][]int64
	few := 2 + m.upTo(4)
	for range m.upTo(most + 1) {
		row := make([]int64, cols)
		for k := range row {
			row[k] = int64(m.upTo(few+1) - 1)
		}
		if cols == 3 && m.upTo(3) == 0 {
			row[2] = pick[int64](m, 9, 10, 11, 1000000000000000)
		}
		out = append(out, row)
	}
	return out
}
