package journal

import (
	"strings"
	"testing"

	"tidemark/api"
)

// checkRecover tells whether b begins with the records of these statements, and ends with them or with something else.
func checkRecover(t *testing.T, b string, n int, want []api.Stmt) {
	t.Helper()
	got, size, err := Recover([]byte(b))
	if err != api.OK || size != n || told(got) != told(want) {
		t.Errorf("of %q error %d, %d bytes and\n%s come, not %d and\n%s", b, err, size, told(got), n, told(want))
	}
}

// journal is four statements, their records, and how many bytes those have up to each of them.
func journal(t *testing.T) (l []api.Stmt, b string, ends []int) {
	t.Helper()
	for _, s := range []string{"create table t ( a int , b text ) ;", "insert into t values ( 1 , 'x' ) , ( - 2 , 'it''s\x00' ) ;", "create view v as select a + 1 as n from t where not b is null ;", "show select * from v order by n limit 3 ;"} {
		l = append(l, read(t, s)...)
		b += summed(s)
		ends = append(ends, len(b))
	}
	return l, b, ends
}

// before is how many of these records end at a byte or ahead of it, and where the last one of them ends.
func before(ends []int, at int) (n, end int) {
	for n < len(ends) && ends[n] <= at {
		end = ends[n]
		n++
	}
	return n, end
}

func TestP2Records(t *testing.T) {
	l, b, ends := journal(t)
	for i, end := range ends {
		checkRecover(t, b[:end], end, l[:i+1])
	}
	checkRecover(t, "", 0, nil)
	show := "\x00\x16show select * from t ;\xf9\xeb"
	checkRecover(t, show+show, 52, read(t, "show select * from t ; show select * from t ;"))
}

// A torn end loses the end alone.
func TestP2TornEnd(t *testing.T) {
	l, b, ends := journal(t)
	for k := range len(b) + 1 {
		n, end := before(ends, k)
		checkRecover(t, b[:k], end, l[:n])
		// What stands in the spare room is not looked at.
		got, size, err := Recover([]byte(b)[:k])
		if err != api.OK || size != end || told(got) != told(l[:n]) {
			t.Errorf("of %d bytes with others behind, %d statements of %d bytes come", k, len(got), size)
		}
	}
}

func TestP2OneBitIsWrong(t *testing.T) {
	l, b, ends := journal(t)
	for k := range len(b) {
		n, end := before(ends, k)
		for bit := range 8 {
			c := []byte(b)
			c[k] ^= 1 << bit
			checkRecover(t, string(c), end, l[:n])
		}
	}
}

// A check sum of something else, or another one, is none.
func TestP2OtherCheckSums(t *testing.T) {
	text := "delete from t ;"
	right := summed(text)
	checkRecover(t, right, len(right), read(t, text))
	size, end := right[:2], len(right)-2
	reckoned := func(sum uint16, b string) string {
		for _, c := range []byte(b) {
			for i := 7; i >= 0; i-- {
				top := sum>>15 ^ uint16(c>>i&1)
				sum = sum<<1 ^ 0x1021*top
			}
		}
		return string([]byte{byte(sum >> 8), byte(sum)})
	}
	if reckoned(0x1D0F, right[:end]) != right[end:] {
		t.Error("the check sum is not reckoned so")
	}
	for _, sum := range []string{reckoned(0xFFFF, right[:end]), reckoned(0, right[:end]), reckoned(0x1D0F, text), string([]byte{right[end+1], right[end]}), "\x00\x00", "\xff\xff"} {
		checkRecover(t, size+text+sum, 0, nil)
		checkRecover(t, right+size+text+sum+right, len(right), read(t, text))
	}
	// The low byte of the length first.
	turned := "\x0f\x00" + text
	checkRecover(t, turned+reckoned(0x1D0F, turned), 0, nil)
}

// A text with a right check sum that is not what Print writes of one statement makes no record.
func TestP2OtherTexts(t *testing.T) {
	first := "create table t ( a int ) ;"
	long := "insert into t values ( '" + strings.Repeat("x", 59) + "' )"
	for _, text := range []string{
		"",
		" ",
		";",
		"delete from t",
		" delete from t ;",
		"delete from t ; ",
		"delete from t ;\n",
		"delete  from t ;",
		"delete\tfrom t ;",
		"delete from t;",
		"delete from t ; delete from t ;",
		"delete from t ; delete from t",
		"delete from t ; ;",
		"delete from t ;\x00",
		"Delete from t ;",
		"delete from t where ( a ) ;",
		"delete from t where ( a = 1 ) and b ;",
		"delete from t where a is not null ;",
		"delete from t where a = 01 ;",
		"delete from t where a = -1 ;",
		"delete from t where a = - 0 ;",
		"delete from t where a = 'x ;",
		"delete from t where a = 1000000000000001 ;",
		"delete from select ;",
		"show select a from t limit 1 ;",
		"show select a from t order by a limit 51 ;",
		"show select a.b from t ;",
		"delete from t where " + strings.Repeat("not ", 20) + "a ;",
		long + strings.Repeat(" , ( 1 )", 490) + " ;",
	} {
		checkRecover(t, summed(text), 0, nil)
		checkRecover(t, summed(first)+summed(text), 30, read(t, first))
		// What stands behind it is lost, even if it is right.
		checkRecover(t, summed(first)+summed(text)+summed(first), 30, read(t, first))
	}
	for _, text := range []string{
		"delete from t ;",
		"delete from t where a = 1 and b ;",
		"delete from t where ( a = 1 ) = b ;",
		"delete from t where not a is null ;",
		"delete from t where a = - 1 ;",
		"delete from t where a = 1000000000000000 ;",
		"show select a . b from t order by a limit 50 ;",
		"delete from t where " + strings.Repeat("not ", 19) + "a ;",
		"insert into t values ( '\n\t  ' ) ;",
		"insert into t values ( 1 )" + strings.Repeat(" , ( 1 )", api.MaxRows-1) + " ;",
	} {
		checkRecover(t, summed(first)+summed(text)+summed(first), 60+len(text)+4, read(t, first, text, first))
	}
}

func TestP2LongTexts(t *testing.T) {
	most := insert(t, api.MaxSource)
	b, _ := Bytes([]api.Stmt{most})
	checkRecover(t, string(b), api.MaxSource+4, []api.Stmt{most})
	// One byte more, in a name, is more than MaxSource.
	text := strings.Replace(string(b[2:len(b)-2]), " t ", " tt ", 1)
	checkRecover(t, summed(text), 0, nil)
	checkRecover(t, summed(strings.Repeat(" ", 0xffff)), 0, nil)
	checkRecover(t, summed(strings.Repeat("delete from t ; ", 4000)), 0, nil)
}

func TestP2ShortBytes(t *testing.T) {
	for _, b := range []string{"\x00", "\x00\x00", "\x00\x00\x1d", "\x00\x00\x00\x00", "\xff\xff", "\xff\xff\x00\x00", "\x00\x01;", "\x00\x01;\x00"} {
		checkRecover(t, b, 0, nil)
	}
}

func TestP2MaxLog(t *testing.T) {
	l := filling(t, api.MaxLog)
	b, _ := Bytes(l)
	checkRecover(t, string(b), api.MaxLog, l)
	for _, long := range [][]byte{append(b, 0), append(b, b...), make([]byte, api.MaxLog+1)} {
		if got, n, err := Recover(long); err != api.ErrMuch || got != nil || n != 0 {
			t.Errorf("of %d bytes %d statements, %d and error %d come", len(long), len(got), n, err)
		}
	}
	checkRecover(t, string(make([]byte, api.MaxLog)), 0, nil)
	// There may be more of them than a text may have.
	short := strings.Repeat(summed("delete from t ;"), api.MaxLog/19)
	got, n, err := Recover([]byte(short))
	if err != api.OK || n != len(short) || len(got) != api.MaxLog/19 {
		t.Errorf("%d statements, %d bytes and error %d come", len(got), n, err)
	}
}
