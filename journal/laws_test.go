package journal

import (
	"testing"

	"tidemark/api"
)

// What lasts is what was written, and nothing else is written of it again.
func TestLawThereAndBack(t *testing.T) {
	m := maker{state: 3}
	for range 1500 {
		l := m.statements(t, 5)
		b, f := Bytes(l)
		if f != (api.Fault{}) {
			t.Fatalf("%v comes of\n%s", f, told(l))
		}
		checkRecover(t, string(b), len(b), l)
	}
}

// The records of some and of others are those of all, and so are their statements.
func TestLawOneBehindTheOther(t *testing.T) {
	m := maker{state: 4}
	for range 500 {
		l, more := m.statements(t, 4), m.statements(t, 4)
		a, _ := Bytes(l)
		b, _ := Bytes(more)
		all := append(l, more...)
		checkBytes(t, string(a)+string(b), all...)
		checkRecover(t, string(a)+string(b), len(a)+len(b), all)
	}
}

// Of whatever is torn, or spoilt, as many bytes are told as its statements are written with; they are those that it begins with, and what is ahead of the fault is there.
func TestLawSpoiltBytes(t *testing.T) {
	m := maker{state: 5}
	lost := 0
	for range 3000 {
		l := m.statements(t, 5)
		b, _ := Bytes(l)
		at := m.upTo(len(b) + 1)
		n := 0
		for ; n < len(l); n++ {
			if ahead, _ := Bytes(l[:n+1]); len(ahead) > at {
				break
			}
		}
		c := append([]byte{}, b[:at]...)
		for range m.upTo(4) {
			c = append(c, byte(m.upTo(256)))
		}
		if len(c) < len(b) && m.upTo(2) == 0 {
			c = append(c, b[len(c):]...)
		}
		got, size, err := Recover(c)
		again, f := Bytes(got)
		if err != api.OK || f != (api.Fault{}) || size > len(c) || string(again) != string(c[:size]) {
			t.Errorf("of %x error %d and %d bytes come, of what comes %v and %x", c, err, size, f, again)
		}
		if len(got) < n || told(got[:n]) != told(l[:n]) {
			t.Errorf("of %d statements ahead of the fault %d come", n, len(got))
		}
		if len(got) < len(l) {
			lost++
		}
	}
	if lost < 1000 {
		t.Errorf("something is lost only %d times", lost)
	}
}

// Where the bytes of one call end, those of the next one go on: behind a torn end, from what Recover tells on.
func TestLawGoOnBehindATornEnd(t *testing.T) {
	m := maker{state: 6}
	for range 500 {
		l, more := m.statements(t, 5), m.statements(t, 5)
		b, _ := Bytes(l)
		b = b[:m.upTo(len(b)+1)]
		left, n, _ := Recover(b)
		c, _ := Bytes(more)
		checkRecover(t, string(b[:n])+string(c), n+len(c), append(left, more...))
	}
}
