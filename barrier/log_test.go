package barrier

import (
	"slices"
	"testing"

	"moonpool/api"
)

// number is a number of a log.
func number(n int64) string {
	var b []byte
	for shift := 56; shift >= 0; shift -= 8 {
		b = append(b, byte(n>>shift))
	}
	return string(b)
}

// numbers are those after the mark.
func numbers(l ...int64) string {
	b := "mpl1"
	for _, n := range l {
		b += number(n)
	}
	return b
}

func TestP9_4Log(t *testing.T) {
	s := api.Site{Tick: 10, Crew: 3, Holder: 1, Offer: -1, Press: 258, Broken: -1, House: api.House{Elements: []api.Element{sound(9, 1, 99), {}}, Envelopes: [][]int{{0, 1}, {1}}, Need: 2}, Permits: []api.Permit{{Op: 3, Who: 2, Until: 44}, {Op: 5}}}
	l := []api.Entry{entry(11, 12, 13, -14, 15, -1<<63)}
	want := numbers(10, 3, 1, -1, 258, 2, 2, 9, 1, 99, 0, 0, 0, 0, 2, 2, 0, 1, 1, 1, 2, 2, 3, 2, 44, 0, 5, 0, 0, 0, -1, 1, 11, 12, 13, -14, 15, -1<<63)
	b, e := Log(s, l)
	if b != want || e != api.OK {
		t.Error([]byte(b), e)
	}
	if x, m, e := Read(b); !Same(x, s) || !slices.Equal(m, l) || e != api.OK {
		t.Error(x, m, e)
	}
	if x, n, e := Replay(b); !Same(x, s) || n != 0 || e != api.ErrRange {
		t.Error(x, n, e)
	}
	w := working()
	b, e = Log(w, nil)
	if want := numbers(10, 3, 0, -1, 1000, 4, 2, 1000, 0, 100, 2, 2000, 0, 100, 2, 1500, 0, 50, 1, 0, 0, 0, 4, 2, 0, 1, 2, 1, 2, 1, 2, 1, 3, 2, 1, 5, 2, 20, 1, -1, 0); b != want || e != api.OK {
		t.Error([]byte(b), e)
	}
	if x, m, e := Read(b); !Same(x, w) || m != nil || e != api.OK {
		t.Error(x, m, e)
	}
	most := make([]api.Entry, 201)
	if b, e := Log(s, most); b != "" || e != api.ErrFull {
		t.Error(e)
	}
	b, e = Log(s, most[:200])
	if x, m, f := Read(b); e != api.OK || f != api.OK || len(m) != 200 || !Same(x, s) {
		t.Error(e, f)
	}
}

func TestP9_4Read(t *testing.T) {
	good, _ := Log(working(), []api.Entry{entry(11, 1, 2, 3, 4, 5)})
	site := []int64{10, 3, 0, -1, 1000, 1, 2, 1000, 0, 100, 1, 1, 0, 1, 0, -1, 0}
	if _, _, e := Read(numbers(site...)); e != api.OK {
		t.Fatal(e)
	}
	with := func(i int, n int64) string {
		l := slices.Clone(site)
		l[i] = n
		return numbers(l...)
	}
	open := numbers(10, 3, 0, -1, 1000, 1, 2, 1000, 0, 100, 1, 1, 0, 1, 1, 5, 2, 20, 2, -1, 0)
	many := numbers(site[:16]...) + number(201) + string(make([]byte, 201*48))
	for i, b := range []string{
		"", "mpl1", "mpl", "mpl2" + good[4:], "Mpl1" + good[4:], good[:len(good)-1], good + "x", good + number(0), good[4:], "mpl1" + good,
		with(0, -1), with(1, 0), with(5, 2), with(5, 0), with(5, -1), with(5, 1<<62), with(6, 4), with(10, 2), with(10, -1<<63), with(11, 0), with(12, 1), with(13, 0), with(13, 4), with(14, 1), with(14, -1), with(15, 0), with(16, 1), with(16, -1), with(16, 1<<63-1),
		open, many, string(make([]byte, 100000)),
	} {
		s, l, e := Read(b)
		x, n, f := Replay(b)
		if e != api.ErrForm || f != api.ErrForm || !Same(s, api.Site{}) || l != nil || !Same(x, api.Site{}) || n != 0 {
			t.Error(i, e, f)
		}
	}
	for i := range len(good) {
		if _, _, e := Read(good[:i]); e != api.ErrForm {
			t.Error(i, e)
		}
		b := []byte(good)
		b[i] ^= 128
		s, l, e := Read(string(b))
		if again, _ := Log(s, l); e == api.OK && again != string(b) || e != api.OK && e != api.ErrForm {
			t.Error(i, e)
		}
	}
}
