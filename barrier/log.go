package barrier

import (
	"strings"

	"moonpool/api"
)

// mark is how a log begins.
const mark = "mpl1"

// writer writes numbers of a log.
type writer struct {
	b []byte
}

func (w *writer) put(l ...int64) {
	for _, n := range l {
		for shift := 56; shift >= 0; shift -= 8 {
			w.b = append(w.b, byte(n>>shift))
		}
	}
}

// putRows writes how many rows there are, and each of them.
func putRows[T any](w *writer, l []T, row func(w *writer, x T)) {
	w.put(int64(len(l)))
	for _, x := range l {
		row(w, x)
	}
}

// flag is 1 for true.
func flag(b bool) int64 {
	if b {
		return 1
	}
	return 0
}

// written is the log of a site and entries.
func written(s api.Site, l []api.Entry) string {
	w := &writer{b: []byte(mark)}
	w.put(s.Tick, int64(s.Crew), int64(s.Holder), int64(s.Offer), s.Press)
	putRows(w, s.House.Elements, func(w *writer, x api.Element) { w.put(int64(x.State), x.Bears, x.Tested, x.Until) })
	putRows(w, s.House.Envelopes, func(w *writer, l []int) {
		putRows(w, l, func(w *writer, i int) { w.put(int64(i)) })
	})
	w.put(int64(s.House.Need))
	putRows(w, s.Permits, func(w *writer, p api.Permit) { w.put(int64(p.Op), int64(p.Who), p.Until, flag(p.Open)) })
	w.put(s.Broken)
	putRows(w, l, func(w *writer, e api.Entry) {
		w.put(e.Tick, int64(e.Kind), int64(e.Who), int64(e.At), int64(e.To), e.N)
	})
	return string(w.b)
}

// Log returns the log of a site and entries.
func Log(s api.Site, l []api.Entry) (string, api.Errno) {
	if e := Check(s); e != api.OK {
		return "", e
	}
	if len(l) > api.MaxEntries {
		return "", api.ErrFull
	}
	return written(s, l), api.OK
}

// reader reads numbers of a log; what is missing is read as 0.
type reader struct {
	rest string
}

func (r *reader) get() int64 {
	if len(r.rest) < 8 {
		return 0
	}
	n := uint64(0)
	for i := range 8 {
		n = n<<8 | uint64(r.rest[i])
	}
	r.rest = r.rest[8:]
	return int64(n)
}

func (r *reader) getInt() int {
	return int(r.get())
}

// getRows reads how many rows there are, and each of them. No log has more rows of a kind than entries, so a greater number is none.
func getRows[T any](r *reader, row func(r *reader) T) []T {
	n := r.get()
	if n > api.MaxEntries {
		return nil
	}
	var l []T
	for range n {
		l = append(l, row(r))
	}
	return l
}

// read reads a site and entries from what may be a log.
func read(b string) (api.Site, []api.Entry) {
	r := &reader{rest: strings.TrimPrefix(b, mark)}
	s := api.Site{Tick: r.get(), Crew: r.getInt(), Holder: r.getInt(), Offer: r.getInt(), Press: r.get()}
	s.House.Elements = getRows(r, func(r *reader) api.Element {
		return api.Element{State: r.getInt(), Bears: r.get(), Tested: r.get(), Until: r.get()}
	})
	s.House.Envelopes = getRows(r, func(r *reader) []int { return getRows(r, (*reader).getInt) })
	s.House.Need = r.getInt()
	s.Permits = getRows(r, func(r *reader) api.Permit {
		return api.Permit{Op: r.getInt(), Who: r.getInt(), Until: r.get(), Open: r.get() == 1}
	})
	s.Broken = r.get()
	l := getRows(r, func(r *reader) api.Entry {
		return api.Entry{Tick: r.get(), Kind: r.getInt(), Who: r.getInt(), At: r.getInt(), To: r.getInt(), N: r.get()}
	})
	return s, l
}

// Read returns the site and the entries of a log. A string is a log exactly if it is the log of what is read from it.
func Read(b string) (api.Site, []api.Entry, api.Errno) {
	s, l := read(b)
	if again, e := Log(s, l); e != api.OK || again != b {
		return api.Site{}, nil, api.ErrForm
	}
	return s, l, api.OK
}

// Replay returns what Run returns for what was recorded.
func Replay(b string) (api.Site, int, api.Errno) {
	s, l, e := Read(b)
	if e != api.OK {
		return api.Site{}, 0, e
	}
	return Run(s, l)
}
