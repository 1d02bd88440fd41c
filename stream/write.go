package stream

// mark is what every stream begins with.
const mark = "GWB1"

// writer puts bits behind each other, the highest of a byte first.
type writer struct {
	bytes []byte
	free  int // bits of the last byte that are not in use
}

// newWriter has written the mark.
func newWriter() *writer { return &writer{bytes: []byte(mark)} }

// put writes a number of so many bits, the highest first.
func (w *writer) put(number, width int) {
	for i := width - 1; i >= 0; i-- {
		if w.free == 0 {
			w.bytes = append(w.bytes, 0)
			w.free = 8
		}
		w.free--
		w.bytes[len(w.bytes)-1] |= byte(number>>i&1) << w.free
	}
}
