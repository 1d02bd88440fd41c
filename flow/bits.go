package flow

// spelledAll gives the words of each cycle as bits, those of inputs of these widths.
func spelledAll(trace [][]uint64, widths []int) [][]bool {
	rows := make([][]bool, len(trace))
	for i, row := range trace {
		rows[i] = spelled(row, widths)
	}
	return rows
}

// spelled gives words as bits, the lowest first. Each word has as many as its width says, or a word that is too wide would move those behind it.
func spelled(row []uint64, widths []int) []bool {
	var bits []bool
	for i, width := range widths {
		word := uint64(0)
		if i < len(row) {
			word = row[i]
		}
		for k := range width {
			bits = append(bits, word>>k&1 == 1)
		}
	}
	return bits
}

// wordsOfAll gives the bits of each cycle as words of these widths.
func wordsOfAll(rows [][]bool, widths []int) [][]uint64 {
	words := make([][]uint64, len(rows))
	for i, row := range rows {
		words[i] = wordsOf(row, widths)
	}
	return words
}

// wordsOf takes words from bits, as many as there are widths: a fabric may have more outputs than the module has.
func wordsOf(bits []bool, widths []int) []uint64 {
	words := make([]uint64, len(widths))
	for i, width := range widths {
		for k, bit := range bits[:width] {
			if bit {
				words[i] |= 1 << k
			}
		}
		bits = bits[width:]
	}
	return words
}
