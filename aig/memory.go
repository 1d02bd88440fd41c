package aig

import "slices"

// lines tells for each word of a memory whether an address is the word's, and a literal true.
func (g *gates) lines(words int, address []int, isOn int) []int {
	bits := 0
	for 1<<bits < words {
		bits++
	}
	if bits < len(address) {
		isOn = g.and(isOn, opposite(g.some(address[bits:])))
	}
	all := []int{isOn}
	for i := bits - 1; i >= 0; i-- {
		bit := no
		if i < len(address) {
			bit = address[i]
		}
		all = g.halved(all, bit, (words-1)>>i+1)
	}
	return all
}

// halved asks one more bit: of each line there come two, as long as there are words.
func (g *gates) halved(lines []int, bit, most int) []int {
	var all []int
	for _, l := range lines {
		all = append(all, g.and(l, opposite(bit)), g.and(l, bit))
	}
	return all[:most]
}

// read is the word that an address tells; 0, if there is none.
func (g *gates) read(words [][]int, address []int) []int {
	lines := g.lines(len(words), address, yes)
	all := make([]int, len(words[0]))
	for i := range all {
		column := make([]int, len(words))
		for k := range words {
			column[k] = g.and(lines[k], words[k][i])
		}
		all[i] = g.some(column)
	}
	return all
}

// written tells what the words of all memories become, one write after the other.
func (b *blaster) written() [][][]int {
	next := make([][][]int, len(b.mems))
	for i := range next {
		next[i] = slices.Clone(b.mems[i])
	}
	for _, w := range b.Writes {
		words := next[w.Mem]
		lines := b.lines(len(words), b.words[w.Addr], b.words[w.When][0])
		for k := range words {
			words[k] = b.chosen(lines[k], b.words[w.Data], words[k])
		}
	}
	return next
}
