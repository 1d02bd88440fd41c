package pattern

import (
	"math/rand"
	"slices"
	"testing"
)

// TestClasses: against classes that are made of all that the variables are worth.
func TestClasses(t *testing.T) {
	r := rand.New(rand.NewSource(13))
	for range 200 {
		const variables = 60
		turned := make([]bool, variables)
		kinds := make([]int, variables) // variables of a kind are worth the same, but that some are turned
		firstBlock := make([]Block, variables)
		for v := range kinds {
			kinds[v] = r.Intn(12)
			turned[v] = r.Intn(2) == 0
			firstBlock[v] = Filled(turned[v])
		}
		whole := NewClasses(firstBlock)
		parts := []*Classes{whole.Clone(), whole.Clone()}
		met := make([][]uint64, variables)
		for i := range 4 {
			var worth [12]Block
			for kind := range worth {
				worth[kind] = Filled(r.Intn(2) == 0)
				worth[kind][r.Intn(BlockWords)] ^= uint64(r.Intn(2)) << r.Intn(64)
			}
			values := make([]Block, variables)
			for v := range values {
				values[v] = worth[kinds[v]]
				met[v] = append(met[v], values[v][:]...)
				for k := range values[v] {
					if turned[v] {
						values[v][k] = ^values[v][k]
					}
				}
			}
			parts[i%2].TellApart(values)
			if v := r.Intn(variables); i < 2 && r.Intn(2) == 0 {
				parts[0].Drop(v)
				parts[1].Drop(v)
				whole.Drop(v)
			}
		}
		for _, p := range parts {
			whole.Join(p)
		}
		for v := range variables {
			alone := true
			for w := range variables {
				if whole.class[v] == gone || whole.class[w] == gone || v == w {
					continue
				}
				is := slices.Equal(met[v], met[w])
				if is != (whole.class[v] == whole.class[w]) {
					t.Fatalf("%d and %d: %v", v, w, whole.class)
				}
				alone = alone && !is
			}
			if alone != whole.IsAlone(v) {
				t.Fatalf("%d alone: %v", v, whole.class)
			}
		}
	}
}
