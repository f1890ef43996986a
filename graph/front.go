package graph

import "container/heap"

// arrange puts each part behind those that it needs; of those that may come next, the one goes first whose first member does, by compare.
func arrange(parts, needs [][]int, compare func(a, b int) int) [][]int {
	waits, behind := links(parts, needs)
	free := &front{ahead: func(a, b int) bool { return compare(parts[a][0], parts[b][0]) < 0 }}
	for i, n := range waits {
		if n == 0 {
			heap.Push(free, i)
		}
	}
	var row [][]int
	for free.Len() > 0 {
		i := free.least()
		heap.Pop(free)
		row = append(row, parts[i])
		for _, b := range behind[i] {
			waits[b]--
			if waits[b] == 0 {
				heap.Push(free, b)
			}
		}
	}
	return row
}

// links are, for each part, how many needs of its members lead out of it, and for each of those that lead to it whose it is.
func links(parts, needs [][]int) (waits []int, behind [][]int) {
	home := make([]int, len(needs))
	for i, part := range parts {
		for _, p := range part {
			home[p] = i
		}
	}
	waits, behind = make([]int, len(parts)), make([][]int, len(parts))
	for p, row := range needs {
		for _, n := range row {
			if home[n] != home[p] {
				waits[home[p]]++
				behind[home[n]] = append(behind[home[n]], home[p])
			}
		}
	}
	return waits, behind
}

// front is the parts that may come next, as container/heap keeps them; ahead says which one of two goes first.
type front struct {
	list  []int
	ahead func(a, b int) bool
}

func (f *front) least() int { return f.list[0] }

func (f *front) Len() int { return len(f.list) }

func (f *front) Less(i, j int) bool { return f.ahead(f.list[i], f.list[j]) }

func (f *front) Swap(i, j int) { f.list[i], f.list[j] = f.list[j], f.list[i] }

// Push is handed parts alone.
func (f *front) Push(x any) {
	if i, ok := x.(int); ok {
		f.list = append(f.list, i)
	}
}

func (f *front) Pop() any {
	last := len(f.list) - 1
	x := f.list[last]
	f.list = f.list[:last]
	return x
}
