package optim

import (
	"container/heap"
	"slices"
)

// tree is values whose codes begin alike.
type tree struct {
	number int
	weight int
	values []int
}

// waiting is trees as a heap keeps them: the lightest is taken first, of as light ones that of the greatest number.
type waiting []tree

func (w waiting) Len() int { return len(w) }

func (w waiting) Less(i, j int) bool {
	if w[i].weight != w[j].weight {
		return w[i].weight < w[j].weight
	}
	return w[i].number > w[j].number
}

func (w waiting) Swap(i, j int) { w[i], w[j] = w[j], w[i] }

// Push lays a tree behind the others, as heap asks for it.
func (w *waiting) Push(x any) { *w = append(*w, x.(tree)) }

// Pop takes the one behind the others, as heap asks for it.
func (w *waiting) Pop() any {
	last := len(*w) - 1
	one := (*w)[last]
	*w = (*w)[:last]
	return one
}

// planted is a tree of each value that comes.
func planted(comes [all]int) waiting {
	var trees waiting
	for value, many := range comes {
		if many > 0 {
			trees = append(trees, tree{number: value, weight: many, values: []int{value}})
		}
	}
	heap.Init(&trees)
	return trees
}

// grown is how long a code each value is to have: a bit more with each two trees that become one.
func grown(comes [all]int) [all]int {
	var sizes [all]int
	trees := planted(comes)
	for trees.Len() > 1 {
		a := heap.Pop(&trees).(tree)
		b := heap.Pop(&trees).(tree)
		one := tree{number: a.number, weight: a.weight + b.weight, values: slices.Concat(a.values, b.values)}
		for _, value := range one.values {
			sizes[value]++
		}
		heap.Push(&trees, one)
	}
	return sizes
}
