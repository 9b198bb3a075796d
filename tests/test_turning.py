"""Points 16 and 17, and of point 3 what they bear: arrows turned, chains from net to net."""

import itertools
import unittest

from arrowfind.errors import Locked, NoArrow, NoName, Unlike
from arrowfind.nets import net_made
from arrowfind.sameness import say_same
from arrowfind.turning import chain_to, net_turned, turnable_in
from tests.helper import (
    NAMES, Case, Dice, all_tied, by_turns, comes_round, every_net, nets_alike, slow_corners,
    slow_partings, slow_turnable, slow_turned, some_nets, steps_of, thrown_nets, turned_about,
)


class TurnableTest(Case):
    def test_by_the_elders_of_tail_and_head(self):
        for net in some_nets():
            self.assertEqual(turnable_in(net), slow_turnable(net))

    def test_just_those_whose_turning_leaves_a_net_that_says_the_same(self):
        for net in itertools.chain(every_net(3), every_net(4), thrown_nets(sizes=(5,))):
            told = slow_partings(net)
            keeping = []
            for arrow in net[1]:
                turned = slow_turned(net, arrow)
                if not comes_round(*turned) and slow_partings(turned) == told:
                    keeping.append(arrow)
            self.assertEqual(turnable_in(net), keeping)

    def test_sorted_by_the_names_places(self):
        net = net_made(["d", "c", "b", "a"], [("a", "d"), ("c", "b")])
        self.assertEqual(turnable_in(net), [("c", "b"), ("a", "d")])
        net = net_made(["c", "b", "a"], [("a", "b"), ("b", "c"), ("a", "c")])
        self.assertEqual(turnable_in(net), [("b", "c"), ("a", "b")])

    def test_none(self):
        self.assertEqual(turnable_in(net_made(["a"], [])), [])
        self.assertEqual(turnable_in(net_made(["a", "b", "c"], [("a", "b"), ("c", "b")])), [])

    def test_told_list_emptied(self):
        net = net_made(["a", "b"], [("b", "a")])
        turnable_in(net).clear()
        self.assertEqual(turnable_in(net), [("b", "a")])
        self.assertEqual(net, (("a", "b"), (("b", "a"),)))


class TurnedTest(Case):
    def test_a_net_as_net_made_tells_it(self):
        for net in some_nets():
            for tail, head in slow_turnable(net):
                arrows = [arrow for arrow in net[1] if arrow != (tail, head)] + [(head, tail)]
                turned = net_turned(net, tail, head)
                self.assertEqual(turned, net_made(list(net[0]), arrows))
                self.assertEqual(turned, slow_turned(net, (tail, head)))
                self.assertIs(type(turned), tuple)
                self.assertEqual([type(part) for part in turned], [tuple, tuple])

    def test_says_the_same(self):
        for net in itertools.chain(every_net(4), thrown_nets(sizes=(5,))):
            told = slow_partings(net)
            for tail, head in turnable_in(net):
                turned = net_turned(net, tail, head)
                self.assertEqual(slow_partings(turned), told)
                self.assertIs(say_same(net, turned), True)

    def test_there_and_back(self):
        for net in thrown_nets():
            for tail, head in turnable_in(net):
                turned = net_turned(net, tail, head)
                self.assertIn((head, tail), turnable_in(turned))
                self.assertEqual(net_turned(turned, head, tail), net)

    def test_the_net_handed_in_stays(self):
        net = net_made(["b", "a", "c"], [("a", "b"), ("b", "c")])
        self.assertEqual(net_turned(net, "a", "b"), (("b", "a", "c"), (("b", "a"), ("b", "c"))))
        self.assertEqual(net, (("b", "a", "c"), (("b", "c"), ("a", "b"))))

    def test_strange_names(self):
        net = net_made(["a", "b", "c"], [("a", "b")])
        for tail, head in (("x", "b"), ("a", "x"), ("x", "y"), ("x", "x"), ("A", "b"), ("a", "")):
            self.refused(NoName, net_turned, net, tail, head)

    def test_no_such_arrow(self):
        net = net_made(["a", "b", "c"], [("a", "b")])
        for tail, head in (("a", "c"), ("c", "a"), ("b", "c"), ("a", "a"), ("c", "c"), ("b", "a")):
            self.refused(NoArrow, net_turned, net, tail, head)

    def test_the_other_way_round_of_a_locked_one_is_no_arrow(self):
        net = net_made(["a", "b", "c"], [("a", "b"), ("c", "b")])
        self.refused(NoArrow, net_turned, net, "b", "a")
        self.refused(Locked, net_turned, net, "a", "b")

    def test_locked(self):
        corner = net_made(["a", "b", "c"], [("a", "b"), ("c", "b")])
        row = net_made(["a", "b", "c"], [("a", "b"), ("b", "c")])
        ring = net_made(["a", "b", "c"], [("a", "b"), ("b", "c"), ("a", "c")])
        for net, tail, head in ((corner, "a", "b"), (corner, "c", "b"), (row, "b", "c"), (ring, "a", "c")):
            self.refused(Locked, net_turned, net, tail, head)

    def test_every_two_names_are_turned_or_refused(self):
        for net in some_nets():
            can = slow_turnable(net)
            for tail, head in itertools.product(net[0], repeat=2):
                if (tail, head) not in net[1]:
                    self.refused(NoArrow, net_turned, net, tail, head)
                elif (tail, head) not in can:
                    self.refused(Locked, net_turned, net, tail, head)
                else:
                    self.assertIn((head, tail), net_turned(net, tail, head)[1])

    def test_strange_names_go_ahead_of_all(self):
        net = net_made(["a", "b", "c"], [("a", "b"), ("c", "b")])
        for name in net[0]:
            self.refused(NoName, net_turned, net, name, "x")
            self.refused(NoName, net_turned, net, "x", name)


class ChainTest(Case):
    def is_chain(self, first, second):
        chain = chain_to(first, second)
        self.assertIs(type(chain), list)
        self.assertEqual(len(chain), len([arrow for arrow in first[1] if arrow not in second[1]]))
        net = first
        for arrow in chain:
            self.assertIs(type(arrow), tuple)
            self.assertIn(arrow, slow_turnable(net))
            net = slow_turned(net, arrow)
        self.assertEqual(net, second)
        return chain

    def test_between_all_small_nets_that_say_the_same(self):
        for size in (1, 2, 3, 4):
            for nets in nets_alike(size):
                for first, second in itertools.product(nets, repeat=2):
                    self.is_chain(first, second)

    def test_in_larger_nets(self):
        longest = 0
        for place, net in enumerate(thrown_nets(sizes=(5, 6, 7, 8), each=12)):
            dice = Dice(place)
            for times in (1, 4, 30):
                second = turned_about(net, dice, times)
                longest = max(longest, len(self.is_chain(net, second)))
                self.is_chain(second, net)
        self.assertGreater(longest, 5)

    def test_between_nets_that_are_all_tied(self):
        net = all_tied(NAMES)
        dice = Dice(3)
        self.assertEqual(len(self.is_chain(net, by_turns(net, NAMES[::-1]))), 28)
        for _ in range(20):
            self.is_chain(by_turns(net, dice.shuffled(NAMES)), by_turns(net, dice.shuffled(NAMES)))

    def test_no_arrow_where_both_are_one(self):
        for net in some_nets():
            self.assertEqual(chain_to(net, net), [])
        made = [net_made(["a", "b", "c"], arrows) for arrows in (
            [("a", "b"), ("b", "c")], [("b", "c"), ("a", "b")],
        )]
        self.assertEqual(chain_to(*made), [])

    def test_one_arrow(self):
        first = net_made(["a", "b"], [("a", "b")])
        second = net_made(["a", "b"], [("b", "a")])
        self.assertEqual(chain_to(first, second), [("a", "b")])
        self.assertEqual(chain_to(second, first), [("b", "a")])

    def test_told_list_emptied(self):
        first = net_made(["a", "b"], [("a", "b")])
        second = net_made(["a", "b"], [("b", "a")])
        chain_to(first, second).clear()
        self.assertEqual(chain_to(first, second), [("a", "b")])
        self.assertEqual((first[1], second[1]), ((("a", "b"),), (("b", "a"),)))

    def test_nets_that_do_not_say_the_same(self):
        nets = [(net, slow_partings(net)) for net in every_net(3)]
        for (first, firsts), (second, seconds) in itertools.product(nets, repeat=2):
            if firsts != seconds:
                self.refused(Unlike, chain_to, first, second)

    def test_same_ties_and_unlike_corners(self):
        refused = 0
        for place, net in enumerate(thrown_nets()):
            second = by_turns(net, Dice(place).shuffled(net[0]))
            if sorted(slow_corners(net)) != sorted(slow_corners(second)):
                refused += 1
                self.refused(Unlike, chain_to, net, second)
                self.refused(Unlike, chain_to, second, net)
        self.assertGreater(refused, 10)

    def test_one_arrow_more(self):
        net = all_tied(NAMES)
        self.refused(Unlike, chain_to, net, (net[0], net[1][:-1]))
        self.refused(Unlike, chain_to, (net[0], net[1][:-1]), net)


class MomentTest(Case):
    def test_eight_names_all_tied(self):
        net = all_tied(NAMES)
        self.assertLess(steps_of(turnable_in, net), 20000)
        self.assertLess(steps_of(net_turned, net, NAMES[0], NAMES[1]), 20000)
        self.assertLess(steps_of(chain_to, net, by_turns(net, NAMES[::-1])), 500000)


if __name__ == "__main__":
    unittest.main()
