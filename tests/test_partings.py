"""Points 10 to 12: names that are parted, roads that are open, the reach of a name."""

import itertools
import unittest

from arrowfind.errors import NoName, Twice
from arrowfind.nets import net_made
from arrowfind.partings import are_parted, open_road, reach_of
from arrowfind.roads import all_roads, is_open
from tests.helper import (
    NAMES, Case, all_tied, every_net, joined_above, lists_of, others_of, slow_below, slow_meetings,
    slow_open, slow_parted, slow_reach, slow_tied, steps_of, thrown_nets,
)


def small_nets():
    for size in (2, 3, 4):
        yield from every_net(size)
    yield from thrown_nets(sizes=(5,), each=10)


def large_asks():
    """Asks of nets of five to eight names: every two of them, beside lists of any length."""
    for place, net in enumerate(thrown_nets(sizes=(5, 6, 7, 8), each=10)):
        for one, other in itertools.permutations(net[0], 2):
            lists = list(lists_of(others_of(net, one, other)))
            for held in lists[place % 5::5]:
                yield net, one, other, held


class ReachTest(Case):
    def test_of_any_name_beside_any_list(self):
        for net in itertools.chain(every_net(1), small_nets(), thrown_nets(sizes=(6,))):
            for one in net[0]:
                for held in lists_of(others_of(net, one)):
                    self.assertEqual(reach_of(net, one, held), slow_reach(net, one, held))

    def test_in_larger_nets(self):
        for net in thrown_nets(sizes=(7, 8)):
            for one in net[0]:
                for held in list(lists_of(others_of(net, one)))[::7]:
                    self.assertEqual(reach_of(net, one, held), slow_reach(net, one, held))

    def test_along_a_row_of_arrows(self):
        net = net_made(["c", "b", "a"], [("a", "b"), ("b", "c")])
        self.assertEqual(reach_of(net, "a", []), [("c", True), ("b", True)])
        self.assertEqual(reach_of(net, "a", ["b"]), [("b", True), ("a", False)])
        self.assertEqual(reach_of(net, "b", []), [("c", True), ("b", True), ("a", False)])
        self.assertEqual(reach_of(net, "c", []), [("c", True), ("b", False), ("b", True), ("a", False)])
        self.assertEqual(reach_of(net, "c", ["b"]), [("b", False)])

    def test_the_name_itself_and_held_ones_are_told(self):
        net = net_made(["a", "b", "c"], [("a", "b"), ("c", "b")])
        self.assertEqual(reach_of(net, "a", []), [("b", True)])
        self.assertEqual(reach_of(net, "a", ["b"]), [("a", False), ("b", True), ("c", False)])

    def test_a_held_one_far_below(self):
        net = net_made(["a", "b", "c", "d", "e"], [("a", "b"), ("c", "b"), ("b", "d"), ("d", "e")])
        self.assertEqual(
            reach_of(net, "a", ["e"]),
            [("a", False), ("b", False), ("b", True), ("c", False), ("d", False), ("d", True), ("e", True)],
        )

    def test_a_name_without_ties(self):
        net = net_made(["a", "b", "c"], [("b", "c")])
        self.assertEqual(reach_of(net, "a", []), [])
        self.assertEqual(reach_of(net, "a", ["c", "b"]), [])
        self.assertEqual(reach_of(net_made(["a"], []), "a", []), [])

    def test_held_in_any_order(self):
        for net in thrown_nets(sizes=(5,), each=4):
            for one in net[0]:
                for some in lists_of(others_of(net, one)):
                    told = reach_of(net, one, some)
                    for held in itertools.permutations(some):
                        self.assertEqual(reach_of(net, one, list(held)), told)

    def test_no_spot_just_where_parted(self):
        for net in small_nets():
            for one, other in itertools.permutations(net[0], 2):
                for held in lists_of(others_of(net, one, other)):
                    names = [name for name, _ in reach_of(net, one, held)]
                    self.assertIs(other not in names, slow_parted(net, one, other, held))

    def test_pairs_of_a_name_and_a_truth_in_a_list_of_its_own(self):
        net = net_made(["a", "b"], [("a", "b")])
        told = reach_of(net, "a", [])
        self.assertIs(type(told), list)
        self.assertIs(type(told[0]), tuple)
        self.assertIs(told[0][1], True)
        self.assertIs(reach_of(net, "b", [])[0][1], False)
        told.clear()
        self.assertEqual(reach_of(net, "a", []), [("b", True)])

    def test_strange_names(self):
        net = net_made(["a", "b", "c"], [("a", "b")])
        for one, held in (("x", []), ("x", ["a"]), ("a", ["x"]), ("a", ["b", "x"]), ("x", ["y"]), ("", [])):
            self.refused(NoName, reach_of, net, one, held)

    def test_names_twice(self):
        net = net_made(["a", "b", "c"], [("a", "b")])
        for one, held in (("a", ["a"]), ("a", ["b", "a"]), ("a", ["b", "b"]), ("a", ["c", "b", "c"])):
            self.refused(Twice, reach_of, net, one, held)

    def test_strange_names_go_ahead_of_names_twice(self):
        net = net_made(["a", "b", "c"], [("a", "b")])
        for one, held in (("x", ["x"]), ("x", ["b", "b"]), ("a", ["a", "x"]), ("a", ["b", "b", "x"])):
            self.refused(NoName, reach_of, net, one, held)


class PartedTest(Case):
    def test_just_where_no_road_is_open(self):
        for net in small_nets():
            for one, other in itertools.permutations(net[0], 2):
                roads = all_roads(net, one, other)
                for held in lists_of(others_of(net, one, other)):
                    truth = not any([is_open(net, road, held) for road in roads])
                    self.assertIs(are_parted(net, one, other, held), truth)

    def test_in_larger_nets(self):
        truths = []
        for net, one, other, held in large_asks():
            truths.append(are_parted(net, one, other, held))
            self.assertIs(truths[-1], not joined_above(net, one, other, held))
        self.assertEqual(set(truths), {True, False})

    def test_the_same_either_way_round_and_in_any_order(self):
        for net in thrown_nets(sizes=(5,), each=6):
            for one, other in itertools.combinations(net[0], 2):
                for some in lists_of(others_of(net, one, other)):
                    truth = are_parted(net, one, other, some)
                    for held in itertools.permutations(some):
                        self.assertIs(are_parted(net, one, other, list(held)), truth)
                        self.assertIs(are_parted(net, other, one, list(held)), truth)

    def test_by_no_held_name(self):
        net = net_made(["a", "b", "c", "d"], [("a", "c"), ("b", "c")])
        self.assertIs(are_parted(net, "a", "b", []), True)
        self.assertIs(are_parted(net, "a", "d", []), True)
        self.assertIs(are_parted(net, "a", "c", []), False)

    def test_tied_names_never_are(self):
        for net in every_net(4):
            for one, other in net[1]:
                for held in lists_of(others_of(net, one, other)):
                    self.assertIs(are_parted(net, one, other, held), False)

    def test_what_is_handed_in_stays(self):
        net = net_made(["a", "b", "c", "d"], [("a", "b"), ("c", "b"), ("b", "d")])
        held = ["d", "b"]
        for function in (are_parted, open_road):
            function(net, "a", "c", held)
            self.assertEqual(held, ["d", "b"])
        reach_of(net, "a", held)
        self.assertEqual(held, ["d", "b"])
        self.assertEqual(net, (tuple("abcd"), (("a", "b"), ("b", "d"), ("c", "b"))))

    def test_answers_hang_on_what_is_asked_alone(self):
        first = net_made(["a", "b", "c"], [("a", "b"), ("b", "c")])
        second = net_made(["a", "b", "c"], [("a", "b"), ("c", "b")])
        held = ["b"]
        for _ in range(2):
            self.assertIs(are_parted(first, "a", "c", held), True)
            self.assertIs(are_parted(second, "a", "c", held), False)
            held.clear()
            self.assertIs(are_parted(first, "a", "c", held), False)
            self.assertIs(are_parted(second, "a", "c", held), True)
            held.append("b")


class OpenRoadTest(Case):
    def is_told_right(self, net, one, other, held, told):
        self.assertIs(type(told), tuple)
        road, downs = told
        self.assertIs(type(road), list)
        self.assertEqual((road[0], road[-1]), (one, other))
        self.assertEqual(len(road), len(set(road)), road)
        for pair in zip(road, road[1:]):
            self.assertTrue(slow_tied(net, *pair), road)
        self.assertTrue(slow_open(net, road, held), road)
        self.assertIs(type(downs), list)
        meetings = slow_meetings(net, road)
        self.assertEqual([down[0] for down in downs], meetings)
        for down in downs:
            self.goes_down(net, held, down)

    def goes_down(self, net, held, down):
        self.assertIs(type(down), list)
        self.assertIn(down[-1], held)
        if down[0] in held:
            self.assertEqual(len(down), 1)
        for arrow in zip(down, down[1:]):
            self.assertIn(arrow, net[1])

    def test_in_small_nets(self):
        for net in small_nets():
            for one, other in itertools.permutations(net[0], 2):
                for held in lists_of(others_of(net, one, other)):
                    told = open_road(net, one, other, held)
                    self.assertIs(told is None, slow_parted(net, one, other, held))
                    if told is not None:
                        self.is_told_right(net, one, other, held, told)

    def test_in_larger_nets(self):
        most = 0
        for net, one, other, held in large_asks():
            told = open_road(net, one, other, held)
            self.assertIs(told is None, not joined_above(net, one, other, held))
            self.assertIs(told is None, are_parted(net, one, other, held))
            if told is not None:
                self.is_told_right(net, one, other, held, told)
                most = max(most, len(told[1]))
        self.assertGreaterEqual(most, 2)

    def test_one_road_alone(self):
        net = net_made(["c", "b", "a"], [("a", "b"), ("b", "c")])
        self.assertEqual(open_road(net, "a", "c", []), (["a", "b", "c"], []))
        self.assertEqual(open_road(net, "c", "a", []), (["c", "b", "a"], []))
        self.assertEqual(open_road(net, "b", "a", ["c"]), (["b", "a"], []))
        self.assertIs(open_road(net, "a", "c", ["b"]), None)

    def test_a_meeting_that_is_held_itself(self):
        net = net_made(list("abcd"), [("a", "b"), ("c", "b"), ("b", "d")])
        self.assertEqual(open_road(net, "a", "c", ["b"]), (["a", "b", "c"], [["b"]]))
        self.assertEqual(open_road(net, "a", "c", ["d", "b"]), (["a", "b", "c"], [["b"]]))
        self.assertIs(open_road(net, "a", "c", []), None)

    def test_a_held_one_far_below_a_meeting(self):
        names = list("hgfedcba")
        row = [("b", "d"), ("d", "e"), ("e", "f"), ("f", "g"), ("g", "h")]
        net = net_made(names, [("a", "b"), ("c", "b")] + row)
        self.assertEqual(open_road(net, "a", "c", ["h"]), (["a", "b", "c"], [list("bdefgh")]))
        # No road goes twice by a name, though the way down and up again does.
        self.assertEqual(open_road(net, "c", "a", ["d"]), (["c", "b", "a"], [["b", "d"]]))
        net = net_made(names, [("a", "b"), ("c", "b"), ("b", "g"), ("g", "h"), ("b", "d"), ("e", "h")])
        self.assertEqual(open_road(net, "a", "c", ["h"]), (["a", "b", "c"], [list("bgh")]))

    def test_several_meetings_in_one_road(self):
        arrows = [("a", "b"), ("c", "b"), ("c", "d"), ("e", "d"), ("e", "f"), ("g", "f"), ("f", "h")]
        net = net_made(list("hgfedcba"), arrows)
        road = list("abcdefg")
        self.assertEqual(open_road(net, "a", "g", ["h", "d", "b"]), (road, [["b"], ["d"], ["f", "h"]]))
        self.assertEqual(open_road(net, "g", "a", ["b", "d", "h"]), (road[::-1], [["f", "h"], ["d"], ["b"]]))
        for held in (["h", "d"], ["b", "h"], ["d", "b"], ["h", "d", "b", "c"]):
            self.assertIs(open_road(net, "a", "g", held), None)

    def test_one_held_name_below_several_meetings(self):
        net = net_made(list("abcdef"), [("a", "b"), ("c", "b"), ("c", "d"), ("e", "d"), ("b", "f"), ("d", "f")])
        told = open_road(net, "a", "e", ["f"])
        self.is_told_right(net, "a", "e", ["f"], told)
        self.assertIs(open_road(net, "a", "e", ["c", "f"]) is None, slow_parted(net, "a", "e", ["c", "f"]))

    def test_tied_names_with_all_others_held(self):
        nets = list(every_net(4)) + list(thrown_nets(sizes=(8,))) + [all_tied(NAMES)]
        for net in nets:
            for one, other in net[1]:
                held = others_of(net, one, other)
                self.is_told_right(net, one, other, held, open_road(net, one, other, held))
                self.is_told_right(net, other, one, held, open_road(net, other, one, held))

    def test_told_lists_emptied_change_no_later_answer(self):
        net = net_made(list("abcdef"), [("a", "b"), ("c", "b"), ("c", "d"), ("e", "d"), ("d", "f")])
        held = ["f", "b"]
        told = (list("abcde"), [["b"], ["d", "f"]])
        for _ in range(2):
            road, downs = open_road(net, "a", "e", held)
            self.assertEqual((road, downs), told)
            self.assertEqual(held, ["f", "b"])
            for down in downs:
                down.clear()
            self.assertEqual((road, held), (told[0], ["f", "b"]))
            downs.clear()
            road.clear()

    def test_held_emptied_leaves_what_was_told(self):
        net = net_made(list("abc"), [("a", "b"), ("c", "b")])
        held = ["b"]
        told = open_road(net, "a", "c", held)
        held.clear()
        self.assertEqual(told, (["a", "b", "c"], [["b"]]))

    def test_meetings_need_a_held_one_of_their_own_below(self):
        net = net_made(list("abcd"), [("a", "b"), ("c", "b"), ("d", "a")])
        self.assertNotIn("d", slow_below(net, "b"))
        self.assertIs(open_road(net, "a", "c", ["d"]), None)


class RefusedTest(Case):
    def each_refused(self, error, asks):
        net = net_made(list("abcd"), [("a", "b"), ("c", "b")])
        for function in (are_parted, open_road):
            for one, other, held in asks:
                self.refused(error, function, net, one, other, held)

    def test_strange_names(self):
        self.each_refused(NoName, [
            ("x", "a", []), ("a", "x", []), ("x", "y", []), ("a", "b", ["x"]), ("a", "c", ["b", "x"]),
            ("a", "A", []), ("", "a", []),
        ])

    def test_names_twice(self):
        self.each_refused(Twice, [
            ("a", "a", []), ("a", "a", ["b"]), ("a", "b", ["a"]), ("a", "b", ["b"]), ("a", "b", ["c", "b"]),
            ("a", "b", ["c", "c"]), ("a", "b", ["d", "c", "d"]), ("b", "a", ["d", "a"]),
        ])

    def test_strange_names_go_ahead_of_names_twice(self):
        self.each_refused(NoName, [
            ("x", "x", []), ("a", "a", ["x"]), ("a", "b", ["a", "x"]), ("a", "b", ["c", "c", "x"]),
            ("x", "b", ["b"]), ("a", "x", ["c", "c"]), ("a", "b", ["x", "x"]), ("a", "x", ["a"]),
        ])


class MomentTest(Case):
    def test_eight_names_all_tied(self):
        for net in (all_tied(NAMES), all_tied(NAMES[::-1])):
            for one, other in ((NAMES[0], NAMES[7]), (NAMES[7], NAMES[0]), (NAMES[3], NAMES[4])):
                for held in ([], others_of(net, one, other), [NAMES[5]]):
                    self.assertLess(steps_of(are_parted, net, one, other, held), 20000)
                    self.assertLess(steps_of(open_road, net, one, other, held), 20000)
                    self.assertLess(steps_of(reach_of, net, one, held), 20000)

    def test_eight_names_all_tied_but_two(self):
        names, arrows = all_tied(NAMES)
        for gap in (0, 6, 13, 27):
            net = (names, arrows[:gap] + arrows[gap + 1:])
            one, other = arrows[gap]
            for held in ([], others_of(net, one, other)):
                self.assertLess(steps_of(are_parted, net, one, other, held), 20000)
                self.assertLess(steps_of(open_road, net, other, one, held), 20000)


if __name__ == "__main__":
    unittest.main()
